/- Texts: HzB, HzC. -/
import Derived.Test.YtmgamlpjgghieaaGreatDoorZbGzXM
import Derived.Test.YtmgamlpjgghieaaGreatDoorZbGzT
namespace Go.Proofs.YtmgamlpjgghieaaGreatDoor
section
set_option linter.unusedVariables false
set_option linter.unusedSimpArgs false
open Go.RowKit
theorem EOwn.notBlk {α : Type} {E : El α} {w : World} {v : Value} {L : List α} {r : Nat} {t : TypeId} {cs : Array Value} (h : EOwn E w v L) (hb : Blk w r t cs) (hne : E.T ≠ t) : ∀ i, v.ownBlock = some i → i ≠ r := fun i e e2 => by
  subst e2
  rcases h with ⟨h9, _⟩ | ⟨g, cap, h9, cur, hcur, _⟩
  · rw [h9] at e; cases e
  · rw [h9] at e
    obtain rfl : g = i := by simpa [Value.ownBlock] using e
    exact Blk.ne_ hcur hb hne rfl
theorem TzOk.keep {w w' : World} (h : TzOk w) (hk : w'.heap[1]? = w.heap[1]?) : TzOk w' := fun j hj => (World.cell?_of_block (w := w) (a := ⟨1, j, none⟩) hk).trans (h j hj)
theorem TzOk.zero {w : World} (h : TzOk w) : w.cell? ⟨1, 0, none⟩ = some (.int .u8 0) := h 0 (by decide)
theorem TzOk.lt {w : World} (h : TzOk w) : 1 < w.heap.size := World.block_lt_of_cell? w _ h.zero
theorem TzOk.ne {w : World} (h : TzOk w) {g : Nat} {t : TypeId} {cs : Array Value} (hb : Blk w g t cs) (hc : cs[0]? ≠ some (.int .u8 0)) : 1 ≠ g := fun e => by
  have h1 := h.zero
  rw [e, hb.cell] at h1
  exact hc h1
/-- Bands under way. -/
structure BSt (w : World) (op ba : Nat) (ve : Value) (E : List Ed) (vt : Value) (ys : List Int) (L : List Pa) (f t : Int) (R : List Rn) (v u : Value) (wr : World) : Prop where
  pb : PB ba w.heap.size v L wr
  ob : Blk wr op 111 #[.int .i64 f, .int .i64 t, u]
  ow : EOwn elRn wr u R
  be : EOwn elEd wr ve E
  bt : EOwn elI wr vt ys
  tz : TzOk wr
  lo : BuP ba (.slice none 0 0) w wr
  wo : w.heap.size ≤ op
  wt : 1 < w.heap.size
section
variable {w wr X : World} {op ba : Nat} {ve vt v u v' u' : Value} {E : List Ed} {ys : List Int} {L M : List Pa} {f t f' t' : Int} {R R' : List Rn}
theorem BSt.below (h : BSt w op ba ve E vt ys L f t R v u wr) (hb : Below wr.heap.size wr X) : BSt w op ba ve E vt ys L f t R v u X :=
  ⟨h.pb.below hb, h.ob.thru0 hb, h.ow.below hb, h.be.below hb, h.bt.below hb, h.tz.below hb, h.lo.below hb, h.wo, h.wt⟩
theorem BSt.tell (h : BSt w op ba ve E vt ys L f t R v u wr) (hp : PB ba w.heap.size v' M X) (hk : BuP ba v wr X) (ho : OrV wr v v') : BSt w op ba ve E vt ys M f t R v' u X :=
  ⟨hp, h.ob.buP h.pb hk (by decide) (by decide), h.ow.buP h.pb hk (by decide) (by decide), h.be.buP h.pb hk (by decide) (by decide), h.bt.buP h.pb hk (by decide) (by decide),
   h.tz.keep (hk.block _ h.tz.lt (h.tz.ne h.pb.blk (by
     obtain ⟨A, c, hv, -, -⟩ := h.pb.own.slice
     rw [hv]; simp)) (fun e => by have := h.pb.far _ e; have := h.wt; omega)),
   ⟨hk.os.trans h.lo.os, hk.tape.trans h.lo.tape, hk.output.trans h.lo.output, Nat.le_trans h.lo.size hk.size, fun i hi h1 h2 => (hk.block i (by have := h.lo.size; omega) h1 (fun e => by have := h.pb.far i e; omega)).trans (h.lo.block i hi h1 h2)⟩, h.wo, h.wt⟩
theorem BSt.opset (h : BSt w op ba ve E vt ys L f t R v u wr) (hb : But op wr X) (h1 : Blk X op 111 #[.int .i64 f', .int .i64 t', u']) (h2 : EOwn elRn X u' R') : BSt w op ba ve E vt ys L f' t' R' v u' X := by
  have hne : ba ≠ op := Blk.ne_ h.pb.blk h.ob (by decide)
  exact ⟨⟨(hb.block ba h.pb.blk.lt hne).trans h.pb.blk, h.pb.own.but hb (h.pb.own.notBlk h.ob (by decide)), h.pb.far⟩, h1, h2, h.be.but hb (h.be.notBlk h.ob (by decide)), h.bt.but hb (h.bt.notBlk h.ob (by decide)),
    h.tz.keep (hb.block _ h.tz.lt (h.tz.ne h.ob (by simp))),
    ⟨hb.os.trans h.lo.os, hb.tape.trans h.lo.tape, hb.output.trans h.lo.output, Nat.le_trans h.lo.size hb.size, fun i hi g1 g2 => (hb.block i (by have := h.lo.size; omega) (by have := h.wo; omega)).trans (h.lo.block i hi g1 g2)⟩, h.wo, h.wt⟩
theorem But.set1 (w : World) (op i : Nat) (x : Value) : But op w (w.setCell ⟨op, i, none⟩ x) := ⟨rfl, rfl, rfl, by simp [World.setCell], fun k hk hne => Below.heap_setCell _ ⟨op, i, none⟩ _ _ hne⟩
theorem But.trans0 {a b c : World} (h : But op a b) (k : But op b c) : But op a c := ⟨k.os.trans h.os, k.tape.trans h.tape, k.output.trans h.output, Nat.le_trans h.size k.size, fun i hi hne => (k.block i (by have := h.size; omega) hne).trans (h.block i hi hne)⟩
end
/-- What tellBands leaves. -/
def BandsP (w : World) (ba : Nat) (E : List Ed) (e : Ending) (w' : World) : Prop := e = .returned (.tuple #[]) ∧ ∃ v L, PB ba w.heap.size v L w' ∧ PatOf (fun x y => zE E y x) L ∧ BuP ba (.slice none 0 0) w w' ∧ L.length ≤ 1000000000000
end
section
set_option linter.unusedVariables false
set_option linter.unusedSimpArgs false
open Go.RowKit
/-- The loop's state. -/
def BLp (w : World) (op ba : Nat) (ve : Value) (E : List Ed) (vt : Value) (ys : List Int) (j : Nat) (wr : World) : Prop :=
  ∃ D f t R v u, BSt w op ba ve E vt ys (pats D) f t R v u wr ∧ BJ (fun x y => zE E y x) ys j D f R ∧ (pats D).length ≤ j * 100000 ∧ R.length ≤ 100000
set_option maxRecDepth 100000 in
set_option maxHeartbeats 16000000 in
theorem bands_any (w : World) (ba : Nat) (ve : Value) (E : List Ed) (R0 : List Rc) (h : EOwn elEd w ve E) (hp : E.Perm (edM R0)) (hs : E.Pairwise fun a b => a.x ≤ b.x) (ho : ∀ e ∈ E, EdOk e) (hT : TzOk w) (hl : E.length ≤ 100000) (hb : Blk w ba 31 #[.slice none 0 0]) :
    Calls Tryz.prog 75 #[ve, .func (.func 77) #[] #[.pointer (some ⟨ba, 0, none⟩)]] w (BandsP w ba E) := by
  obtain ⟨A1, c1, rfl, -, -⟩ := h.slice
  have hal : Below w.heap.size w (w.alloc (.cells #[.int .i64 0, .int .i64 0, .slice none 0 0] 111)) := (Below.refl _ _).alloc (Nat.le_refl _) _
  have HE := Lib.hid (h.below hal)
  have HB := Lib.hid (hb.thru0 hal)
  have HT := Lib.hid (hT.below hal)
  have HO := Lib.hid (Blk.new w 111 #[.int .i64 0, .int .i64 0, .slice none 0 0])
  have HAL := Lib.hid hal
  have HTL := Lib.hid hT.lt
  have HP := Lib.hid (And.intro hp hs)
  have HOK := Lib.hid ho
  have HTU := Lib.hid (turns_any _ _ E (ERd.of_own elEd_ok (h.below hal)) hl (fun e he => by have := ho e he; unfold EdOk at this; omega))
  have hopb : w.heap.size ≤ w.heap.size := Nat.le_refl _
  clear h hp hs ho hT hb hal
  obtain ⟨n, hn⟩ : ∃ n, n = E.length := ⟨_, rfl⟩
  rw [← hn] at HE HTU hl ⊢
  have HN := Lib.hid hn; clear hn
  go_enter Tryz.func75, Tryz.ntmps75
  go_upto_region 1 with fail
  generalize (w.alloc (.cells #[.int .i64 0, .int .i64 0, .slice none 0 0] 111)) = Wa at *
  obtain ⟨op, hop⟩ : ∃ op, w.heap.size = op := ⟨_, rfl⟩
  rw [hop] at HO
  have HOP := Lib.hid (show w.heap.size ≤ op from by omega)
  (try rw [hop])
  clear hop hopb
  go_wp2_with fail
  refine HTU.out.mono ?_
  rintro e W0 ⟨vt, ys, rfl, hfe, hys⟩
  have HYS := Lib.hid hys
  have hyl := hys.len
  have HS0 := Lib.hid (show BSt w op ba (.slice A1 n c1) E vt ys (pats []) 0 0 [] (.slice none 0 0) (.slice none 0 0) W0 from
    ⟨⟨HB.out.thru0 hfe.bel, EOwn.nil_ _, fun i hi => by simp [Value.ownBlock] at hi⟩, HO.out.thru0 hfe.bel, EOwn.nil_ _, HE.out.below hfe.bel, hfe.own, HT.out.below hfe.bel, (BuP.of_below HAL.out).below hfe.bel, HOP.out, HTL.out⟩)
  have HJ0 := Lib.hid (BJ.start hys HOK.out)
  obtain ⟨A2, c2, rfl, -, -⟩ := hfe.own.slice
  clear hfe hys HTU HB HT HO HAL HTL HE HOP
  obtain ⟨m, hm⟩ : ∃ m, m = ys.length := ⟨_, rfl⟩
  rw [← hm] at HS0 hyl
  have HM := Lib.hid hm
  (try rw [← hm])
  clear hm
  have hmb : (m : Int) ≤ 200000 := by have := HN.out; omega
  go_wp2_with fail
  go_loopw [11] (fun i wr => ∃ (j : Nat), j ≤ m ∧ i = .int .i64 j ∧ Hid (BLp w op ba (.slice A1 n c1) E (.slice A2 m c2) ys j wr)) (fun i _ => m - (intOf i).toNat)
  case atStart => exact ⟨0, Nat.zero_le _, rfl, Lib.hid ⟨[], 0, 0, [], _, _, HS0.out, HJ0.out, by simp [pats], by simp⟩⟩
  case round =>
    rename World => wr
    clear HS0 HJ0
    obtain ⟨j, hj, rfl, HL⟩ := hrel
    by_cases hlt : j < m
    · have hji : (j : Int) < (m : Int) := by omega
      have hkl : j < ys.length := by rw [← HM.out]; exact hlt
      have hx : ys[j]? = some ys[j] := List.getElem?_eq_getElem hkl
      obtain ⟨D, f, t, R, v, u, hst, hbj, hpl, hrl⟩ := HL.out
      have HST := Lib.hid hst
      have HPL := Lib.hid hpl
      have HRL := Lib.hid hrl
      have HSM := Lib.hid (fun hR => hbj.same HYS.out hkl hR)
      have HTN := Lib.hid (fun (R' : List Rn) hR hne => hbj.turn (R' := R') HYS.out HOK.out hkl hR hne)
      have hyb : 0 ≤ ys[j] ∧ ys[j] ≤ 65536 := by
        obtain ⟨e, he, h1⟩ := (HYS.out.mem _).1 (List.getElem_mem hkl)
        have := HOK.out e he
        unfold EdOk at this
        omega
      obtain ⟨-, g, rfl, hc1⟩ := hst.bt.cell elI_ok hx
      have y0 : wr.cell? ⟨g, j, none⟩ = some (.int .i64 ys[j]) := by have h9 := hc1 0 _ rfl; simpa [elI] using h9
      clear hc1 hst hbj HL hpl hrl hx
      have HRN := Lib.hid (runsOf_any wr (.slice A1 n c1) E ys[j] (ERd.of_own elEd_ok HST.out.be) HST.out.tz HP.out.2 HOK.out (by have := HN.out; omega))
      have HRD := Lib.hid (fun x l (h9 : ScI E E ys[j] x l) => runs_done HP.out.1 h9)
      generalize ys[j] = row at *
      have hw1 : wrap64 (row - 1) = row - 1 := by unfold wrap64; omega
      have HYB := Lib.hid hyb
      clear hyb
      go_wp2_with fail
      refine HRN.out.mono ?_
      rintro e w3 ⟨vl, l, rfl, hfe, hll, x, hsc⟩
      have HST3 := Lib.hid (HST.out.below hfe.bel)
      have HLW := Lib.hid hfe.own
      have HLL := Lib.hid (show l.length ≤ 100000 by have := HN.out; omega)
      have HZR := Lib.hid (HRD.out x l hsc)
      clear hfe hsc hll HRN HRD HST y0
      have q2 := HST3.out.ob.cell 2
      simp only [List.getElem?_toArray, List.getElem?_cons_zero, List.getElem?_cons_succ] at q2
      have HEQ := Lib.hid (equalR_any w3 vl u l R (ERd.of_own elRn_ok HLW.out) (ERd.of_own elRn_ok HST3.out.ow) (by have := HLL.out; omega) (by have := HRL.out; omega))
      go_wp2_with fail
      refine HEQ.out.mono ?_
      rintro e w4 ⟨⟨b, rfl, hbi⟩, hb4⟩
      have HST4 := Lib.hid (HST3.out.below hb4)
      have HLW4 := Lib.hid (HLW.out.below hb4)
      have HBI := Lib.hid hbi
      clear hbi hb4 HEQ HST3 HLW q2
      cases b
      · have HNE := Lib.hid (show l ≠ R from fun e => by have := HBI.out.2 e; cases this)
        have HBJ := Lib.hid (HTN.out l HZR.out HNE.out)
        clear HSM HTN HBI HNE
        have q1 := HST4.out.ob.cell 1
        have f1 := HST4.out.ob.frozen 1
        simp only [List.getElem?_toArray, List.getElem?_cons_zero, List.getElem?_cons_succ] at q1
        have HB5 := Lib.hid (show Blk (w4.setCell ⟨op, 1, none⟩ (.int .i64 (row - 1))) op 111 #[.int .i64 f, .int .i64 (row - 1), u] from HST4.out.ob.set_ 1 _)
        have HST5 := Lib.hid (HST4.out.opset (But.set1 w4 op 1 (.int .i64 (row - 1))) HB5.out (HST4.out.ow.offB HST4.out.ob (by decide) 1 _))
        have HLW5 := Lib.hid (HLW4.out.offB HST4.out.ob (by decide) 1 (.int .i64 (row - 1)))
        go_upto_region 7 with fail
        clear HST4 HLW4 q1 f1 HB5
        generalize w4.setCell ⟨op, 1, none⟩ (.int .i64 (row - 1)) = w5 at *
        have q0 := HST5.out.ob.cell 0
        have q1 := HST5.out.ob.cell 1
        have q2 := HST5.out.ob.cell 2
        simp only [List.getElem?_toArray, List.getElem?_cons_zero, List.getElem?_cons_succ] at q0 q1 q2
        have HTE := Lib.hid (tell_any w5 ba w.heap.size v (pats D) f (row - 1) u R HST5.out.pb HST5.out.lo.size HST5.out.ow HRL.out (by have := HPL.out; omega))
        go_wp2_with fail
        go_at_call 77
        refine HTE.out.mono ?_
        rintro e w6 ⟨rfl, v6, hpb, hbu, hor⟩
        have HST6 := Lib.hid (HST5.out.tell hpb hbu hor)
        have HLW6 := Lib.hid (HLW5.out.buP HST5.out.pb hbu (by decide) (by decide))
        clear hpb hbu hor HTE HST5 HLW5 q0 q1 q2
        have HPN := Lib.hid (show (pats (D ++ bandO f (row - 1) R)).length ≤ (j + 1) * 100000 from by
          rw [pats_append, patB_O, List.length_append, patB, List.length_map]
          have h1 := HPL.out
          have h2 := HRL.out
          simp only
          omega)
        have hpe : pats D ++ R.map (paR f (row - 1)) = pats (D ++ bandO f (row - 1) R) := by rw [pats_append, patB_O]; rfl
        rw [hpe] at HST6
        clear hpe
        have q0 := HST6.out.ob.cell 0
        have q1 := HST6.out.ob.cell 1
        have q2 := HST6.out.ob.cell 2
        simp only [List.getElem?_toArray, List.getElem?_cons_zero, List.getElem?_cons_succ] at q0 q1 q2
        have f0 := HST6.out.ob.frozen 0
        have f1 := HST6.out.ob.frozen 1
        have f2 := HST6.out.ob.frozen 2
        obtain ⟨A7, c7, hv7, -, -⟩ := HLW6.out.slice
        obtain ⟨m7, hm7⟩ : ∃ m7, m7 = l.length := ⟨_, rfl⟩
        rw [← hm7] at hv7
        subst hv7
        have hB8 : Blk (((w6.setCell ⟨op, 0, none⟩ (.int .i64 row)).setCell ⟨op, 1, none⟩ (.int .i64 0)).setCell ⟨op, 2, none⟩ (.slice A7 m7 c7)) op 111 #[.int .i64 row, .int .i64 0, .slice A7 m7 c7] := HST6.out.ob.set3 _ _ _
        have hb8 : But op w6 (((w6.setCell ⟨op, 0, none⟩ (.int .i64 row)).setCell ⟨op, 1, none⟩ (.int .i64 0)).setCell ⟨op, 2, none⟩ (.slice A7 m7 c7)) := ((But.set1 _ op 0 _).trans0 (But.set1 _ op 1 _)).trans0 (But.set1 _ op 2 _)
        have HST8 := Lib.hid (HST6.out.opset hb8 hB8 (HLW6.out.but hb8 (HLW6.out.notBlk HST6.out.ob (by decide))))
        have HN7 := Lib.hid (show BLp w op ba (.slice A1 n c1) E (.slice (some ⟨g, 0, none⟩) m c2) ys (j + 1) _ from ⟨_, row, 0, l, v6, _, HST8.out, HBJ.out, HPN.out, HLL.out⟩)
        clear HST8 hb8 hB8 hm7 HLW6 HST6 HBJ HPN HLL
        go_wp2_with fail
        go_roundw
        case rel => exact ⟨j + 1, by omega, by go_num, HN7⟩
        case measure => simp [intOf]; omega
      · obtain rfl := HBI.out.1 rfl
        have HBJ := Lib.hid (HSM.out HZR.out)
        clear HSM HTN HBI HLW4
        have HN7 := Lib.hid (show BLp w op ba (.slice A1 n c1) E (.slice (some ⟨g, 0, none⟩) m c2) ys (j + 1) w4 from ⟨D, f, t, l, v, u, HST4.out, HBJ.out, Nat.le_trans HPL.out (Nat.mul_le_mul_right _ (Nat.le_succ j)), HRL.out⟩)
        clear HST4
        go_wp2_with fail
        go_roundw
        case rel => exact ⟨j + 1, by omega, by go_num, HN7⟩
        case measure => simp [intOf]; omega
    · obtain rfl : j = m := by omega
      have HFN := Lib.hid (show BandsP w ba E (.returned (.tuple #[])) wr from by
        obtain ⟨D, f, t, R, v, u, hst, hbj, hpl, hrl⟩ := HL.out
        rw [HM.out] at hbj
        exact ⟨rfl, v, pats D, hst.pb, hbj.done HYS.out, hst.lo, Nat.le_trans hpl (Nat.le_trans (Nat.mul_le_mul_right _ (show j ≤ 200000 from by omega)) (Nat.le_of_ble_eq_true rfl))⟩)
      clear HL
      go_wp2_with fail
      go_end0
      exact HFN.out
end
end Go.Proofs.YtmgamlpjgghieaaGreatDoor
