/- frame: the document's frames of bytes, by contract. -/
import Derived.Test.YtmkehbmegimecaaDrained
namespace Go.Proofs.Ytmkehbmegimecaa
set_option linter.unusedVariables false
set_option linter.unusedSimpArgs false
open Go.RowKit
theorem new_cell2 (w : World) (o : Obj) (cs : Array Value) (t : TypeId) (i : Nat) {v : Value} (h : cs[i]? = some v) : ((w.alloc o).alloc (.cells cs t)).cell? ⟨w.heap.size + 1, i, none⟩ = some v := by
  have hb : Blk ((w.alloc o).alloc (.cells cs t)) (w.heap.size + 1) t cs := Blk.newAt (by simp)
  rw [hb.cell]; exact h
theorem RB.back {w w' : World} {A : Option Addr} {n : Nat} {l : List UInt8} (h : RB w' A n l) (hb : Below w.heap.size w w') (hA : 0 < n → ∀ b, A.map (·.block) = some b → b < w.heap.size) : RB w A n l := by
  refine ⟨h.1, fun hn => ?_⟩
  obtain ⟨ad, rfl, hl, hc⟩ := h.2 hn
  have hlt : ad.block < w.heap.size := hA hn _ rfl
  refine ⟨ad, rfl, hlt, fun j u hu => ?_⟩
  rw [← hc j u hu]
  exact (World.cell?_of_block (hb.block _ (by simpa [block_of_add] using hlt))).symm
def SSt (w : World) (A : Option Addr) (l : List UInt8) (k : Nat) (v : Value) (wr : World) : Prop :=
  ∃ L D A1 c1 l1 ov1, POwn wr v L ∧ Means w L D ∧ parts l = D ++ parts l1 ∧ Blk wr w.heap.size 30 #[.int .i64 (l.length : Nat), .slice A1 l1.length c1, .int .i64 (ov1 : Nat)] ∧ RB w A1 l1.length l1 ∧ l1.length ≤ c1 ∧ ov1 ≤ 65535 ∧ Below w.heap.size w wr ∧ (∀ j, v.ownBlock = some j → w.heap.size < j) ∧ (0 < l1.length → A1.map (·.block) = A.map (·.block)) ∧ L.length = k ∧ l1.length + k ≤ l.length
def SplitPost (l : List UInt8) (w : World) (e : Ending) (w' : World) : Prop := ∃ v L, e = .returned v ∧ POwn w' v L ∧ Means w' L (parts l) ∧ Below w.heap.size w w'
set_option maxRecDepth 100000 in
set_option maxHeartbeats 8000000 in
theorem split_any (A : Option Addr) (n c : Nat) (l : List UInt8) (w : World) (h : RB w A n l) (hc : n ≤ c) (hn : n ≤ 60000) : Calls Try.prog 19 #[.slice A n c] w fun e w' => SplitPost l w e w' := by
  have hl := h.len
  subst hl
  have HA := Lib.hid (fun (h0 : 0 < l.length) (b : Nat) (hb : A.map (·.block) = some b) => h.blk_lt h0 hb)
  have HST := Lib.hid (show SSt w A l 0 (.slice none 0 0) (w.alloc (.cells #[.int .i64 (l.length : Nat), .slice A l.length c, .int .i64 0] 30)) from ⟨[], [], A, c, l, 0, POwn.nil_ _, Means.nil_ _, rfl, Blk.new _ _ _, h, hc, by omega, (Below.refl _ _).alloc (Nat.le_refl _) _, fun j hj => by simp [Value.ownBlock] at hj, fun _ => rfl, rfl, by omega⟩)
  clear h
  have hni : (l.length : Int) ≤ 60000 := by omega
  go_enter Try.func19, Try.ntmps19
  go_wp2
  generalize (w.alloc (.cells #[.int .i64 (l.length : Nat), .slice A l.length c, .int .i64 0] 30)) = W0 at HST ⊢
  go_loopw [3, 5] (fun v i wr => ∃ (k : Nat) (v0 : Value), k ≤ l.length ∧ i = .int .i64 k ∧ v = v0 ∧ Hid (SSt w A l k v0 wr)) (fun _ i _ => l.length + 1 - (intOf i).toNat)
  case atStart => exact ⟨0, _, Nat.zero_le _, rfl, rfl, HST⟩
  case round =>
    clear HST
    obtain ⟨k, v0, hk, rfl, rfl, hrel⟩ := hrel
    obtain ⟨L, D, A1, c1, l1, ov1, g1, g2, g3, g4, g5, g6, g7, g8, g9, g10, g11, g12⟩ := hrel.out
    obtain ⟨A0, c0, rfl, hc1, hc2, hA0⟩ := g1.slice
    have hki : (k : Int) ≤ (l.length : Int) := by omega
    have HNX := Lib.hid (rnext_u A1 l1.length c1 ov1 (l.length : Nat) l1 wr (g5.later g8) g6 (by omega) g7)
    have K0 := g4.cell 0
    have K1 := g4.cell 1
    have K2 := g4.cell 2
    simp only [List.getElem?_toArray, List.getElem?_cons_zero, List.getElem?_cons_succ] at K0 K1 K2
    have hnf := nx_facts (room := (l.length : Nat)) (ov := 0) (l := l1) rfl (by omega) (by omega) (fun _ => rfl)
    have hnov : nxOv l1.length ov1 l1 ≤ 65535 := by
      have hh := hdr_lt l1
      unfold nxOv
      split
      · exact g7
      · split
        · omega
        · split
          · exact g7
          · omega
    have H1 := Lib.hid g1; have H2 := Lib.hid g2; have H3 := Lib.hid g3; have H4 := Lib.hid g4; have H5 := Lib.hid g5; have H8 := Lib.hid g8; have H9 := Lib.hid g9; have H10 := Lib.hid g10
    subst g11
    clear g1 g2 g3 g4 g5 g8 g9 g10 hrel
    by_cases hz : nkind l1.length l1 = 0
    · have HF0 := Lib.hid (show Means w L (parts l) from by rw [H3.out, parts_none hz, List.append_nil]; exact H2.out)
      rw [hz] at HNX
      clear hz hnf
      generalize nxL l1.length l1 = l2 at *
      generalize nxOv l1.length ov1 l1 = ov2 at *
      generalize nxB l1.length l1 = body at *
      go_wp2_with fail
      refine HNX.out.mono ?_
      rintro e w2 ⟨A9, c9, B9, cb9, rfl, hR9, hcl9, hBd9, hb9, hl9, hbl9⟩
      have HF := Lib.hid (show ∀ X, Below w2.heap.size w2 X → SplitPost l w (.returned (.slice A0 L.length c0)) X from fun X hX => ⟨_, L, rfl, (H1.out.below hb9).below hX, HF0.out.below (below_trans (below_trans H8.out hb9) hX), below_trans (below_trans H8.out hb9) hX⟩)
      clear hR9 hBd9 hb9 hl9 hbl9
      go_wp2
      go_ret
      exact HF.out _ (by go_grown)
    · have hzb : (nkind l1.length l1 == 0) = false := by simp [hz]
      have HSTEP := Lib.hid (parts_more hz)
      have hlen := nx_less hz
      obtain ⟨f1, f2, f3, f4⟩ := hnf
      clear hz f3 f2 f1
      generalize nkind l1.length l1 = K at *
      generalize nxL l1.length l1 = l2 at *
      generalize nxOv l1.length ov1 l1 = ov2 at *
      generalize nxB l1.length l1 = body at *
      go_wp2_with fail
      refine HNX.out.mono ?_
      rintro e w2 ⟨A9, c9, B9, cb9, rfl, hR9, hcl9, hBd9, hb9, hl9, hbl9⟩
      have hb9' := below_trans H8.out hb9
      have hAb : ∀ b, A1.map (·.block) = some b → 0 < l1.length → b < w.heap.size := fun b hb h1 => HA.out (by omega) b (by rw [← H10.out h1]; exact hb)
      have HR9 := Lib.hid (hR9.back hb9' (fun h0 b hb => hAb b (by rw [← hl9]; exact hb) (by omega)))
      have HBD := Lib.hid (hBd9.back hb9' (fun h0 b hb => hAb b (by rw [← hbl9 h0]; exact hb) (by omega)))
      have HL9 := Lib.hid hl9
      have HP2 := Lib.hid (H1.out.below hb9)
      have hK2 := H4.out.below hb9 H4.out.lt
      have hC := Blk.new w2 30 #[.int .i64 (l.length : Nat), .slice A9 l2.length c9, .int .i64 (ov2 : Nat)]
      have hz2 := hb9.size
      have hwz := H8.out.size
      have hqlt := H4.out.lt
      have HX := Lib.hid (hb9'.alloc (by omega) (.cells #[.int .i64 (l.length : Nat), .slice A9 l2.length c9, .int .i64 (ov2 : Nat)] 30))
      have HK3 := Lib.hid (hK2.alloc (.cells #[.int .i64 (l.length : Nat), .slice A9 l2.length c9, .int .i64 (ov2 : Nat)] 30))
      have HC3 := Lib.hid hC
      have HPX := Lib.hid (HP2.out.below ((Below.refl w2.heap.size w2).alloc (Nat.le_refl _) (.cells #[.int .i64 (l.length : Nat), .slice A9 l2.length c9, .int .i64 (ov2 : Nat)] 30)))
      clear hR9 hBd9 hb9 hb9' hl9 hbl9 hAb hK2 hC K0 K1 K2
      go_wp2_with (at_builtin; refine wpList_pushP rfl (.tmp 28) (.tmp 32) _ rfl Try.underlying45 (.slice A0 L.length c0) L (B9, body.length, cb9, K) _ 1 rfl rfl (HPX.out.below ((Below.refl _ _).alloc (Nat.le_refl _) _)) (new_cell2 _ _ _ _ 0 rfl) (new_cell2 _ _ _ _ 1 rfl) (by omega) ?_; rintro v4 w4 ha4; have C4 := (HC3.out.alloc (.cells #[.slice B9 body.length cb9, .int .i64 K] 48)).grown ha4.2.1 (fun e => own_blk_ne (HPX.out.below ((Below.refl _ _).alloc (Nat.le_refl _) (.cells #[.slice B9 body.length cb9, .int .i64 K] 48))) (HC3.out.alloc (.cells #[.slice B9 body.length cb9, .int .i64 K] 48)) (by decide) e.symm); have K4 := (HK3.out.alloc (.cells #[.slice B9 body.length cb9, .int .i64 K] 48)).grown ha4.2.1 (fun e => own_blk_ne (HPX.out.below ((Below.refl _ _).alloc (Nat.le_refl _) (.cells #[.slice B9 body.length cb9, .int .i64 K] 48))) (HK3.out.alloc (.cells #[.slice B9 body.length cb9, .int .i64 K] 48)) (by decide) e.symm); have d0 := C4.cell 0; have d1 := C4.cell 1; have d2 := C4.cell 2; have q0 := K4.cell 0; have q1 := K4.cell 1; have q2 := K4.cell 2; have z0 := K4.frozen 0; have z1 := K4.frozen 1; have z2 := K4.frozen 2; simp only [List.getElem?_toArray, List.getElem?_cons_zero, List.getElem?_cons_succ] at d0 d1 d2 q0 q1 q2; have HK4 := Lib.hid K4; have HA4 := Lib.hid ha4; clear C4 K4 ha4)
      have hXY : Below w.heap.size w ((w2.alloc (.cells #[.int .i64 (l.length : Nat), .slice A9 l2.length c9, .int .i64 (ov2 : Nat)] 30)).alloc (.cells #[.slice B9 body.length cb9, .int .i64 K] 48)) := HX.out.alloc (by simp; omega) _
      obtain ⟨ho4, hg4, hor4, g4', c4', hv4⟩ := HA4.out
      have hw4 : Below w.heap.size w w4 := ⟨hg4.os.trans hXY.os, hg4.tape.trans hXY.tape, hg4.output.trans hXY.output, Nat.le_trans hXY.size hg4.size, fun i hi => by
        rw [hg4.block i (Nat.lt_of_lt_of_le hi hXY.size) (fun e => by have := H9.out i e.symm; omega)]
        exact hXY.block i hi⟩
      have hne4 : v4.ownBlock ≠ some w.heap.size := own_blk_ne ho4 HK4.out (by decide)
      have HFIN := Lib.hid (show SSt w A l (L.length + 1) v4 (((w4.setCell ⟨w.heap.size, 0, none⟩ (.int .i64 (l.length : Nat))).setCell ⟨w.heap.size, 1, none⟩ (.slice A9 l2.length c9)).setCell ⟨w.heap.size, 2, none⟩ (.int .i64 (ov2 : Nat))) from by
        refine ⟨L ++ [(B9, body.length, cb9, K)], D ++ [(body, K)], A9, c9, l2, ov2, ?_, H2.out.snoc (P := (body, K)) HBD.out rfl f4, by rw [H3.out, HSTEP.out]; simp, HK4.out.set3 _ _ _, HR9.out, hcl9, hnov, by go_grown, fun j hj => ?_, fun h0 => by rw [HL9.out]; exact H10.out (by omega), by simp, by omega⟩
        · exact ho4.keep fun i hi he => by
            have hne : i ≠ w.heap.size := fun e => hne4 (by rw [he, e])
            rw [Below.heap_setCell _ _ _ _ hne, Below.heap_setCell _ _ _ _ hne, Below.heap_setCell _ _ _ _ hne]
        · rcases hor4 with h | h
          · exact H9.out j (h ▸ hj)
          · rw [h] at hj
            have e9 : ((w2.alloc (.cells #[.int .i64 (l.length : Nat), .slice A9 l2.length c9, .int .i64 (ov2 : Nat)] 30)).alloc (.cells #[.slice B9 body.length cb9, .int .i64 K] 48)).heap.size = j := by injection hj
            simp at e9
            omega)
      clear ho4 hg4 hor4 hv4 hw4 hXY hne4
      go_wp2
      go_roundw
      case rel => exact ⟨L.length + 1, v4, by omega, by go_num, rfl, HFIN⟩
      case measure => simp [intOf]; omega
end Go.Proofs.Ytmkehbmegimecaa
