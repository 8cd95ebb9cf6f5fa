/- Texts: Po12. -/
import Derived.Test.YtkpmeelbjldcoaaGreatDoorZbPo11
namespace Go.Proofs.YtkpmeelbjldcoaaGreatDoor
set_option linter.unusedVariables false
set_option linter.unusedSimpArgs false
open Go.RowKit
section
variable {α : Type} {E : El α}
theorem ERd.reads {w : World} {A : Option Addr} {c : Nat} {M : List α} (hE : E.Ok) (h : ERd E w (.slice A M.length c) M) : Reads w w.heap.size E.k A M.length (E.encs M) := by
  refine ⟨El.encs_length hE M, fun hm => ?_⟩
  obtain ⟨A', c', e, h1, h2, h3⟩ := h
  injection e with e1 e2 e3
  subst e1
  obtain ⟨g, o, rfl, hc⟩ := h3 0 M[0] (List.getElem?_eq_getElem hm)
  have hp := hE.pos
  have hlt : g < w.heap.size := by
    have h0 : 0 < (E.enc M[0]).length := by rw [hE.len]; exact hp
    exact World.block_lt_of_cell? w _ (hc 0 _ (List.getElem?_eq_getElem h0))
  refine ⟨_, rfl, hlt, fun j u hu => ?_⟩
  have e : (⟨g, o, none⟩ : Addr).add j = ⟨g, o + j, none⟩ := by unfold Addr.add; split <;> simp_all
  rw [e]
  have hj : j < M.length * E.k := by have := (List.getElem?_eq_some_iff.1 hu).1; rwa [El.encs_length hE] at this
  have hi : j / E.k < M.length := by
    rw [Nat.div_lt_iff_lt_mul hp]; exact hj
  obtain ⟨g2, o2, e2, hc2⟩ := h3 (j / E.k) M[j / E.k] (List.getElem?_eq_getElem hi)
  simp only [Option.some.injEq, Addr.mk.injEq, and_true] at e2
  obtain ⟨rfl, rfl⟩ := e2
  have hm2 : j % E.k < E.k := Nat.mod_lt _ hp
  have hdm : j / E.k * E.k + j % E.k = j := by rw [Nat.mul_comm]; exact Nat.div_add_mod j E.k
  have hg := El.encs_get hE M (j / E.k) (j % E.k) _ (List.getElem?_eq_getElem hi) hm2
  rw [hdm, hu] at hg
  have := hc2 (j % E.k) u hg.symm
  rw [Nat.add_assoc, hdm] at this
  exact this
theorem run_eappr {w : World} {t t2 ty e2 : TypeId} (hE : E.Ok) (ht : Tryz.prog.underlying t = some (.slice E.T)) (ht2 : Tryz.prog.underlying t2 = some (.slice e2)) {v : Value} {L M : List α} {A : Option Addr} {c : Nat} (h : EOwn E w v L) (hM : Reads w w.heap.size E.k A M.length (E.encs M)) (hl : L.length + M.length ≤ 1000000) :
    ∃ v' w', (Builtin.append_ #[t, t2] ty #[v, .slice A M.length c]).run Tryz.prog w = .ok v' w' ∧ EApp E v (L ++ M) w v' w' := by
  obtain ⟨i0, hi, hz, hsz, hby⟩ := info_parts hE.info
  have hby2 : (L.length + M.length) * E.by_ ≤ 140737488355328 := by
    have h1 := hE.few
    have : (L.length + M.length) * E.by_ ≤ 1000000 * 512 := Nat.mul_le_mul hl h1
    omega
  obtain ⟨v', w', hr, ho, hg, hb⟩ := run_append_any (P := Tryz.prog) w 0 t ty E.T i0 _ E.k E.by_ ht hi hz hsz hby hE.zs hE.pos v L.length (E.encs L) (h.own hE) w.heap.size A M.length c (E.encs M) hM (El.encs_one hE M) (by simp only [maxLen]; omega) hby2 (Nat.zero_le _)
  have he : E.encs L ++ E.encs M = E.encs (L ++ M) := (El.encs_append _ _).symm
  have hn : L.length + M.length = (L ++ M).length := by simp
  rw [he, hn] at ho
  refine ⟨v', w', (append_types ht ht2 _ _ _).trans hr, ?_, hg, fun g e => ?_⟩
  · rcases ho.2 with ⟨h1, h2⟩ | ⟨g, cap, cur, hv, _, h1, h3, h4, h2, h5⟩
    · exact .inl ⟨h1, List.eq_nil_of_length_eq_zero h2⟩
    · exact .inr ⟨g, cap, hv, cur, h1, h2, h3, h4, h5⟩
  · rcases hb with hb | hb
    · exact .inl (hb ▸ e)
    · rw [hb] at e; simp at e; exact .inr e.symm
theorem wpList_eappr {w : World} {ops : Array Oper} {rest : List Oper} {o : Oper} {a : Act} {Q : Exit → Act → World → Prop} (hE : E.Ok) (hgd : o.guard = none) (s x : Operand) (t t2 : TypeId) {e2 : TypeId}
    (ho : o.op = .call { callee := .builtin .append, args := #[s, x], argTypes := #[t, t2] }) (ht : Tryz.prog.underlying t = some (.slice E.T)) (ht2 : Tryz.prog.underlying t2 = some (.slice e2)) (v : Value) (L M : List α) (A : Option Addr) (c : Nat) (hs : a.eval s = v) (hx : a.eval x = .slice A M.length c)
    (h : EOwn E w v L) (hM : Reads w w.heap.size E.k A M.length (E.encs M)) (hl : L.length + M.length ≤ 1000000)
    (hK : ∀ v' w', EApp E v (L ++ M) w v' w' → wpList Tryz.prog ops Q rest (a.put o.dst v') w') : wpList Tryz.prog ops Q (o :: rest) a w :=
  wpList_plain hgd fun _ hK' => by
    obtain ⟨v', w', hrun, hA⟩ := run_eappr (ty := o.type) (c := c) hE ht ht2 h hM hl
    unfold Oper.wp execOp
    simp only [ho, resolve, invoke, builtin, Sem.run_bind, Sem.run_pure, Result.andThen_ok, List.map_toArray, List.map_cons, List.map_nil, hs, hx, hrun]
    exact hK' _ _ (hK v' w' hA)
end
theorem eq_nil_some (a : Addr) (n c : Nat) (w : World) : (binOp BinOp.eql 37 (.slice (some a) n c) (.slice none 0 0)).run Tryz.prog w = .ok (.bool false) w := by kernel_rfl
theorem eq_nil_none (n c : Nat) (w : World) : (binOp BinOp.eql 37 (.slice none n c) (.slice none 0 0)).run Tryz.prog w = .ok (.bool true) w := by kernel_rfl
attribute [local go_sem] eq_nil_some eq_nil_none
set_option maxRecDepth 100000 in
set_option maxHeartbeats 2000000 in
theorem clone_any (w : World) (v : Value) (L : List Bx) (h : ERd elR w v L) (hl : L.length ≤ 1000000) :
    Calls Tryz.prog 138 #[v] w fun e w' => ∃ v2, e = .returned v2 ∧ EOwn elR w' v2 L ∧ (∀ i, v2.ownBlock = some i → w.heap.size ≤ i) ∧ Below w.heap.size w w' := by
  obtain ⟨A, c, rfl, h1, h2, h3⟩ := id h
  cases A with
  | none =>
    obtain rfl : L = [] := by
      cases L with
      | nil => rfl
      | cons x L => obtain ⟨g, o, e, _⟩ := h3 0 x rfl; cases e
    clear h h1 h2 h3 hl
    go_enter Tryz.func138, Tryz.ntmps138
    go_wp2_with fail
    go_ret
    exact ⟨_, rfl, EOwn.nil_ _, fun i hi => by simp [Value.ownBlock] at hi, Below.refl _ _⟩
  | some a =>
    have HR := Lib.hid h
    have HL := Lib.hid hl
    clear h h1 h2 h3 hl
    go_enter Tryz.func138, Tryz.ntmps138
    have HO0 := Lib.hid (EOwn.block (M := ([] : List Bx)) elR_ok (Blk.new w 70 #[]) rfl (by simp))
    have HAL := Lib.hid (show Below w.heap.size w (w.alloc (.cells #[] 70)) from (Below.refl _ _).alloc (Nat.le_refl _) _)
    have HRD := Lib.hid ((HR.out.below HAL.out).reads elR_ok)
    go_upto_region 3 with (fail)
    go_wp2_with ((at_builtin; refine wpList_eappr (e2 := 70) elR_ok rfl _ _ 37 37 rfl (by kernel_rfl) (by kernel_rfl) (.slice (some ⟨w.heap.size, 0, none⟩) 0 0) [] L (some a) c rfl rfl HO0.out HRD.out (by have := HL.out; simpa using this) ?_; rintro v' w1 ⟨hO, hG, hW⟩; obtain ⟨A9, c9, rfl, _, _⟩ := hO.slice; have HO := Lib.hid hO; have HG := Lib.hid hG; have HW := Lib.hid hW; clear hO hG hW))
    go_ret
    exact ⟨_, rfl, HO.out, fun i hi => by
      rcases HW.out i hi with h9 | h9
      · simp [Value.ownBlock] at h9; omega
      · simp at h9; omega, HAL.out.grown HG.out (by simp) (fun i hi => by simp [Value.ownBlock] at hi; omega)⟩
theorem Blk.range {w : World} {r : Nat} {t : TypeId} {cs : List Value} (h : Blk w r t cs.toArray) : w.rangeAt r 0 cs := by
  intro j v hv
  rw [Blk.cell h (0 + j), Nat.zero_add, List.getElem?_toArray, hv]
def stripD (d : Dc) : Dc := { d with p := (0, 0), role := { d.role with p := (0, 0) }, label := { d.label with p := (0, 0) }, wh := { d.wh with p := (0, 0) } }
def StripP (d : Dc) (w : World) (e : Ending) (w' : World) : Prop := ∃ bv2, e = .returned (dV (stripD d) bv2) ∧ EOwn elR w' bv2 d.bx ∧ (∀ i, bv2.ownBlock = some i → w.heap.size ≤ i) ∧ Below w.heap.size w w'
set_option maxRecDepth 100000 in
set_option maxHeartbeats 8000000 in
theorem strip_any (w : World) (d : Dc) (bv : Value) (h : ERd elR w bv d.bx) (hl : d.bx.length ≤ 1000000) (hone : bv.oneCell' = true) :
    Calls Tryz.prog 98 #[dV d bv] w (StripP d w) := by
  have HR := Lib.hid h
  have HL := Lib.hid hl
  have HOC := Lib.hid hone
  clear h hl hone
  go_enter Tryz.func98, Tryz.ntmps98
  have hK : DAt ((w.alloc (.cells (dcells d bv).toArray 41)).alloc (.cells #[.int .i64 0, .string ⟨#[]⟩, .int .i64 0, .slice none 0 0, .bool false, .string ⟨#[]⟩, .int .i64 0, .int .i64 0, .int .i64 0, .int .i64 0, .int .i64 0, .bool false, .string ⟨#[]⟩, .int .i64 0, .int .i64 0, .int .i64 0, .bool false, .string ⟨#[]⟩, .int .i64 0, .int .i64 0, .int .i64 0, .int .i64 0, .int .i64 0, .int .i64 0] 41)) w.heap.size d bv := Blk.thru0 (Blk.new w 41 (dcells d bv).toArray) ((Below.refl _ _).alloc (Nat.le_refl _) _)
  have hR : Blk ((w.alloc (.cells (dcells d bv).toArray 41)).alloc (.cells #[.int .i64 0, .string ⟨#[]⟩, .int .i64 0, .slice none 0 0, .bool false, .string ⟨#[]⟩, .int .i64 0, .int .i64 0, .int .i64 0, .int .i64 0, .int .i64 0, .bool false, .string ⟨#[]⟩, .int .i64 0, .int .i64 0, .int .i64 0, .bool false, .string ⟨#[]⟩, .int .i64 0, .int .i64 0, .int .i64 0, .int .i64 0, .int .i64 0, .int .i64 0] 41)) (w.heap.size + 1) 41 #[.int .i64 0, .string ⟨#[]⟩, .int .i64 0, .slice none 0 0, .bool false, .string ⟨#[]⟩, .int .i64 0, .int .i64 0, .int .i64 0, .int .i64 0, .int .i64 0, .bool false, .string ⟨#[]⟩, .int .i64 0, .int .i64 0, .int .i64 0, .bool false, .string ⟨#[]⟩, .int .i64 0, .int .i64 0, .int .i64 0, .int .i64 0, .int .i64 0, .int .i64 0] := by
    have := Blk.new (w.alloc (.cells (dcells d bv).toArray 41)) 41 #[.int .i64 0, .string ⟨#[]⟩, .int .i64 0, .slice none 0 0, .bool false, .string ⟨#[]⟩, .int .i64 0, .int .i64 0, .int .i64 0, .int .i64 0, .int .i64 0, .bool false, .string ⟨#[]⟩, .int .i64 0, .int .i64 0, .int .i64 0, .bool false, .string ⟨#[]⟩, .int .i64 0, .int .i64 0, .int .i64 0, .int .i64 0, .int .i64 0, .int .i64 0]
    rw [show (w.alloc (.cells (dcells d bv).toArray 41)).heap.size = w.heap.size + 1 by simp] at this
    exact this
  have hB : Below w.heap.size w ((w.alloc (.cells (dcells d bv).toArray 41)).alloc (.cells #[.int .i64 0, .string ⟨#[]⟩, .int .i64 0, .slice none 0 0, .bool false, .string ⟨#[]⟩, .int .i64 0, .int .i64 0, .int .i64 0, .int .i64 0, .int .i64 0, .bool false, .string ⟨#[]⟩, .int .i64 0, .int .i64 0, .int .i64 0, .bool false, .string ⟨#[]⟩, .int .i64 0, .int .i64 0, .int .i64 0, .int .i64 0, .int .i64 0, .int .i64 0] 41)) := ((Below.refl w.heap.size w).alloc (Nat.le_refl _) _).alloc (by simp) _
  have HK := Lib.hid hK
  have HRB := Lib.hid hR
  have HB := Lib.hid hB
  clear hK hR hB
  go_upto_region 1 with (fail)
  generalize ((w.alloc (.cells (dcells d bv).toArray 41)).alloc (.cells #[.int .i64 0, .string ⟨#[]⟩, .int .i64 0, .slice none 0 0, .bool false, .string ⟨#[]⟩, .int .i64 0, .int .i64 0, .int .i64 0, .int .i64 0, .int .i64 0, .bool false, .string ⟨#[]⟩, .int .i64 0, .int .i64 0, .int .i64 0, .bool false, .string ⟨#[]⟩, .int .i64 0, .int .i64 0, .int .i64 0, .int .i64 0, .int .i64 0, .int .i64 0] 41)) = W at *
  have c3 := HK.out.cell 3
  simp only [dcells, List.getElem?_toArray, List.getElem?_cons_zero, List.getElem?_cons_succ] at c3
  have hz := HK.out.lt
  go_wp2_with fail
  refine (clone_any W bv d.bx (HR.out.below (HB.out.mono (Nat.le_refl _))) HL.out).mono ?_
  rintro e W1 ⟨bv2, rfl, hO, hf, hb⟩
  obtain ⟨A2, c2, rfl, _, _⟩ := hO.slice
  have HO := Lib.hid hO
  have HF := Lib.hid (show ∀ i, (Value.slice A2 d.bx.length c2).ownBlock = some i → w.heap.size + 1 < i from fun i hi => by have := hf i hi; have := HRB.out.lt; omega)
  have HK1 : Hid (DAt W1 w.heap.size d bv) := Lib.hid (Blk.thru0 HK.out hb)
  have HR1 := Lib.hid (Blk.thru0 HRB.out hb)
  have HB1 := Lib.hid (HB.out.trans (hb.mono HB.out.size))
  clear hO hf hb c3 hz HK HRB HB
  have c3 := HK1.out.cell 3
  have f3 := HK1.out.frozen 3
  have c7 := HK1.out.cell 7
  have f7 := HK1.out.frozen 7
  have c8 := HK1.out.cell 8
  have f8 := HK1.out.frozen 8
  have c14 := HK1.out.cell 14
  have f14 := HK1.out.frozen 14
  have c15 := HK1.out.cell 15
  have f15 := HK1.out.frozen 15
  have c19 := HK1.out.cell 19
  have f19 := HK1.out.frozen 19
  have c20 := HK1.out.cell 20
  have f20 := HK1.out.frozen 20
  have c22 := HK1.out.cell 22
  have f22 := HK1.out.frozen 22
  have c23 := HK1.out.cell 23
  have f23 := HK1.out.frozen 23
  simp only [dcells, List.getElem?_toArray, List.getElem?_cons_zero, List.getElem?_cons_succ] at c3 c7 c8 c14 c15 c19 c20 c22 c23
  have hz := HK1.out.lt
  go_upto_region 3 with (fail)
  have hK2 : DAt (((((((((W1.setCell ⟨w.heap.size, 3, none⟩ (.slice A2 d.bx.length c2)).setCell ⟨w.heap.size, 22, none⟩ (.int .i64 0)).setCell ⟨w.heap.size, 23, none⟩ (.int .i64 0)).setCell ⟨w.heap.size, 7, none⟩ (.int .i64 0)).setCell ⟨w.heap.size, 8, none⟩ (.int .i64 0)).setCell ⟨w.heap.size, 14, none⟩ (.int .i64 0)).setCell ⟨w.heap.size, 15, none⟩ (.int .i64 0)).setCell ⟨w.heap.size, 19, none⟩ (.int .i64 0)).setCell ⟨w.heap.size, 20, none⟩ (.int .i64 0)) w.heap.size (stripD d) (.slice A2 d.bx.length c2) := by
    have h9 := (((((((((HK1.out.set_ 3 (.slice A2 d.bx.length c2)).set_ 22 (.int .i64 0)).set_ 23 (.int .i64 0)).set_ 7 (.int .i64 0)).set_ 8 (.int .i64 0)).set_ 14 (.int .i64 0)).set_ 15 (.int .i64 0)).set_ 19 (.int .i64 0)).set_ 20 (.int .i64 0))
    have e9 : ((((((((((dcells d bv).toArray.setIfInBounds 3 (.slice A2 d.bx.length c2)).setIfInBounds 22 (.int .i64 0)).setIfInBounds 23 (.int .i64 0)).setIfInBounds 7 (.int .i64 0)).setIfInBounds 8 (.int .i64 0)).setIfInBounds 14 (.int .i64 0)).setIfInBounds 15 (.int .i64 0)).setIfInBounds 19 (.int .i64 0)).setIfInBounds 20 (.int .i64 0)) = (dcells (stripD d) (.slice A2 d.bx.length c2)).toArray := by simp [dcells, stripD]
    rw [e9] at h9
    exact h9
  have hBt : But w.heap.size W1 (((((((((W1.setCell ⟨w.heap.size, 3, none⟩ (.slice A2 d.bx.length c2)).setCell ⟨w.heap.size, 22, none⟩ (.int .i64 0)).setCell ⟨w.heap.size, 23, none⟩ (.int .i64 0)).setCell ⟨w.heap.size, 7, none⟩ (.int .i64 0)).setCell ⟨w.heap.size, 8, none⟩ (.int .i64 0)).setCell ⟨w.heap.size, 14, none⟩ (.int .i64 0)).setCell ⟨w.heap.size, 15, none⟩ (.int .i64 0)).setCell ⟨w.heap.size, 19, none⟩ (.int .i64 0)).setCell ⟨w.heap.size, 20, none⟩ (.int .i64 0)) := (((((((((But.set (r := w.heap.size) W1 3 (.slice A2 d.bx.length c2)).trans (But.set _ 22 (.int .i64 0))).trans (But.set _ 23 (.int .i64 0))).trans (But.set _ 7 (.int .i64 0))).trans (But.set _ 8 (.int .i64 0))).trans (But.set _ 14 (.int .i64 0))).trans (But.set _ 15 (.int .i64 0))).trans (But.set _ 19 (.int .i64 0))).trans (But.set _ 20 (.int .i64 0)))
  have HK2 := Lib.hid hK2
  have HR2 := Lib.hid (HR1.out.but hBt (by omega))
  have HO2 := Lib.hid (HO.out.but hBt (fun i hi => by have := HF.out i hi; omega))
  have HB2 := Lib.hid (Below.but HB1.out hBt (Nat.le_refl _) (Nat.le_refl _))
  clear hK2 hBt HK1 HR1 HO HB1 c3 f3 c7 f7 c8 f8 c14 f14 c15 f15 c19 f19 c20 f20 c22 f22 c23 f23 hz
  generalize (((((((((W1.setCell ⟨w.heap.size, 3, none⟩ (.slice A2 d.bx.length c2)).setCell ⟨w.heap.size, 22, none⟩ (.int .i64 0)).setCell ⟨w.heap.size, 23, none⟩ (.int .i64 0)).setCell ⟨w.heap.size, 7, none⟩ (.int .i64 0)).setCell ⟨w.heap.size, 8, none⟩ (.int .i64 0)).setCell ⟨w.heap.size, 14, none⟩ (.int .i64 0)).setCell ⟨w.heap.size, 15, none⟩ (.int .i64 0)).setCell ⟨w.heap.size, 19, none⟩ (.int .i64 0)).setCell ⟨w.heap.size, 20, none⟩ (.int .i64 0)) = W2 at *
  have HRG := Lib.hid (Blk.range (cs := dcells (stripD d) (.slice A2 d.bx.length c2)) HK2.out)
  have HTH := Lib.hid (Blk.there HR2.out (n := 24) (by decide))
  go_wp2_with ((first | (refine wpList_load_mid rfl 41 _ rfl w.heap.size 0 ?hx (dcells (stripD d) (.slice A2 d.bx.length c2)) ?d ?hc ?hu ?hd ?hi ?_) | (refine wpList_store_mid rfl 41 _ _ rfl (w.heap.size + 1) 0 (dcells (stripD d) (.slice A2 d.bx.length c2)).toArray ?hx2 ?hy2 ?ht2 ?hi2 ?h12 ?_)))
  case hx => rfl
  case hc => exact HRG.out
  case hu => exact Tryz.underlying41
  case hd => rfl
  case hi => kernel_rfl
  case ht2 => exact HTH.out
  case hi2 => kernel_rfl
  case h12 => exact dcells_one _ rfl
  have hRF : Blk (W2.setCells (w.heap.size + 1) 0 (dcells (stripD d) (.slice A2 d.bx.length c2)).toArray.toList) (w.heap.size + 1) 41 (dcells (stripD d) (.slice A2 d.bx.length c2)).toArray := by
    have h9 := Blk.sets (dcells (stripD d) (.slice A2 d.bx.length c2)).toArray.toList _ _ 0 HR2.out
    have e9 : setsA #[.int .i64 0, .string ⟨#[]⟩, .int .i64 0, .slice none 0 0, .bool false, .string ⟨#[]⟩, .int .i64 0, .int .i64 0, .int .i64 0, .int .i64 0, .int .i64 0, .bool false, .string ⟨#[]⟩, .int .i64 0, .int .i64 0, .int .i64 0, .bool false, .string ⟨#[]⟩, .int .i64 0, .int .i64 0, .int .i64 0, .int .i64 0, .int .i64 0, .int .i64 0] 0 (dcells (stripD d) (.slice A2 d.bx.length c2)).toArray.toList = (dcells (stripD d) (.slice A2 d.bx.length c2)).toArray := by simp [setsA, dcells]
    rw [e9] at h9
    exact h9
  have hBF : But (w.heap.size + 1) W2 (W2.setCells (w.heap.size + 1) 0 (dcells (stripD d) (.slice A2 d.bx.length c2)).toArray.toList) := But.sets _ _ _
  have hres : (loadVar 41 ⟨w.heap.size + 1, 0, none⟩).run Tryz.prog (W2.setCells (w.heap.size + 1) 0 (dcells (stripD d) (.slice A2 d.bx.length c2))) = .ok (dV (stripD d) (.slice A2 d.bx.length c2)) (W2.setCells (w.heap.size + 1) 0 (dcells (stripD d) (.slice A2 d.bx.length c2))) := run_loadVar_mid (P := Tryz.prog) _ (w.heap.size + 1) 0 41 (dcells (stripD d) (.slice A2 d.bx.length c2)) _ (Blk.range hRF) Tryz.underlying41 rfl (by kernel_rfl)
  have HOF := Lib.hid (HO2.out.but hBF (fun i hi => by have := HF.out i hi; omega))
  have HBF := Lib.hid (Below.but HB2.out hBF (by omega) (Nat.le_refl _))
  refine bodyPost_ret (v := dV (stripD d) (.slice A2 d.bx.length c2)) ?_ rfl ⟨_, rfl, HOF.out, fun i hi => by have := HF.out i hi; omega, HBF.out⟩
  simp [results, Tryz.results98, Act.put, asAddr, Sem.run_pure, hres]
end Go.Proofs.YtkpmeelbjldcoaaGreatDoor
