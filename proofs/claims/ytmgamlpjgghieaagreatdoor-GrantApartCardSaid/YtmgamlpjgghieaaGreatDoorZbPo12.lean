/- policy: a declaration without places, by contract. -/
import Derived.Test.YtmgamlpjgghieaaGreatDoorZbPo11
namespace Go.Proofs.YtmgamlpjgghieaaGreatDoor
set_option linter.unusedVariables false
set_option linter.unusedSimpArgs false
open Go.RowKit
section
variable {α : Type} {E : El α}
theorem ERd.reads {w : World} {A : Option Addr} {c : Nat} {M : List α} (hE : E.Ok) (h : ERd E w (.slice A M.length c) M) : Reads w w.heap.size E.k A M.length (E.encs M) := by
  refine ⟨El.encs_length hE M, fun hm => ?_⟩
  obtain ⟨A', c', e, h1, h2, h3⟩ := h
  injection e with e1 e2 e3
  subst e1
  obtain ⟨g, o, rfl, hc⟩ := h3 0 M[0] (List.getElem?_eq_getElem hm)
  have hp := hE.pos
  have hlt : g < w.heap.size := by
    have h0 : 0 < (E.enc M[0]).length := by rw [hE.len]; exact hp
    exact World.block_lt_of_cell? w _ (hc 0 _ (List.getElem?_eq_getElem h0))
  refine ⟨_, rfl, hlt, fun j u hu => ?_⟩
  have e : (⟨g, o, none⟩ : Addr).add j = ⟨g, o + j, none⟩ := by unfold Addr.add; split <;> simp_all
  rw [e]
  have hj : j < M.length * E.k := by have := (List.getElem?_eq_some_iff.1 hu).1; rwa [El.encs_length hE] at this
  have hi : j / E.k < M.length := by
    rw [Nat.div_lt_iff_lt_mul hp]; exact hj
  obtain ⟨g2, o2, e2, hc2⟩ := h3 (j / E.k) M[j / E.k] (List.getElem?_eq_getElem hi)
  simp only [Option.some.injEq, Addr.mk.injEq, and_true] at e2
  obtain ⟨rfl, rfl⟩ := e2
  have hm2 : j % E.k < E.k := Nat.mod_lt _ hp
  have hdm : j / E.k * E.k + j % E.k = j := by rw [Nat.mul_comm]; exact Nat.div_add_mod j E.k
  have hg := El.encs_get hE M (j / E.k) (j % E.k) _ (List.getElem?_eq_getElem hi) hm2
  rw [hdm, hu] at hg
  have := hc2 (j % E.k) u hg.symm
  rw [Nat.add_assoc, hdm] at this
  exact this
theorem run_eappr {w : World} {t t2 ty e2 : TypeId} (hE : E.Ok) (ht : Tryz.prog.underlying t = some (.slice E.T)) (ht2 : Tryz.prog.underlying t2 = some (.slice e2)) {v : Value} {L M : List α} {A : Option Addr} {c : Nat} (h : EOwn E w v L) (hM : Reads w w.heap.size E.k A M.length (E.encs M)) (hl : L.length + M.length ≤ 1000000) :
    ∃ v' w', (Builtin.append_ #[t, t2] ty #[v, .slice A M.length c]).run Tryz.prog w = .ok v' w' ∧ EApp E v (L ++ M) w v' w' := by
  obtain ⟨i0, hi, hz, hsz, hby⟩ := info_parts hE.info
  have hby2 : (L.length + M.length) * E.by_ ≤ 140737488355328 := by
    have h1 := hE.few
    have : (L.length + M.length) * E.by_ ≤ 1000000 * 512 := Nat.mul_le_mul hl h1
    omega
  obtain ⟨v', w', hr, ho, hg, hb⟩ := run_append_any (P := Tryz.prog) w 0 t ty E.T i0 _ E.k E.by_ ht hi hz hsz hby hE.zs hE.pos v L.length (E.encs L) (h.own hE) w.heap.size A M.length c (E.encs M) hM (El.encs_one hE M) (by simp only [maxLen]; omega) hby2 (Nat.zero_le _)
  have he : E.encs L ++ E.encs M = E.encs (L ++ M) := (El.encs_append _ _).symm
  have hn : L.length + M.length = (L ++ M).length := by simp
  rw [he, hn] at ho
  refine ⟨v', w', (append_types ht ht2 _ _ _).trans hr, ?_, hg, fun g e => ?_⟩
  · rcases ho.2 with ⟨h1, h2⟩ | ⟨g, cap, cur, hv, _, h1, h3, h4, h2, h5⟩
    · exact .inl ⟨h1, List.eq_nil_of_length_eq_zero h2⟩
    · exact .inr ⟨g, cap, hv, cur, h1, h2, h3, h4, h5⟩
  · rcases hb with hb | hb
    · exact .inl (hb ▸ e)
    · rw [hb] at e; simp at e; exact .inr e.symm
theorem wpList_eappr {w : World} {ops : Array Oper} {rest : List Oper} {o : Oper} {a : Act} {Q : Exit → Act → World → Prop} (hE : E.Ok) (hgd : o.guard = none) (s x : Operand) (t t2 : TypeId) {e2 : TypeId}
    (ho : o.op = .call { callee := .builtin .append, args := #[s, x], argTypes := #[t, t2] }) (ht : Tryz.prog.underlying t = some (.slice E.T)) (ht2 : Tryz.prog.underlying t2 = some (.slice e2)) (v : Value) (L M : List α) (A : Option Addr) (c : Nat) (hs : a.eval s = v) (hx : a.eval x = .slice A M.length c)
    (h : EOwn E w v L) (hM : Reads w w.heap.size E.k A M.length (E.encs M)) (hl : L.length + M.length ≤ 1000000)
    (hK : ∀ v' w', EApp E v (L ++ M) w v' w' → wpList Tryz.prog ops Q rest (a.put o.dst v') w') : wpList Tryz.prog ops Q (o :: rest) a w :=
  wpList_plain hgd fun _ hK' => by
    obtain ⟨v', w', hrun, hA⟩ := run_eappr (ty := o.type) (c := c) hE ht ht2 h hM hl
    unfold Oper.wp execOp
    simp only [ho, resolve, invoke, builtin, Sem.run_bind, Sem.run_pure, Result.andThen_ok, List.map_toArray, List.map_cons, List.map_nil, hs, hx, hrun]
    exact hK' _ _ (hK v' w' hA)
end
theorem eq_nil_some (a : Addr) (n c : Nat) (w : World) : (binOp BinOp.eql 57 (.slice (some a) n c) (.slice none 0 0)).run Tryz.prog w = .ok (.bool false) w := by kernel_rfl
theorem eq_nil_none (n c : Nat) (w : World) : (binOp BinOp.eql 57 (.slice none n c) (.slice none 0 0)).run Tryz.prog w = .ok (.bool true) w := by kernel_rfl
attribute [local go_sem] eq_nil_some eq_nil_none
set_option maxRecDepth 100000 in
set_option maxHeartbeats 2000000 in
theorem clone_any (w : World) (v : Value) (L : List Bx) (h : ERd elR w v L) (hl : L.length ≤ 1000000) :
    Calls Tryz.prog 32 #[v] w fun e w' => ∃ v2, e = .returned v2 ∧ EOwn elR w' v2 L ∧ (∀ i, v2.ownBlock = some i → w.heap.size ≤ i) ∧ Below w.heap.size w w' := by
  obtain ⟨A, c, rfl, h1, h2, h3⟩ := id h
  cases A with
  | none =>
    obtain rfl : L = [] := by
      cases L with
      | nil => rfl
      | cons x L => obtain ⟨g, o, e, _⟩ := h3 0 x rfl; cases e
    clear h h1 h2 h3 hl
    go_enter Tryz.func32, Tryz.ntmps32
    go_wp2_with fail
    go_ret
    exact ⟨_, rfl, EOwn.nil_ _, fun i hi => by simp [Value.ownBlock] at hi, Below.refl _ _⟩
  | some a =>
    have HR := Lib.hid h
    have HL := Lib.hid hl
    clear h h1 h2 h3 hl
    go_enter Tryz.func32, Tryz.ntmps32
    have HO0 := Lib.hid (EOwn.block (M := ([] : List Bx)) elR_ok (Blk.new w 46 #[]) rfl (by simp))
    have HAL := Lib.hid (show Below w.heap.size w (w.alloc (.cells #[] 46)) from (Below.refl _ _).alloc (Nat.le_refl _) _)
    have HRD := Lib.hid ((HR.out.below HAL.out).reads elR_ok)
    go_upto_region 3 with (fail)
    go_wp2_with ((at_builtin; refine wpList_eappr (e2 := 46) elR_ok rfl _ _ 57 57 rfl (by kernel_rfl) (by kernel_rfl) (.slice (some ⟨w.heap.size, 0, none⟩) 0 0) [] L (some a) c rfl rfl HO0.out HRD.out (by have := HL.out; simpa using this) ?_; rintro v' w1 ⟨hO, hG, hW⟩; obtain ⟨A9, c9, rfl, _, _⟩ := hO.slice; have HO := Lib.hid hO; have HG := Lib.hid hG; have HW := Lib.hid hW; clear hO hG hW))
    go_ret
    exact ⟨_, rfl, HO.out, fun i hi => by
      rcases HW.out i hi with h9 | h9
      · simp [Value.ownBlock] at h9; omega
      · simp at h9; omega, HAL.out.grown HG.out (by simp) (fun i hi => by simp [Value.ownBlock] at hi; omega)⟩
theorem Blk.range {w : World} {r : Nat} {t : TypeId} {cs : List Value} (h : Blk w r t cs.toArray) : w.rangeAt r 0 cs := by
  intro j v hv
  rw [Blk.cell h (0 + j), Nat.zero_add, List.getElem?_toArray, hv]
def stripD (d : Dc) : Dc := { d with p := (0, 0), role := { d.role with p := (0, 0) }, label := { d.label with p := (0, 0) }, wh := { d.wh with p := (0, 0) } }
def StripP (d : Dc) (w : World) (e : Ending) (w' : World) : Prop := ∃ bv2, e = .returned (dV (stripD d) bv2) ∧ EOwn elR w' bv2 d.bx ∧ (∀ i, bv2.ownBlock = some i → w.heap.size ≤ i) ∧ Below w.heap.size w w'
end Go.Proofs.YtmgamlpjgghieaaGreatDoor
