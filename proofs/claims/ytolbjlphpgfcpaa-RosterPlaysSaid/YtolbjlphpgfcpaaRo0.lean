/- roster: members as they lie; the map of members: asked, put in, taken out. -/
import Derived.Test.YtolbjlphpgfcpaaRow3
import Derived.Deep.DeepCutAuto
import Derived.Deep.MidRow
import Derived.Deep.RegionHeld3
import Derived.Deep.RegionLaw
import Derived.StillTailTactics
import Derived.Handy
import Derived.Maps.Views
namespace Go.Proofs.Ytolbjlphpgfcpaa
set_option linter.unusedVariables false
set_option linter.unusedSimpArgs false
open Go.RowKit Go.Maps
/-- A member. -/
structure Mb where
  user : Int
  role : Int
  tier : Int
  quota : Int
  k : Int
  area : Nat
deriving DecidableEq
abbrev Mb.V (m : Mb) : Value := .agg #[.int .i64 m.user, .int .i64 m.role, .int .i64 m.tier, .int .i64 m.quota, .int .i64 m.k, .int .u64 m.area]
def Mb.zero : Mb := ⟨0, 0, 0, 0, 0, 0⟩
/-- The member 0. -/
def Mb.first : Mb := ⟨0, 0, 0, 65535, 0, 0⟩
def recD (m : Mb) : DataW Unit := .agg [.lit (.int .i64 m.user), .lit (.int .i64 m.role), .lit (.int .i64 m.tier), .lit (.int .i64 m.quota), .lit (.int .i64 m.k), .lit (.int .u64 m.area)]
def recR (v : Value) : Option (DataW Unit × List MemPlace) :=
  match v with
  | .agg a => match a.toList with
    | [.int .i64 a0, .int .i64 a1, .int .i64 a2, .int .i64 a3, .int .i64 a4, .int .u64 a5] => some (.agg [.lit (.int .i64 a0), .lit (.int .i64 a1), .lit (.int .i64 a2), .lit (.int .i64 a3), .lit (.int .i64 a4), .lit (.int .u64 a5)], [])
    | _ => none
  | _ => none
theorem recR_recV (m : Mb) : recR m.V = some (recD m, []) := rfl
theorem recR_inv {v : Value} {m : Mb} {ps : List MemPlace} (h : recR v = some (recD m, ps)) : v = m.V := by
  unfold recR at h
  split at h
  · rename_i a
    split at h
    · rename_i a0 a1 a2 a3 a4 a5 he
      simp only [Option.some.injEq, Prod.mk.injEq, recD, DataW.agg.injEq, List.cons.injEq, DataW.lit.injEq, Lit.int.injEq, true_and, and_true] at h
      obtain ⟨⟨rfl, rfl, rfl, rfl, rfl, rfl⟩, _⟩ := h
      simp only [Mb.V]
      rw [← he]
    · cases h
  · cases h
def keyL (id : Int) : Lit := .int .i64 id
/-- The map in block mp has c members: H says which. -/
def MapM (w : World) (mp n : Nat) (H : Int → Option Mb) (c : Nat) : Prop :=
  ∃ D : DataW Unit, w.ownsMap Try.prog 3 recR mp n D ∧ IsMap D ∧ Tidy D ∧ (∀ id, Maps.has D (keyL id) = (H id).isSome) ∧ (∀ id, D.atKey (keyL id) (recD Mb.zero) = (H id).elim (recD Mb.zero) recD) ∧ Maps.size D = c
theorem MapM.lt {w : World} {mp n c : Nat} {H : Int → Option Mb} (h : MapM w mp n H c) : mp < w.heap.size := by obtain ⟨D, h1, _⟩ := h; exact h1.lt
theorem MapM.keep {w w' : World} {mp n c : Nat} {H : Int → Option Mb} (h : MapM w mp n H c) (hk : w'.heap[mp]? = w.heap[mp]?) : MapM w' mp n H c := by
  obtain ⟨D, ⟨es, clock, hb, h1⟩, h2⟩ := h
  exact ⟨D, ⟨es, clock, hk.trans hb, h1⟩, h2⟩
theorem MapM.drew {w : World} {mp n c : Nat} {H : Int → Option Mb} (h : MapM w mp n H c) : MapM w.drew mp n H c := h
theorem MapM.alloc {w : World} {mp n c : Nat} {H : Int → Option Mb} (h : MapM w mp n H c) (o : Obj) : MapM (w.alloc o) mp n H c := h.keep (Below.heap_alloc w o mp h.lt)
theorem MapM.below {w w' : World} {mp n c : Nat} {H : Int → Option Mb} (h : MapM w mp n H c) (hb : Below w.heap.size w w') : MapM w' mp n H c := h.keep (hb.block mp h.lt)
theorem zero_rec (w : World) : (zeroValue 34).run Try.prog w = .ok Mb.zero.V w := by kernel_rfl
theorem key_int (id : Int) (hw : (Lit.int .i64 id).wf = true) : keyOf Try.prog 3 (.int .i64 id) = some (keyL id) := by simp [keyOf, mapKey, keyL, Try.underlying3, hw]
theorem wf_i64 {u : Int} (h : -9223372036854775808 ≤ u ∧ u ≤ 9223372036854775807) : (Lit.int .i64 u).wf = true := by
  have h1 : IntKind.i64.min = -9223372036854775808 := by decide
  have h2 : IntKind.i64.max = 9223372036854775807 := by decide
  simp only [Lit.wf, h1, h2, Bool.and_eq_true, decide_eq_true_eq]
  exact h
theorem MapM.look_ok {w : World} {mp n c : Nat} {H : Int → Option Mb} (h : MapM w mp n H c) (id : Int) (hw : (Lit.int .i64 id).wf = true) :
    (Instr.lookup 51 (.map (some mp)) (.int .i64 id) true).run Try.prog w = .ok (.tuple #[((H id).getD Mb.zero).V, .bool (H id).isSome]) w := by
  obtain ⟨D, h1, _, _, h4, h5, _⟩ := h
  obtain ⟨v, ps, hrun, hR⟩ := h1.look_ok (int_keyed Try.underlying3) Try.underlying51 (zero_rec w) (recR_recV Mb.zero) (key_int id hw)
  rw [h5] at hR
  rw [hrun, h4]
  cases hid : H id with
  | none => rw [hid] at hR; rw [recR_inv hR]; rfl
  | some r => rw [hid] at hR; rw [recR_inv hR]; rfl
theorem look_none (w : World) (id : Int) (hw : (Lit.int .i64 id).wf = true) :
    (Instr.lookup 51 (.map none) (.int .i64 id) true).run Try.prog w = .ok (.tuple #[Mb.zero.V, .bool false]) w := by kernel_rfl
theorem MapM.len {w : World} {mp n c : Nat} {H : Int → Option Mb} (h : MapM w mp n H c) (ty : TypeId) : (Builtin.len_ #[51] ty #[.map (some mp)]).run Try.prog w = .ok (.int .i64 (c : Int)) w := by
  obtain ⟨D, h1, _, _, _, _, h6⟩ := h
  rw [← h6]
  exact h1.len Try.underlying51 ty
theorem len_none (w : World) (ty : TypeId) : (Builtin.len_ #[51] ty #[.map none]).run Try.prog w = .ok (.int .i64 0) w := by kernel_rfl
theorem keyL_is (id : Int) : WideAt.IsKeyLit (keyL id) := by simp [WideAt.IsKeyLit, keyL]
theorem keyL_ne {a b : Int} (h : a ≠ b) : keyL a ≠ keyL b := by simp [keyL, h]
def putH (H : Int → Option Mb) (id : Int) (r : Mb) : Int → Option Mb := fun j => if j = id then some r else H j
def delH (H : Int → Option Mb) (id : Int) : Int → Option Mb := fun j => if j = id then none else H j
theorem MapM.store {w : World} {mp n c : Nat} {H : Int → Option Mb} (h : MapM w mp n H c) (id : Int) (hw : (Lit.int .i64 id).wf = true) (r : Mb) (hn : n < maxLen) :
    ∃ w', (Instr.mapUpdate 51 (.map (some mp)) (.int .i64 id) r.V).run Try.prog w = .ok () w' ∧ MapM w' mp (n + 1) (putH H id r) (if (H id).isSome then c else c + 1) ∧ w.grownBy w' (some mp) := by
  obtain ⟨D, h1, h2, h3, h4, h5, h6⟩ := h
  obtain ⟨w', hrun, ho, hm⟩ := h1.store (int_keyed Try.underlying3) Try.underlying51 hn (key_int id hw) (recR_recV r)
  refine ⟨w', hrun, ⟨_, ho, ho.isMap, ho.tidy (int_keyed Try.underlying3), fun j => ?_, fun j => ?_, ?_⟩, hm.grown⟩
  · unfold putH
    by_cases hj : j = id
    · subst hj; rw [if_pos rfl, has_put_same h2 (keyL_is j)]; rfl
    · rw [if_neg hj, has_put_other (keyL_ne hj)]; exact h4 j
  · unfold putH
    by_cases hj : j = id
    · subst hj; rw [if_pos rfl, atKey_put_same h2 (keyL_is j)]; rfl
    · rw [if_neg hj, atKey_put_other (keyL_ne hj)]; exact h5 j
  · rw [size_put h3, h4, h6]
theorem MapM.drop {w : World} {mp n c : Nat} {H : Int → Option Mb} (h : MapM w mp n H c) (id : Int) (hw : (Lit.int .i64 id).wf = true) (ty : TypeId) :
    ∃ w', (Builtin.delete_ #[51, 3] ty #[.map (some mp), .int .i64 id]).run Try.prog w = .ok (.tuple #[]) w' ∧ MapM w' mp n (delH H id) (c - if (H id).isSome then 1 else 0) ∧ w.grownBy w' (some mp) := by
  obtain ⟨D, h1, h2, h3, h4, h5, h6⟩ := h
  obtain ⟨w', hrun, ho, hm⟩ := h1.drop (int_keyed Try.underlying3) Try.underlying51 (key_int id hw) ty
  refine ⟨w', hrun, ⟨_, ho, ho.isMap, ho.tidy (int_keyed Try.underlying3), fun j => ?_, fun j => ?_, ?_⟩, hm.grown⟩
  · unfold delH
    by_cases hj : j = id
    · subst hj; rw [if_pos rfl, has_del_same]; rfl
    · rw [if_neg hj, has_del_other (keyL_ne hj)]; exact h4 j
  · unfold delH
    by_cases hj : j = id
    · subst hj; rw [if_pos rfl, atKey_del_same]; rfl
    · rw [if_neg hj, atKey_del_other (keyL_ne hj)]; exact h5 j
  · have := size_del (k := keyL id) h3
    rw [h4, h6] at this
    omega
theorem MapM.made (w : World) : MapM (w.alloc (.map #[] 0)) w.heap.size 0 (fun _ => none) 0 := by
  have h := World.ownsMap_made (H := Unit) w Try.prog 3 recR
  refine ⟨_, h, h.isMap, h.tidy (int_keyed Try.underlying3), fun j => rfl, fun j => ?_, rfl⟩
  exact atKey_of_not_has rfl _
end Go.Proofs.Ytolbjlphpgfcpaa
