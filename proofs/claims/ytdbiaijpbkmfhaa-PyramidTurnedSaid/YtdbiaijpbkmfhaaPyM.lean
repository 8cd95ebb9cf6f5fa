/- pyramid: a map of counts; a pyramid as it lies. -/
import Derived.Test.YtdbiaijpbkmfhaaPy1
import Derived.Test.YtdbiaijpbkmfhaaCellCode
import Derived.Maps.Views
namespace Go.Proofs.Ytdbiaijpbkmfhaa
set_option linter.unusedVariables false
set_option linter.unusedSimpArgs false
open Go.RowKit Go.Maps
def recV (n : Int) : Value := .int .i64 n
def recD (n : Int) : DataW Unit := .lit (.int .i64 n)
def recR (v : Value) : Option (DataW Unit × List MemPlace) :=
  match v with
  | .int .i64 i => some (recD i, [])
  | _ => none
theorem recR_recV (n : Int) : recR (recV n) = some (recD n, []) := rfl
theorem recR_inv {v : Value} {n : Int} {ps : List MemPlace} (h : recR v = some (recD n, ps)) : v = recV n := by
  unfold recR at h
  split at h
  · simp only [Option.some.injEq, Prod.mk.injEq, recD, DataW.lit.injEq, Lit.int.injEq, true_and] at h
    obtain ⟨rfl, _⟩ := h
    rfl
  · cases h
def keyL (id : Int) : Lit := .int .u64 id
/-- The map in block mp has c keys: H says which. -/
def MapP (w : World) (mp n : Nat) (H : Int → Option Int) (c : Nat) : Prop :=
  ∃ D : DataW Unit, w.ownsMap Try.prog 60 recR mp n D ∧ IsMap D ∧ Tidy D ∧ (∀ id, Maps.has D (keyL id) = (H id).isSome) ∧ (∀ id, D.atKey (keyL id) (recD 0) = recD ((H id).getD 0)) ∧ Maps.size D = c
theorem MapP.lt {w : World} {mp n c : Nat} {H : Int → Option Int} (h : MapP w mp n H c) : mp < w.heap.size := by obtain ⟨D, h1, _⟩ := h; exact h1.lt
theorem MapP.keep {w w' : World} {mp n c : Nat} {H : Int → Option Int} (h : MapP w mp n H c) (hk : w'.heap[mp]? = w.heap[mp]?) : MapP w' mp n H c := by
  obtain ⟨D, ⟨es, clock, hb, h1⟩, h2⟩ := h
  exact ⟨D, ⟨es, clock, hk.trans hb, h1⟩, h2⟩
theorem MapP.drew {w : World} {mp n c : Nat} {H : Int → Option Int} (h : MapP w mp n H c) : MapP w.drew mp n H c := h
theorem MapP.alloc {w : World} {mp n c : Nat} {H : Int → Option Int} (h : MapP w mp n H c) (o : Obj) : MapP (w.alloc o) mp n H c := h.keep (Below.heap_alloc w o mp h.lt)
theorem zero_int (w : World) : (zeroValue 3).run Try.prog w = .ok (recV 0) w := by kernel_rfl
theorem key_u64 (id : Int) (hw : (Lit.int .u64 id).wf = true) : keyOf Try.prog 60 (.int .u64 id) = some (keyL id) := by simp [keyOf, mapKey, keyL, Try.underlying60, hw]
theorem MapP.look {w : World} {mp n c : Nat} {H : Int → Option Int} (h : MapP w mp n H c) (id : Int) (hw : (Lit.int .u64 id).wf = true) :
    (Instr.lookup 55 (.map (some mp)) (.int .u64 id) false).run Try.prog w = .ok (recV ((H id).getD 0)) w := by
  obtain ⟨D, h1, _, _, _, h5, _⟩ := h
  obtain ⟨v, ps, hrun, hR⟩ := h1.lookup (int_keyed Try.underlying60) Try.underlying55 (zero_int w) (recR_recV 0) (key_u64 id hw)
  rw [h5] at hR
  rw [hrun, recR_inv hR]
theorem MapP.look_ok {w : World} {mp n c : Nat} {H : Int → Option Int} (h : MapP w mp n H c) (id : Int) (hw : (Lit.int .u64 id).wf = true) :
    (Instr.lookup 55 (.map (some mp)) (.int .u64 id) true).run Try.prog w = .ok (.tuple #[recV ((H id).getD 0), .bool (H id).isSome]) w := by
  obtain ⟨D, h1, _, _, h4, h5, _⟩ := h
  obtain ⟨v, ps, hrun, hR⟩ := h1.look_ok (int_keyed Try.underlying60) Try.underlying55 (zero_int w) (recR_recV 0) (key_u64 id hw)
  rw [h5] at hR
  rw [hrun, h4, recR_inv hR]
theorem MapP.len {w : World} {mp n c : Nat} {H : Int → Option Int} (h : MapP w mp n H c) (ty : TypeId) : (Builtin.len_ #[55] ty #[.map (some mp)]).run Try.prog w = .ok (.int .i64 (c : Int)) w := by
  obtain ⟨D, h1, _, _, _, _, h6⟩ := h
  rw [← h6]
  exact h1.len Try.underlying55 ty
theorem keyL_is (id : Int) : WideAt.IsKeyLit (keyL id) := by simp [WideAt.IsKeyLit, keyL]
theorem keyL_ne {a b : Int} (h : a ≠ b) : keyL a ≠ keyL b := by simp [keyL, h]
def putH (H : Int → Option Int) (id : Int) (r : Int) : Int → Option Int := fun j => if j = id then some r else H j
def delH (H : Int → Option Int) (id : Int) : Int → Option Int := fun j => if j = id then none else H j
theorem MapP.store {w : World} {mp n c : Nat} {H : Int → Option Int} (h : MapP w mp n H c) (id : Int) (hw : (Lit.int .u64 id).wf = true) (r : Int) (hn : n < maxLen) :
    ∃ w', (Instr.mapUpdate 55 (.map (some mp)) (.int .u64 id) (recV r)).run Try.prog w = .ok () w' ∧ MapP w' mp (n + 1) (putH H id r) (if (H id).isSome then c else c + 1) ∧ w.grownBy w' (some mp) := by
  obtain ⟨D, h1, h2, h3, h4, h5, h6⟩ := h
  obtain ⟨w', hrun, ho, hm⟩ := h1.store (int_keyed Try.underlying60) Try.underlying55 hn (key_u64 id hw) (recR_recV r)
  refine ⟨w', hrun, ⟨_, ho, ho.isMap, ho.tidy (int_keyed Try.underlying60), fun j => ?_, fun j => ?_, ?_⟩, hm.grown⟩
  · unfold putH
    by_cases hj : j = id
    · subst hj; rw [if_pos rfl, has_put_same h2 (keyL_is j)]; rfl
    · rw [if_neg hj, has_put_other (keyL_ne hj)]; exact h4 j
  · unfold putH
    by_cases hj : j = id
    · subst hj; rw [if_pos rfl, atKey_put_same h2 (keyL_is j)]; rfl
    · rw [if_neg hj, atKey_put_other (keyL_ne hj)]; exact h5 j
  · rw [size_put h3, h4, h6]
theorem MapP.drop {w : World} {mp n c : Nat} {H : Int → Option Int} (h : MapP w mp n H c) (id : Int) (hw : (Lit.int .u64 id).wf = true) (ty : TypeId) :
    ∃ w', (Builtin.delete_ #[55, 60] ty #[.map (some mp), .int .u64 id]).run Try.prog w = .ok (.tuple #[]) w' ∧ MapP w' mp n (delH H id) (c - if (H id).isSome then 1 else 0) ∧ w.grownBy w' (some mp) := by
  obtain ⟨D, h1, h2, h3, h4, h5, h6⟩ := h
  obtain ⟨w', hrun, ho, hm⟩ := h1.drop (int_keyed Try.underlying60) Try.underlying55 (key_u64 id hw) ty
  refine ⟨w', hrun, ⟨_, ho, ho.isMap, ho.tidy (int_keyed Try.underlying60), fun j => ?_, fun j => ?_, ?_⟩, hm.grown⟩
  · unfold delH
    by_cases hj : j = id
    · subst hj; rw [if_pos rfl, has_del_same]; rfl
    · rw [if_neg hj, has_del_other (keyL_ne hj)]; exact h4 j
  · unfold delH
    by_cases hj : j = id
    · subst hj; rw [if_pos rfl, atKey_del_same]; rfl
    · rw [if_neg hj, atKey_del_other (keyL_ne hj)]; exact h5 j
  · have := size_del (k := keyL id) h3
    rw [h4, h6] at this
    omega
theorem MapP.made (w : World) : MapP (w.alloc (.map #[] 0)) w.heap.size 0 (fun _ => none) 0 := by
  have h := World.ownsMap_made (H := Unit) w Try.prog 60 recR
  refine ⟨_, h, h.isMap, h.tidy (int_keyed Try.underlying60), fun j => rfl, fun j => ?_, rfl⟩
  exact atKey_of_not_has rfl _
end Go.Proofs.Ytdbiaijpbkmfhaa
