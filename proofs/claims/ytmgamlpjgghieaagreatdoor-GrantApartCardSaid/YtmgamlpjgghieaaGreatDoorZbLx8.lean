/- lex: mark and token, by contract. -/
import Derived.Test.YtmgamlpjgghieaaGreatDoorZbLx7
namespace Go.Proofs.YtmgamlpjgghieaaGreatDoor
set_option linter.unusedVariables false
set_option linter.unusedSimpArgs false
open Go.RowKit
def mL (k : Nat) : Bs := marksL.getD k []
def mkAt (l : Bs) (k : Nat) : Bool := Lib.hasPrefix l (mL k)
/-- The first mark that is next. -/
def mkF (l : Bs) : Option Nat := (List.range 4).find? (mkAt l)
theorem mkF_some {l : Bs} {k : Nat} (hk : k < 4) (h : ∀ j, j < k → mkAt l j = false) (hy : mkAt l k = true) : mkF l = some k := by
  unfold mkF
  have hk2 : k = 0 ∨ k = 1 ∨ k = 2 ∨ k = 3 := by omega
  rcases hk2 with rfl | rfl | rfl | rfl
  · simp [List.range, List.range.loop, hy]
  · have h0 := h 0 (by omega); simp [List.range, List.range.loop, hy, h0]
  · have h0 := h 0 (by omega); have h1 := h 1 (by omega); simp [List.range, List.range.loop, hy, h0, h1]
  · have h0 := h 0 (by omega); have h1 := h 1 (by omega); have h2 := h 2 (by omega); simp [List.range, List.range.loop, hy, h0, h1, h2]
theorem mkF_none {l : Bs} (h : ∀ j, j < 4 → mkAt l j = false) : mkF l = none := by
  unfold mkF
  rw [List.find?_eq_none]
  intro j hj
  rw [h j (List.mem_range.1 hj)]
  decide
def mkE (l : Bs) : Int := if (mkF l).isSome then 0 else 30
def mkKd (l : Bs) : Int := if (mkF l).isSome then 4 else 0
def mkTx (l : Bs) : Bs := match mkF l with
  | some k => mL k
  | none => []
theorem prefix_take {l m : Bs} (h : Lib.hasPrefix l m = true) : l.take m.length = m ∧ m.length ≤ l.length := by
  obtain ⟨t, rfl⟩ := List.isPrefixOf_iff_prefix.1 h
  simp
theorem But.setNew {r b o : Nat} {w W : World} (h : But r w W) (hb : w.heap.size ≤ b) (v : Value) : But r w (W.setCell ⟨b, o, none⟩ v) := by
  have h2 := (Below.refl b W).setCell (p := ⟨b, o, none⟩) (Nat.le_refl _) v
  exact ⟨h2.os.trans h.os, h2.tape.trans h.tape, h2.output.trans h.output, Nat.le_trans h.size h2.size, fun k hk hr => (Below.heap_setCell W ⟨b, o, none⟩ v k (by show k ≠ b; omega)).trans (h.block k hk hr)⟩
theorem But.five {r b : Nat} {w W : World} (h : But r w W) (hb : w.heap.size ≤ b) (v0 v1 v2 v3 v4 : Value) : But r w (((((W.setCell ⟨b, 0, none⟩ v0).setCell ⟨b, 1, none⟩ v1).setCell ⟨b, 2, none⟩ v2).setCell ⟨b, 3, none⟩ v3).setCell ⟨b, 4, none⟩ v4) :=
  ((((h.setNew hb v0).setNew hb v1).setNew hb v2).setNew hb v3).setNew hb v4
end Go.Proofs.YtmgamlpjgghieaaGreatDoor
