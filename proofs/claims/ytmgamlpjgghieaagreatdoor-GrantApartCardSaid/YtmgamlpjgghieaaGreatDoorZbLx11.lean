/- lex: Tokens, by contract. -/
import Derived.Test.YtmgamlpjgghieaaGreatDoorZbLx10
import Derived.Deep.RegionLaw
import Derived.Deep.DeepCutAuto
namespace Go.Proofs.YtmgamlpjgghieaaGreatDoor
set_option linter.unusedVariables false
set_option linter.unusedSimpArgs false
open Go.RowKit
theorem Blk.set3_ {w : World} {g : Nat} {t : TypeId} {x y z : Value} (h : Blk w g t #[x, y, z]) (a b c : Value) : Blk (((w.setCell ⟨g, 0, none⟩ a).setCell ⟨g, 1, none⟩ b).setCell ⟨g, 2, none⟩ c) g t #[a, b, c] := h.set3 a b c
theorem Below.set3 {B b : Nat} {w W : World} (h : Below B w W) (hb : B ≤ b) (x y z : Value) : Below B w (((W.setCell ⟨b, 0, none⟩ x).setCell ⟨b, 1, none⟩ y).setCell ⟨b, 2, none⟩ z) := ((h.setCell (p := ⟨b, 0, none⟩) hb x).setCell (p := ⟨b, 1, none⟩) hb y).setCell (p := ⟨b, 2, none⟩) hb z
theorem EOwn.far3 {α : Type} {E : El α} {W : World} {v : Value} {L : List α} {b : Nat} (h : EOwn E W v L) (hb : ∀ i, v.ownBlock = some i → i ≠ b) (x y z : Value) : EOwn E (((W.setCell ⟨b, 0, none⟩ x).setCell ⟨b, 1, none⟩ y).setCell ⟨b, 2, none⟩ z) v L :=
  h.keep fun i hi e => by
    rw [Below.heap_setCell _ _ _ _ (by show i ≠ b; exact hb i e), Below.heap_setCell _ _ _ _ (by show i ≠ b; exact hb i e), Below.heap_setCell _ _ _ _ (by show i ≠ b; exact hb i e)]
theorem below_drew1 {B : Nat} {a w : World} (h : Below B a w) : Below B a w.drew := ⟨h.os, h.tape, h.output, h.size, h.block⟩
theorem tz_shape (n : Nat) (l : Bs) (p : Pl) : (tz n l p).2 = none ∨ (tz n l p).1 = [] := by
  match n, l with
  | 0, _ => exact .inl rfl
  | n + 1, [] => exact .inl rfl
  | n + 1, c :: l =>
    rw [tz]
    split
    · generalize tz n _ _ = R
      obtain ⟨L, f⟩ := R
      cases f with
      | none => exact .inl rfl
      | some f => exact .inr rfl
    · exact .inr rfl
theorem tkA_take (k : Bs) : k.take (tkA k).length = tkA k := by
  have hw : ∀ f : UInt8 → Bool, k.take (k.takeWhile f).length = k.takeWhile f := fun f => (List.prefix_iff_eq_take.1 (List.takeWhile_prefix f)).symm
  unfold tkA
  split
  · exact hw _
  · split
    · exact hw _
    · unfold mkTx
      cases hm : mkF k with
      | none => rfl
      | some j =>
        have hk := List.find?_some hm
        exact (prefix_take hk).1
end Go.Proofs.YtmgamlpjgghieaaGreatDoor
