/- lex: package variables; Word, by contract. -/
import Derived.Test.YtmgamlpjgghieaaGreatDoorZbLxSpecM
import Derived.Test.YtmgamlpjgghieaaGreatDoorShelf
import Derived.Laws.Cover1
namespace Go.Proofs.YtmgamlpjgghieaaGreatDoor
set_option linter.unusedVariables false
set_option linter.unusedSimpArgs false
open Go.RowKit
def wordsL : List Bs := [[97, 108, 108], [97, 108, 108, 111, 119], [97, 110, 121], [99, 97, 112], [99, 108, 111, 97, 107], [105, 110], [108, 97, 98, 101, 108], [114, 101, 103, 105, 111, 110], [114, 111, 108, 101], [116, 105, 101, 114], [122, 111, 111, 109]]
def marksL : List Bs := [[61], [43], [59], [46, 46]]
def wS (i : Nat) : ByteArray := bs (wordsL.getD i [])
def mS (i : Nat) : ByteArray := bs (marksL.getD i [])
theorem bytesLess_irr : ∀ l : List UInt8, Op.bytesLess l l = false := by
  intro l
  induction l with
  | nil => rfl
  | cons c l ih => simp [Op.bytesLess, ih]
def cmpV (a b : ByteArray) : Int := if a = b then 0 else if Op.bytesLess a.toList b.toList = true then -1 else 1
theorem toList_inj {a b : ByteArray} (h : a.toList = b.toList) : a = b := by
  rw [ByteArray.toList_eq, ByteArray.toList_eq] at h
  cases a; cases b
  simp at h
  rw [h]
def wordB (s : ByteArray) : Bool := (List.range 11).any fun i => decide (s = wS i)
theorem wordB_yes {s : ByteArray} {k : Nat} (hk : k < 11) (e : s = wS k) : wordB s = true := List.any_eq_true.2 ⟨k, List.mem_range.2 hk, by simp [e]⟩
theorem wordB_no {s : ByteArray} (h : ∀ j, j < 11 → s ≠ wS j) : wordB s = false := by
  unfold wordB
  rw [List.any_eq_false]
  intro j hj
  simpa using h j (List.mem_range.1 hj)
theorem words_less : ∀ i, i < 11 → ∀ j, j < 11 → i < j → Op.bytesLess (wS i).toList (wS j).toList = true := by
  have : ∀ i : Fin 11, ∀ j : Fin 11, i.1 < j.1 → Op.bytesLess (wS i.1).data.toList (wS j.1).data.toList = true := by decide +kernel
  intro i hi j hj h
  have := this ⟨i, hi⟩ ⟨j, hj⟩ h
  rw [ByteArray.toList_eq, ByteArray.toList_eq]
  exact this
theorem word_case (s : ByteArray) (k : Nat) (hk : k < 11) : (cmpV (wS k) s = 0 ∧ s = wS k) ∨ (cmpV (wS k) s = -1 ∧ s ≠ wS k) ∨ (cmpV (wS k) s = 1 ∧ ∀ j, k ≤ j → j < 11 → s ≠ wS j) := by
  by_cases h : wS k = s
  · exact .inl ⟨by simp [cmpV, h], h.symm⟩
  · by_cases hl : Op.bytesLess (wS k).toList s.toList = true
    · exact .inr (.inl ⟨by simp [cmpV, h, hl], fun e => h e.symm⟩)
    · refine .inr (.inr ⟨by simp [cmpV, h, hl], fun j hkj hj e => ?_⟩)
      rcases Nat.lt_or_ge k j with h1 | h1
      · subst e; exact hl (words_less k hk j hj h1)
      · obtain rfl : j = k := by omega
        exact h e.symm
end Go.Proofs.YtmgamlpjgghieaaGreatDoor
