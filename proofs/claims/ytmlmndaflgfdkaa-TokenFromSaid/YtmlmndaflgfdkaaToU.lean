/- token: at the tick 0 nothing is over; a row is a table's just if From takes it and All says so. -/
import Derived.Test.YtmlmndaflgfdkaaToT
import Derived.Test.YtmlmndaflgfdkaaTo37
namespace Go.Proofs.Ytmlmndaflgfdkaa
set_option linter.unusedVariables false
set_option linter.unusedSimpArgs false
open Go.RowKit
theorem WF.rightAll {L : List Tk} (h : WF L) : ∀ k ∈ L, rightG k.g = true := by
  induction h with
  | nil => intro k hk; cases hk
  | @snoc L k h h0 h1 h2 h3 ih =>
    intro x hx
    rcases List.mem_append.1 hx with h | h
    · exact ih x h
    · have : x = k := by simpa using h
      rw [this]; exact h3
theorem right_til {g : Gt} (h : rightG g = true) : 0 ≤ g.til := by
  unfold rightG numsB at h
  simp only [Bool.and_eq_true, decide_eq_true_eq] at h
  exact h.1.2.2.2.2.1
/-- At the tick 0 no ticket of a table is over. -/
theorem left0 {L : List Tk} (h : WF L) : leftC 0 L = L := drop_none L fun k hk => decide_eq_false (by have := right_til (h.rightAll k hk); omega)
theorem allB_iff (L : List Tk) : AllB L ↔ FromOk L := (fromOk_iff L).symm
end Go.Proofs.Ytmlmndaflgfdkaa
