/- geom: points and rectangles by contract. -/
import Derived.Test.YtdbiaijpbkmfhaaRows
import Derived.Test.YtdbiaijpbkmfhaaWords
import Derived.WalkKit
import Derived.WalkSpells
import Derived.WalkLawsBesides
import Derived.BigQuiet
import Derived.Deep.QuietTactic
import Derived.Lib.Hide
import Derived.Handy
namespace Go.Proofs.Ytdbiaijpbkmfhaa
set_option linter.unusedVariables false
set_option linter.unusedSimpArgs false
open Go.RowKit
theorem ret_bool {a b : Bool} (h : a = b) : Ending.returned (.bool a) = .returned (.bool b) := by rw [h]
def fitsB (x y : Int) : Bool := decide (0 ≤ x ∧ x ≤ 65535 ∧ 0 ≤ y ∧ y ≤ 65535)
def rightB (a b c d : Int) : Bool := decide (0 ≤ a ∧ a ≤ c ∧ c ≤ 65535 ∧ 0 ≤ b ∧ b ≤ d ∧ d ≤ 65535)
def hasB (a b c d x y : Int) : Bool := decide ((0 ≤ a ∧ a ≤ c ∧ c ≤ 65535 ∧ 0 ≤ b ∧ b ≤ d ∧ d ≤ 65535) ∧ a ≤ x ∧ x ≤ c ∧ b ≤ y ∧ y ≤ d)
def insB (a b c d e f g h : Int) : Bool := decide ((0 ≤ a ∧ a ≤ c ∧ c ≤ 65535 ∧ 0 ≤ b ∧ b ≤ d ∧ d ≤ 65535) ∧ (0 ≤ e ∧ e ≤ g ∧ g ≤ 65535 ∧ 0 ≤ f ∧ f ≤ h ∧ h ≤ 65535) ∧ e ≤ a ∧ c ≤ g ∧ f ≤ b ∧ d ≤ h)
theorem fitsB_iff (x y : Int) : fitsB x y = true ↔ (0 ≤ x ∧ x ≤ 65535 ∧ 0 ≤ y ∧ y ≤ 65535) := by simp only [fitsB, decide_eq_true_eq]
theorem rightB_iff (a b c d : Int) : rightB a b c d = true ↔ (0 ≤ a ∧ a ≤ c ∧ c ≤ 65535 ∧ 0 ≤ b ∧ b ≤ d ∧ d ≤ 65535) := by simp only [rightB, decide_eq_true_eq]
theorem hasB_iff (a b c d x y : Int) : hasB a b c d x y = true ↔ ((0 ≤ a ∧ a ≤ c ∧ c ≤ 65535 ∧ 0 ≤ b ∧ b ≤ d ∧ d ≤ 65535) ∧ a ≤ x ∧ x ≤ c ∧ b ≤ y ∧ y ≤ d) := by simp only [hasB, decide_eq_true_eq]
theorem insB_iff (a b c d e f g h : Int) : insB a b c d e f g h = true ↔ ((0 ≤ a ∧ a ≤ c ∧ c ≤ 65535 ∧ 0 ≤ b ∧ b ≤ d ∧ d ≤ 65535) ∧ (0 ≤ e ∧ e ≤ g ∧ g ≤ 65535 ∧ 0 ≤ f ∧ f ≤ h ∧ h ≤ 65535) ∧ e ≤ a ∧ c ≤ g ∧ f ≤ b ∧ d ≤ h) := by simp only [insB, decide_eq_true_eq]
set_option maxHeartbeats 400000 in
theorem fits_spot (x y : Int) (w : World) :
    Calls Try.prog 43 #[.agg #[.int .i64 x, .int .i64 y]] w fun e w' => e = .returned (.bool (fitsB x y)) ∧ w.alloc (.cells #[.int .i64 x, .int .i64 y] 78) = w' := by
  go_enter Try.func43, Try.ntmps43
  go_wp2
  all_goals
    go_ret
    refine ⟨ret_bool ?_, rfl⟩
    first | rfl | (rw [Bool.eq_iff_iff]; simp only [fitsB_iff, rightB_iff, hasB_iff, insB_iff, decide_eq_true_eq, Bool.false_eq_true, false_iff, true_iff, iff_true, Bool.not_eq_true] at *; omega)
set_option maxHeartbeats 400000 in
theorem fits_any (x y : Int) (w : World) :
    Calls Try.prog 28 #[.agg #[.int .i64 x, .int .i64 y]] w fun e w' => e = .returned (.bool (fitsB x y)) ∧ Below w.heap.size w w' := by
  go_enter Try.func28, Try.ntmps28
  go_wp2_with ((go_at_call 43; refine (fits_spot _ _ _).mono ?_; rintro e w1 ⟨rfl, rfl⟩))
  all_goals
    go_ret
    refine ⟨ret_bool ?_, by go_grown⟩
    first | rfl | (rw [Bool.eq_iff_iff]; simp only [fitsB_iff, rightB_iff, hasB_iff, insB_iff, decide_eq_true_eq, Bool.false_eq_true, false_iff, true_iff, iff_true, Bool.not_eq_true] at *; omega)
end Go.Proofs.Ytdbiaijpbkmfhaa
