/- The document's points and rectangles by contract. -/
import Derived.Test.YtdbiaijpbkmfhaaGeomFar
import Derived.StillTailTactics
namespace Go.Proofs.Ytdbiaijpbkmfhaa
set_option linter.unusedVariables false
set_option linter.unusedSimpArgs false
open Go.RowKit
def insideB (n : Int) : Bool := decide (0 ≤ n ∧ n ≤ 65535)
theorem insideB_iff (n : Int) : insideB n = true ↔ (0 ≤ n ∧ n ≤ 65535) := by simp only [insideB, decide_eq_true_eq]
set_option maxHeartbeats 400000 in
theorem ref_inside (n : Int) (w : World) :
    Calls Try.prog 31 #[.int .i64 n] w fun e w' => e = .returned (.bool (insideB n)) ∧ w = w' := by
  go_enter Try.func31, Try.ntmps31
  go_wp2
  all_goals
    go_ret
    refine ⟨ret_bool ?_, rfl⟩
    first | rfl | (rw [Bool.eq_iff_iff]; simp only [fitsB_iff, rightB_iff, hasB_iff, insB_iff, insideB_iff, decide_eq_true_eq, Bool.false_eq_true, false_iff, true_iff, iff_true, Bool.not_eq_true] at *; omega)
set_option maxHeartbeats 400000 in
theorem ref_fits (x y : Int) (w : World) :
    Calls Try.prog 11 #[.agg #[.int .i64 x, .int .i64 y]] w fun e w' => e = .returned (.bool (fitsB x y)) ∧ Below w.heap.size w w' := by
  go_enter Try.func11, Try.ntmps11
  go_wp2_with ((go_at_call 31; refine (ref_inside _ _).mono ?_; rintro e w1 ⟨rfl, rfl⟩))
  all_goals
    go_ret
    refine ⟨ret_bool ?_, by go_grown⟩
    first | rfl | (rw [Bool.eq_iff_iff]; simp only [fitsB_iff, rightB_iff, hasB_iff, insB_iff, insideB_iff, decide_eq_true_eq, Bool.false_eq_true, false_iff, true_iff, iff_true, Bool.not_eq_true] at *; omega)
set_option maxHeartbeats 1000000 in
theorem ref_right (a b c d : Int) (w : World) :
    Calls Try.prog 48 #[.agg #[.int .i64 a, .int .i64 b, .int .i64 c, .int .i64 d]] w fun e w' => e = .returned (.bool (rightB a b c d)) ∧ Below w.heap.size w w' := by
  go_enter Try.func48, Try.ntmps48
  go_wp2_with ((go_at_call 31; refine (ref_inside _ _).mono ?_; rintro e w1 ⟨rfl, rfl⟩))
  all_goals
    go_ret
    refine ⟨ret_bool ?_, by go_grown⟩
    first | rfl | (rw [Bool.eq_iff_iff]; simp only [fitsB_iff, rightB_iff, hasB_iff, insB_iff, insideB_iff, decide_eq_true_eq, Bool.false_eq_true, false_iff, true_iff, iff_true, Bool.not_eq_true] at *; omega)
set_option maxHeartbeats 1000000 in
theorem ref_has (a b c d x y : Int) (w : World) :
    Calls Try.prog 36 #[.agg #[.int .i64 a, .int .i64 b, .int .i64 c, .int .i64 d], .agg #[.int .i64 x, .int .i64 y]] w fun e w' => e = .returned (.bool (hasB a b c d x y)) ∧ Below w.heap.size w w' := by
  go_enter Try.func36, Try.ntmps36
  go_wp2_with ((go_at_call 48; refine (ref_right _ _ _ _ _).mono ?_; rintro e w1 ⟨rfl, hb⟩; have hB : Below w.heap.size w w1 := below_trans (by go_grown) hb; have hz := hb.size; (try simp at hz); obtain ⟨hc, hf⟩ := bcell hb; have hz0 : w.heap.size < w1.heap.size := (by omega); have hz1 : w.heap.size + 1 < w1.heap.size := (by omega)))
  all_goals
    go_ret
    refine ⟨ret_bool ?_, by go_grown⟩
    first | rfl | (rw [Bool.eq_iff_iff]; simp only [fitsB_iff, rightB_iff, hasB_iff, insB_iff, insideB_iff, decide_eq_true_eq, Bool.false_eq_true, false_iff, true_iff, iff_true, Bool.not_eq_true] at *; omega)
end Go.Proofs.Ytdbiaijpbkmfhaa
