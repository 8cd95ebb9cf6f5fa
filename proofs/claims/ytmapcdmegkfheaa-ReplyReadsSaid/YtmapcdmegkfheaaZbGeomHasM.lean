/- Texts: GeomHas, GeomFar, GeomRef. -/
import Derived.Test.YtmapcdmegkfheaaZbGeom
import Derived.Deep.RegionHeld3
import Derived.Deep.RegionWith
import Derived.StillTailTactics
namespace Go.Proofs.Ytmapcdmegkfheaa
section
set_option linter.unusedVariables false
set_option linter.unusedSimpArgs false
open Go.RowKit
def inrB (a b c d x y : Int) : Bool := decide (a ≤ x ∧ x ≤ c ∧ b ≤ y ∧ y ≤ d)
theorem inrB_iff (a b c d x y : Int) : inrB a b c d x y = true ↔ (a ≤ x ∧ x ≤ c ∧ b ≤ y ∧ y ≤ d) := by simp only [inrB, decide_eq_true_eq]
end
section
set_option linter.unusedVariables false
set_option linter.unusedSimpArgs false
open Go.RowKit
def gapI (a b : Int) : Int := if a ≤ b then b - a else a - b
theorem gapI_le (a b : Int) (h : a ≤ b) : gapI a b = b - a := if_pos h
theorem gapI_gt (a b : Int) (h : ¬ a ≤ b) : gapI a b = a - b := if_neg h
theorem gapI_bd (a b : Int) (ha : 0 ≤ a) (ha' : a ≤ 65535) (hb : 0 ≤ b) (hb' : b ≤ 65535) : 0 ≤ gapI a b ∧ gapI a b ≤ 65535 := by unfold gapI; split <;> omega
theorem ret_int {k : IntKind} {a b : Int} (h : a = b) : Ending.returned (.int k a) = .returned (.int k b) := by rw [h]
theorem run_max2 {P : Program} (w : World) (ts : Array TypeId) (t : TypeId) (k k' : IntKind) (x y : Int) : (Builtin.max_ ts t #[.int k x, .int k' y]).run P w = .ok (.int k (max x y)) w := by
  rw [run_max_int2]
  have : (if y > x then y else x) = max x y := by omega
  rw [this]
theorem run_min2 {P : Program} (w : World) (ts : Array TypeId) (t : TypeId) (k k' : IntKind) (x y : Int) : (Builtin.min_ ts t #[.int k x, .int k' y]).run P w = .ok (.int k (min x y)) w := by
  rw [run_min_int2]
  have : (if y < x then y else x) = min x y := by omega
  rw [this]
end
section
set_option linter.unusedVariables false
set_option linter.unusedSimpArgs false
open Go.RowKit
def insideB (n : Int) : Bool := decide (0 ≤ n ∧ n ≤ 65535)
theorem insideB_iff (n : Int) : insideB n = true ↔ (0 ≤ n ∧ n ≤ 65535) := by simp only [insideB, decide_eq_true_eq]
set_option maxHeartbeats 400000 in
theorem ref_inside (n : Int) (w : World) :
    Calls Try.prog 44 #[.int .i64 n] w fun e w' => e = .returned (.bool (insideB n)) ∧ w = w' := by
  go_enter Try.func44, Try.ntmps44
  go_wp2
  all_goals
    go_ret
    refine ⟨ret_bool ?_, rfl⟩
    first | rfl | (rw [Bool.eq_iff_iff]; simp only [fitsB_iff, rightB_iff, hasB_iff, insB_iff, insideB_iff, decide_eq_true_eq, Bool.false_eq_true, false_iff, true_iff, iff_true, Bool.not_eq_true] at *; omega)
set_option maxHeartbeats 400000 in
theorem ref_fits (x y : Int) (w : World) :
    Calls Try.prog 32 #[.agg #[.int .i64 x, .int .i64 y]] w fun e w' => e = .returned (.bool (fitsB x y)) ∧ Below w.heap.size w w' := by
  go_enter Try.func32, Try.ntmps32
  go_wp2_with ((go_at_call 44; refine (ref_inside _ _).mono ?_; rintro e w1 ⟨rfl, rfl⟩))
  all_goals
    go_ret
    refine ⟨ret_bool ?_, by go_grown⟩
    first | rfl | (rw [Bool.eq_iff_iff]; simp only [fitsB_iff, rightB_iff, hasB_iff, insB_iff, insideB_iff, decide_eq_true_eq, Bool.false_eq_true, false_iff, true_iff, iff_true, Bool.not_eq_true] at *; omega)
set_option maxHeartbeats 1000000 in
theorem ref_right (a b c d : Int) (w : World) :
    Calls Try.prog 31 #[.agg #[.int .i64 a, .int .i64 b, .int .i64 c, .int .i64 d]] w fun e w' => e = .returned (.bool (rightB a b c d)) ∧ Below w.heap.size w w' := by
  go_enter Try.func31, Try.ntmps31
  go_wp2_with ((go_at_call 44; refine (ref_inside _ _).mono ?_; rintro e w1 ⟨rfl, rfl⟩))
  all_goals
    go_ret
    refine ⟨ret_bool ?_, by go_grown⟩
    first | rfl | (rw [Bool.eq_iff_iff]; simp only [fitsB_iff, rightB_iff, hasB_iff, insB_iff, insideB_iff, decide_eq_true_eq, Bool.false_eq_true, false_iff, true_iff, iff_true, Bool.not_eq_true] at *; omega)
end
end Go.Proofs.Ytmapcdmegkfheaa
