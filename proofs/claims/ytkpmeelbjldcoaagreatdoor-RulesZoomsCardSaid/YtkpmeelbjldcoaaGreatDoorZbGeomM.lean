/- Texts: Geom, GeomHas, GeomFar, GeomMeet. -/
import Derived.Test.YtkpmeelbjldcoaaGreatDoorRows
import Derived.Test.YtkpmeelbjldcoaaGreatDoorZbWords
import Derived.WalkKit
import Derived.WalkSpells
import Derived.WalkLawsBesides
import Derived.BigQuiet
import Derived.Deep.QuietTactic
import Derived.Lib.Hide
import Derived.Handy
import Derived.Deep.RegionHeld3
import Derived.Deep.RegionWith
namespace Go.Proofs.YtkpmeelbjldcoaaGreatDoor
section
set_option linter.unusedVariables false
set_option linter.unusedSimpArgs false
open Go.RowKit
theorem ret_bool {a b : Bool} (h : a = b) : Ending.returned (.bool a) = .returned (.bool b) := by rw [h]
def fitsB (x y : Int) : Bool := decide (0 ≤ x ∧ x ≤ 65535 ∧ 0 ≤ y ∧ y ≤ 65535)
def rightB (a b c d : Int) : Bool := decide (0 ≤ a ∧ a ≤ c ∧ c ≤ 65535 ∧ 0 ≤ b ∧ b ≤ d ∧ d ≤ 65535)
def hasB (a b c d x y : Int) : Bool := decide ((0 ≤ a ∧ a ≤ c ∧ c ≤ 65535 ∧ 0 ≤ b ∧ b ≤ d ∧ d ≤ 65535) ∧ a ≤ x ∧ x ≤ c ∧ b ≤ y ∧ y ≤ d)
def insB (a b c d e f g h : Int) : Bool := decide ((0 ≤ a ∧ a ≤ c ∧ c ≤ 65535 ∧ 0 ≤ b ∧ b ≤ d ∧ d ≤ 65535) ∧ (0 ≤ e ∧ e ≤ g ∧ g ≤ 65535 ∧ 0 ≤ f ∧ f ≤ h ∧ h ≤ 65535) ∧ e ≤ a ∧ c ≤ g ∧ f ≤ b ∧ d ≤ h)
theorem fitsB_iff (x y : Int) : fitsB x y = true ↔ (0 ≤ x ∧ x ≤ 65535 ∧ 0 ≤ y ∧ y ≤ 65535) := by simp only [fitsB, decide_eq_true_eq]
theorem rightB_iff (a b c d : Int) : rightB a b c d = true ↔ (0 ≤ a ∧ a ≤ c ∧ c ≤ 65535 ∧ 0 ≤ b ∧ b ≤ d ∧ d ≤ 65535) := by simp only [rightB, decide_eq_true_eq]
theorem hasB_iff (a b c d x y : Int) : hasB a b c d x y = true ↔ ((0 ≤ a ∧ a ≤ c ∧ c ≤ 65535 ∧ 0 ≤ b ∧ b ≤ d ∧ d ≤ 65535) ∧ a ≤ x ∧ x ≤ c ∧ b ≤ y ∧ y ≤ d) := by simp only [hasB, decide_eq_true_eq]
theorem insB_iff (a b c d e f g h : Int) : insB a b c d e f g h = true ↔ ((0 ≤ a ∧ a ≤ c ∧ c ≤ 65535 ∧ 0 ≤ b ∧ b ≤ d ∧ d ≤ 65535) ∧ (0 ≤ e ∧ e ≤ g ∧ g ≤ 65535 ∧ 0 ≤ f ∧ f ≤ h ∧ h ≤ 65535) ∧ e ≤ a ∧ c ≤ g ∧ f ≤ b ∧ d ≤ h) := by simp only [insB, decide_eq_true_eq]
set_option maxHeartbeats 400000 in
theorem fits_spot (x y : Int) (w : World) :
    Calls Tryz.prog 142 #[.agg #[.int .i64 x, .int .i64 y]] w fun e w' => e = .returned (.bool (fitsB x y)) ∧ w.alloc (.cells #[.int .i64 x, .int .i64 y] 157) = w' := by
  go_enter Tryz.func142, Tryz.ntmps142
  go_wp2
  all_goals
    go_ret
    refine ⟨ret_bool ?_, rfl⟩
    first | rfl | (rw [Bool.eq_iff_iff]; simp only [fitsB_iff, rightB_iff, hasB_iff, insB_iff, decide_eq_true_eq, Bool.false_eq_true, false_iff, true_iff, iff_true, Bool.not_eq_true] at *; omega)
set_option maxHeartbeats 400000 in
theorem fits_any (x y : Int) (w : World) :
    Calls Tryz.prog 109 #[.agg #[.int .i64 x, .int .i64 y]] w fun e w' => e = .returned (.bool (fitsB x y)) ∧ Below w.heap.size w w' := by
  go_enter Tryz.func109, Tryz.ntmps109
  go_wp2_with ((go_at_call 142; refine (fits_spot _ _ _).mono ?_; rintro e w1 ⟨rfl, rfl⟩))
  all_goals
    go_ret
    refine ⟨ret_bool ?_, by go_grown⟩
    first | rfl | (rw [Bool.eq_iff_iff]; simp only [fitsB_iff, rightB_iff, hasB_iff, insB_iff, decide_eq_true_eq, Bool.false_eq_true, false_iff, true_iff, iff_true, Bool.not_eq_true] at *; omega)
set_option maxHeartbeats 400000 in
theorem right_any (a b c d : Int) (w : World) :
    Calls Tryz.prog 108 #[.agg #[.int .i64 a, .int .i64 b, .int .i64 c, .int .i64 d]] w fun e w' => e = .returned (.bool (rightB a b c d)) ∧ Below w.heap.size w w' := by
  go_enter Tryz.func108, Tryz.ntmps108
  go_wp2_with (first | (go_at_call 142; refine (fits_spot _ _ _).mono ?_; rintro e w1 ⟨rfl, rfl⟩) | go_in)
  all_goals
    go_ret
    refine ⟨ret_bool ?_, by go_grown⟩
    first | rfl | (rw [Bool.eq_iff_iff]; simp only [fitsB_iff, rightB_iff, hasB_iff, insB_iff, decide_eq_true_eq, Bool.false_eq_true, false_iff, true_iff, iff_true, Bool.not_eq_true] at *; omega)
end
section
set_option linter.unusedVariables false
set_option linter.unusedSimpArgs false
open Go.RowKit
def inrB (a b c d x y : Int) : Bool := decide (a ≤ x ∧ x ≤ c ∧ b ≤ y ∧ y ≤ d)
theorem inrB_iff (a b c d x y : Int) : inrB a b c d x y = true ↔ (a ≤ x ∧ x ≤ c ∧ b ≤ y ∧ y ≤ d) := by simp only [inrB, decide_eq_true_eq]
set_option maxHeartbeats 400000 in
theorem has_box (a b c d x y : Int) (w : World) :
    Calls Tryz.prog 110 #[.agg #[.int .i64 a, .int .i64 b, .int .i64 c, .int .i64 d], .agg #[.int .i64 x, .int .i64 y]] w fun e w' => e = .returned (.bool (inrB a b c d x y)) ∧ (w.alloc (.cells #[.int .i64 a, .int .i64 b, .int .i64 c, .int .i64 d] 155)).alloc (.cells #[.int .i64 x, .int .i64 y] 157) = w' := by
  go_enter Tryz.func110, Tryz.ntmps110
  go_wp2
  all_goals
    go_ret
    refine ⟨ret_bool ?_, rfl⟩
    first | rfl | (rw [Bool.eq_iff_iff]; simp only [fitsB_iff, rightB_iff, hasB_iff, insB_iff, inrB_iff, decide_eq_true_eq, Bool.false_eq_true, false_iff, true_iff, iff_true, Bool.not_eq_true] at *; omega)
set_option maxHeartbeats 1000000 in
theorem has_any (a b c d x y : Int) (w : World) :
    Calls Tryz.prog 79 #[.agg #[.int .i64 a, .int .i64 b, .int .i64 c, .int .i64 d], .agg #[.int .i64 x, .int .i64 y]] w fun e w' => e = .returned (.bool (hasB a b c d x y)) ∧ Below w.heap.size w w' := by
  go_enter Tryz.func79, Tryz.ntmps79
  go_wp2_with (first | (go_at_call 108; refine (right_any _ _ _ _ _).mono ?_; rintro e w1 ⟨rfl, hb⟩; have hB : Below w.heap.size w w1 := below_trans (by go_grown) hb; have hz := hb.size; (try simp at hz); obtain ⟨hc, hf⟩ := bcell hb; have hz0 : w.heap.size < w1.heap.size := (by omega); have hz1 : w.heap.size + 1 < w1.heap.size := (by omega)) | (go_at_call 109; refine (fits_any _ _ _).mono ?_; rintro e w1 ⟨rfl, hb⟩; have hB : Below w.heap.size w w1 := below_trans (by go_grown) hb; have hz := hb.size; (try simp at hz); obtain ⟨hc, hf⟩ := bcell hb; have hz0 : w.heap.size < w1.heap.size := (by omega); have hz1 : w.heap.size + 1 < w1.heap.size := (by omega)) | (go_at_call 110; refine (has_box _ _ _ _ _ _ _).mono ?_; rintro e w1 ⟨rfl, rfl⟩))
  all_goals
    go_ret
    refine ⟨ret_bool ?_, by go_grown⟩
    first | rfl | (rw [Bool.eq_iff_iff]; simp only [fitsB_iff, rightB_iff, hasB_iff, insB_iff, inrB_iff, decide_eq_true_eq, Bool.false_eq_true, false_iff, true_iff, iff_true, Bool.not_eq_true] at *; omega)
end
section
set_option linter.unusedVariables false
set_option linter.unusedSimpArgs false
open Go.RowKit
def gapI (a b : Int) : Int := if a ≤ b then b - a else a - b
theorem gapI_le (a b : Int) (h : a ≤ b) : gapI a b = b - a := if_pos h
theorem gapI_gt (a b : Int) (h : ¬ a ≤ b) : gapI a b = a - b := if_neg h
theorem gapI_bd (a b : Int) (ha : 0 ≤ a) (ha' : a ≤ 65535) (hb : 0 ≤ b) (hb' : b ≤ 65535) : 0 ≤ gapI a b ∧ gapI a b ≤ 65535 := by unfold gapI; split <;> omega
theorem ret_int {k : IntKind} {a b : Int} (h : a = b) : Ending.returned (.int k a) = .returned (.int k b) := by rw [h]
theorem run_max2 {P : Program} (w : World) (ts : Array TypeId) (t : TypeId) (k k' : IntKind) (x y : Int) : (Builtin.max_ ts t #[.int k x, .int k' y]).run P w = .ok (.int k (max x y)) w := by
  rw [run_max_int2]
  have : (if y > x then y else x) = max x y := by omega
  rw [this]
theorem run_min2 {P : Program} (w : World) (ts : Array TypeId) (t : TypeId) (k k' : IntKind) (x y : Int) : (Builtin.min_ ts t #[.int k x, .int k' y]).run P w = .ok (.int k (min x y)) w := by
  rw [run_min_int2]
  have : (if y < x then y else x) = min x y := by omega
  rw [this]
end
section
set_option linter.unusedVariables false
set_option linter.unusedSimpArgs false
open Go.RowKit
attribute [local go_sem high] run_max2 run_min2
end
end Go.Proofs.YtkpmeelbjldcoaaGreatDoor
