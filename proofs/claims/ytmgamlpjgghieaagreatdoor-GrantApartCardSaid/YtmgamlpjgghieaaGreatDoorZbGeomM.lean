/- Texts: Geom, GeomHas, GeomFar, GeomMeet, GeomArea. -/
import Derived.Test.YtmgamlpjgghieaaGreatDoorRows
import Derived.Test.YtmgamlpjgghieaaGreatDoorZbWords
import Derived.WalkKit
import Derived.WalkSpells
import Derived.WalkLawsBesides
import Derived.BigQuiet
import Derived.Deep.QuietTactic
import Derived.Lib.Hide
import Derived.Handy
import Derived.Deep.RegionHeld3
import Derived.Deep.RegionWith
namespace Go.Proofs.YtmgamlpjgghieaaGreatDoor
section
set_option linter.unusedVariables false
set_option linter.unusedSimpArgs false
open Go.RowKit
theorem ret_bool {a b : Bool} (h : a = b) : Ending.returned (.bool a) = .returned (.bool b) := by rw [h]
def fitsB (x y : Int) : Bool := decide (0 ≤ x ∧ x ≤ 65535 ∧ 0 ≤ y ∧ y ≤ 65535)
def rightB (a b c d : Int) : Bool := decide (0 ≤ a ∧ a ≤ c ∧ c ≤ 65535 ∧ 0 ≤ b ∧ b ≤ d ∧ d ≤ 65535)
def hasB (a b c d x y : Int) : Bool := decide ((0 ≤ a ∧ a ≤ c ∧ c ≤ 65535 ∧ 0 ≤ b ∧ b ≤ d ∧ d ≤ 65535) ∧ a ≤ x ∧ x ≤ c ∧ b ≤ y ∧ y ≤ d)
def insB (a b c d e f g h : Int) : Bool := decide ((0 ≤ a ∧ a ≤ c ∧ c ≤ 65535 ∧ 0 ≤ b ∧ b ≤ d ∧ d ≤ 65535) ∧ (0 ≤ e ∧ e ≤ g ∧ g ≤ 65535 ∧ 0 ≤ f ∧ f ≤ h ∧ h ≤ 65535) ∧ e ≤ a ∧ c ≤ g ∧ f ≤ b ∧ d ≤ h)
theorem fitsB_iff (x y : Int) : fitsB x y = true ↔ (0 ≤ x ∧ x ≤ 65535 ∧ 0 ≤ y ∧ y ≤ 65535) := by simp only [fitsB, decide_eq_true_eq]
theorem rightB_iff (a b c d : Int) : rightB a b c d = true ↔ (0 ≤ a ∧ a ≤ c ∧ c ≤ 65535 ∧ 0 ≤ b ∧ b ≤ d ∧ d ≤ 65535) := by simp only [rightB, decide_eq_true_eq]
theorem hasB_iff (a b c d x y : Int) : hasB a b c d x y = true ↔ ((0 ≤ a ∧ a ≤ c ∧ c ≤ 65535 ∧ 0 ≤ b ∧ b ≤ d ∧ d ≤ 65535) ∧ a ≤ x ∧ x ≤ c ∧ b ≤ y ∧ y ≤ d) := by simp only [hasB, decide_eq_true_eq]
theorem insB_iff (a b c d e f g h : Int) : insB a b c d e f g h = true ↔ ((0 ≤ a ∧ a ≤ c ∧ c ≤ 65535 ∧ 0 ≤ b ∧ b ≤ d ∧ d ≤ 65535) ∧ (0 ≤ e ∧ e ≤ g ∧ g ≤ 65535 ∧ 0 ≤ f ∧ f ≤ h ∧ h ≤ 65535) ∧ e ≤ a ∧ c ≤ g ∧ f ≤ b ∧ d ≤ h) := by simp only [insB, decide_eq_true_eq]
set_option maxHeartbeats 400000 in
theorem fits_spot (x y : Int) (w : World) :
    Calls Tryz.prog 67 #[.agg #[.int .i64 x, .int .i64 y]] w fun e w' => e = .returned (.bool (fitsB x y)) ∧ w.alloc (.cells #[.int .i64 x, .int .i64 y] 102) = w' := by
  go_enter Tryz.func67, Tryz.ntmps67
  go_wp2
  all_goals
    go_ret
    refine ⟨ret_bool ?_, rfl⟩
    first | rfl | (rw [Bool.eq_iff_iff]; simp only [fitsB_iff, rightB_iff, hasB_iff, insB_iff, decide_eq_true_eq, Bool.false_eq_true, false_iff, true_iff, iff_true, Bool.not_eq_true] at *; omega)
set_option maxHeartbeats 400000 in
theorem fits_any (x y : Int) (w : World) :
    Calls Tryz.prog 92 #[.agg #[.int .i64 x, .int .i64 y]] w fun e w' => e = .returned (.bool (fitsB x y)) ∧ Below w.heap.size w w' := by
  go_enter Tryz.func92, Tryz.ntmps92
  go_wp2_with ((go_at_call 67; refine (fits_spot _ _ _).mono ?_; rintro e w1 ⟨rfl, rfl⟩))
  all_goals
    go_ret
    refine ⟨ret_bool ?_, by go_grown⟩
    first | rfl | (rw [Bool.eq_iff_iff]; simp only [fitsB_iff, rightB_iff, hasB_iff, insB_iff, decide_eq_true_eq, Bool.false_eq_true, false_iff, true_iff, iff_true, Bool.not_eq_true] at *; omega)
set_option maxHeartbeats 400000 in
theorem right_any (a b c d : Int) (w : World) :
    Calls Tryz.prog 49 #[.agg #[.int .i64 a, .int .i64 b, .int .i64 c, .int .i64 d]] w fun e w' => e = .returned (.bool (rightB a b c d)) ∧ Below w.heap.size w w' := by
  go_enter Tryz.func49, Tryz.ntmps49
  go_wp2_with (first | (go_at_call 67; refine (fits_spot _ _ _).mono ?_; rintro e w1 ⟨rfl, rfl⟩) | go_in)
  all_goals
    go_ret
    refine ⟨ret_bool ?_, by go_grown⟩
    first | rfl | (rw [Bool.eq_iff_iff]; simp only [fitsB_iff, rightB_iff, hasB_iff, insB_iff, decide_eq_true_eq, Bool.false_eq_true, false_iff, true_iff, iff_true, Bool.not_eq_true] at *; omega)
end
section
set_option linter.unusedVariables false
set_option linter.unusedSimpArgs false
open Go.RowKit
def inrB (a b c d x y : Int) : Bool := decide (a ≤ x ∧ x ≤ c ∧ b ≤ y ∧ y ≤ d)
theorem inrB_iff (a b c d x y : Int) : inrB a b c d x y = true ↔ (a ≤ x ∧ x ≤ c ∧ b ≤ y ∧ y ≤ d) := by simp only [inrB, decide_eq_true_eq]
set_option maxHeartbeats 400000 in
theorem has_box (a b c d x y : Int) (w : World) :
    Calls Tryz.prog 93 #[.agg #[.int .i64 a, .int .i64 b, .int .i64 c, .int .i64 d], .agg #[.int .i64 x, .int .i64 y]] w fun e w' => e = .returned (.bool (inrB a b c d x y)) ∧ (w.alloc (.cells #[.int .i64 a, .int .i64 b, .int .i64 c, .int .i64 d] 99)).alloc (.cells #[.int .i64 x, .int .i64 y] 102) = w' := by
  go_enter Tryz.func93, Tryz.ntmps93
  go_wp2
  all_goals
    go_ret
    refine ⟨ret_bool ?_, rfl⟩
    first | rfl | (rw [Bool.eq_iff_iff]; simp only [fitsB_iff, rightB_iff, hasB_iff, insB_iff, inrB_iff, decide_eq_true_eq, Bool.false_eq_true, false_iff, true_iff, iff_true, Bool.not_eq_true] at *; omega)
set_option maxHeartbeats 1000000 in
theorem has_any (a b c d x y : Int) (w : World) :
    Calls Tryz.prog 78 #[.agg #[.int .i64 a, .int .i64 b, .int .i64 c, .int .i64 d], .agg #[.int .i64 x, .int .i64 y]] w fun e w' => e = .returned (.bool (hasB a b c d x y)) ∧ Below w.heap.size w w' := by
  go_enter Tryz.func78, Tryz.ntmps78
  go_wp2_with (first | (go_at_call 49; refine (right_any _ _ _ _ _).mono ?_; rintro e w1 ⟨rfl, hb⟩; have hB : Below w.heap.size w w1 := below_trans (by go_grown) hb; have hz := hb.size; (try simp at hz); obtain ⟨hc, hf⟩ := bcell hb; have hz0 : w.heap.size < w1.heap.size := (by omega); have hz1 : w.heap.size + 1 < w1.heap.size := (by omega)) | (go_at_call 92; refine (fits_any _ _ _).mono ?_; rintro e w1 ⟨rfl, hb⟩; have hB : Below w.heap.size w w1 := below_trans (by go_grown) hb; have hz := hb.size; (try simp at hz); obtain ⟨hc, hf⟩ := bcell hb; have hz0 : w.heap.size < w1.heap.size := (by omega); have hz1 : w.heap.size + 1 < w1.heap.size := (by omega)) | (go_at_call 93; refine (has_box _ _ _ _ _ _ _).mono ?_; rintro e w1 ⟨rfl, rfl⟩))
  all_goals
    go_ret
    refine ⟨ret_bool ?_, by go_grown⟩
    first | rfl | (rw [Bool.eq_iff_iff]; simp only [fitsB_iff, rightB_iff, hasB_iff, insB_iff, inrB_iff, decide_eq_true_eq, Bool.false_eq_true, false_iff, true_iff, iff_true, Bool.not_eq_true] at *; omega)
end
section
set_option linter.unusedVariables false
set_option linter.unusedSimpArgs false
open Go.RowKit
def gapI (a b : Int) : Int := if a ≤ b then b - a else a - b
theorem gapI_le (a b : Int) (h : a ≤ b) : gapI a b = b - a := if_pos h
theorem gapI_gt (a b : Int) (h : ¬ a ≤ b) : gapI a b = a - b := if_neg h
theorem gapI_bd (a b : Int) (ha : 0 ≤ a) (ha' : a ≤ 65535) (hb : 0 ≤ b) (hb' : b ≤ 65535) : 0 ≤ gapI a b ∧ gapI a b ≤ 65535 := by unfold gapI; split <;> omega
theorem ret_int {k : IntKind} {a b : Int} (h : a = b) : Ending.returned (.int k a) = .returned (.int k b) := by rw [h]
set_option maxHeartbeats 400000 in
theorem gap_any (a b : Int) (ha : 0 ≤ a) (ha' : a ≤ 65535) (hb : 0 ≤ b) (hb' : b ≤ 65535) (w : World) :
    Calls Tryz.prog 68 #[.int .i64 a, .int .i64 b] w fun e w' => e = .returned (.int .u64 (gapI a b)) ∧ w' = w := by
  by_cases h : a ≤ b
  · have HG := Lib.hid (gapI_le a b h)
    go_enter Tryz.func68, Tryz.ntmps68
    go_wp2
    all_goals
      go_ret
      exact ⟨ret_int (by have h9 := HG.out; omega), rfl⟩
  · have HG := Lib.hid (gapI_gt a b h)
    go_enter Tryz.func68, Tryz.ntmps68
    go_wp2
    all_goals
      go_ret
      exact ⟨ret_int (by have h9 := HG.out; omega), rfl⟩
theorem run_max2 {P : Program} (w : World) (ts : Array TypeId) (t : TypeId) (k k' : IntKind) (x y : Int) : (Builtin.max_ ts t #[.int k x, .int k' y]).run P w = .ok (.int k (max x y)) w := by
  rw [run_max_int2]
  have : (if y > x then y else x) = max x y := by omega
  rw [this]
theorem run_min2 {P : Program} (w : World) (ts : Array TypeId) (t : TypeId) (k k' : IntKind) (x y : Int) : (Builtin.min_ ts t #[.int k x, .int k' y]).run P w = .ok (.int k (min x y)) w := by
  rw [run_min_int2]
  have : (if y < x then y else x) = min x y := by omega
  rw [this]
end
section
set_option linter.unusedVariables false
set_option linter.unusedSimpArgs false
open Go.RowKit
attribute [local go_sem high] run_max2 run_min2
set_option maxHeartbeats 1000000 in
theorem meet_yes (a b c d a1 b1 c1 d1 : Int) (h1 : rightB a b c d = true) (h2 : rightB a1 b1 c1 d1 = true) (h3 : rightB (max a a1) (max b b1) (min c c1) (min d d1) = true) (w : World) :
    Calls Tryz.prog 51 #[.agg #[.int .i64 a, .int .i64 b, .int .i64 c, .int .i64 d], .agg #[.int .i64 a1, .int .i64 b1, .int .i64 c1, .int .i64 d1]] w fun e w' => e = .returned (.tuple #[.agg #[.int .i64 (max a a1), .int .i64 (max b b1), .int .i64 (min c c1), .int .i64 (min d d1)], .bool true]) ∧ Below w.heap.size w w' := by
  go_enter Tryz.func51, Tryz.ntmps51
  go_wp2_with ((go_at_call 49; refine (right_any _ _ _ _ _).mono ?_; rintro e w1 ⟨rfl, hb⟩; have hB : Below w.heap.size w w1 := below_trans (by go_grown) hb; have hz := hb.size; (try simp at hz); obtain ⟨hc, hf⟩ := bcell hb; have hz0 : w.heap.size < w1.heap.size := (by omega); have hz1 : w.heap.size + 1 < w1.heap.size := (by omega); have hz2 : w.heap.size + 2 < w1.heap.size := (by omega)))
  refine bodyPost_ret (v := .tuple #[.agg #[.int .i64 (max a a1), .int .i64 (max b b1), .int .i64 (min c c1), .int .i64 (min d d1)], .bool true]) ?_ rfl ⟨rfl, ?_⟩
  · simp [results, Tryz.results51, go_sem, *]
  · go_grown
set_option maxHeartbeats 1000000 in
theorem meet_no1 (a b c d a1 b1 c1 d1 : Int) (h1 : rightB a b c d = false) (w : World) :
    Calls Tryz.prog 51 #[.agg #[.int .i64 a, .int .i64 b, .int .i64 c, .int .i64 d], .agg #[.int .i64 a1, .int .i64 b1, .int .i64 c1, .int .i64 d1]] w fun e w' => e = .returned (.tuple #[.agg #[.int .i64 0, .int .i64 0, .int .i64 0, .int .i64 0], .bool false]) ∧ Below w.heap.size w w' := by
  go_enter Tryz.func51, Tryz.ntmps51
  go_wp2_with ((go_at_call 49; refine (right_any _ _ _ _ _).mono ?_; rintro e w1 ⟨rfl, hb⟩; have hB : Below w.heap.size w w1 := below_trans (by go_grown) hb; have hz := hb.size; (try simp at hz); obtain ⟨hc, hf⟩ := bcell hb; have hz0 : w.heap.size < w1.heap.size := (by omega); have hz1 : w.heap.size + 1 < w1.heap.size := (by omega); have hz2 : w.heap.size + 2 < w1.heap.size := (by omega)))
  refine bodyPost_ret (v := .tuple #[.agg #[.int .i64 0, .int .i64 0, .int .i64 0, .int .i64 0], .bool false]) ?_ rfl ⟨rfl, ?_⟩
  · simp [results, Tryz.results51, go_sem, *]
  · go_grown
set_option maxHeartbeats 1000000 in
theorem meet_no2 (a b c d a1 b1 c1 d1 : Int) (h1 : rightB a b c d = true) (h2 : rightB a1 b1 c1 d1 = false) (w : World) :
    Calls Tryz.prog 51 #[.agg #[.int .i64 a, .int .i64 b, .int .i64 c, .int .i64 d], .agg #[.int .i64 a1, .int .i64 b1, .int .i64 c1, .int .i64 d1]] w fun e w' => e = .returned (.tuple #[.agg #[.int .i64 0, .int .i64 0, .int .i64 0, .int .i64 0], .bool false]) ∧ Below w.heap.size w w' := by
  go_enter Tryz.func51, Tryz.ntmps51
  go_wp2_with ((go_at_call 49; refine (right_any _ _ _ _ _).mono ?_; rintro e w1 ⟨rfl, hb⟩; have hB : Below w.heap.size w w1 := below_trans (by go_grown) hb; have hz := hb.size; (try simp at hz); obtain ⟨hc, hf⟩ := bcell hb; have hz0 : w.heap.size < w1.heap.size := (by omega); have hz1 : w.heap.size + 1 < w1.heap.size := (by omega); have hz2 : w.heap.size + 2 < w1.heap.size := (by omega)))
  refine bodyPost_ret (v := .tuple #[.agg #[.int .i64 0, .int .i64 0, .int .i64 0, .int .i64 0], .bool false]) ?_ rfl ⟨rfl, ?_⟩
  · simp [results, Tryz.results51, go_sem, *]
  · go_grown
set_option maxHeartbeats 1000000 in
theorem meet_no3 (a b c d a1 b1 c1 d1 : Int) (h1 : rightB a b c d = true) (h2 : rightB a1 b1 c1 d1 = true) (h3 : rightB (max a a1) (max b b1) (min c c1) (min d d1) = false) (w : World) :
    Calls Tryz.prog 51 #[.agg #[.int .i64 a, .int .i64 b, .int .i64 c, .int .i64 d], .agg #[.int .i64 a1, .int .i64 b1, .int .i64 c1, .int .i64 d1]] w fun e w' => e = .returned (.tuple #[.agg #[.int .i64 0, .int .i64 0, .int .i64 0, .int .i64 0], .bool false]) ∧ Below w.heap.size w w' := by
  go_enter Tryz.func51, Tryz.ntmps51
  go_wp2_with ((go_at_call 49; refine (right_any _ _ _ _ _).mono ?_; rintro e w1 ⟨rfl, hb⟩; have hB : Below w.heap.size w w1 := below_trans (by go_grown) hb; have hz := hb.size; (try simp at hz); obtain ⟨hc, hf⟩ := bcell hb; have hz0 : w.heap.size < w1.heap.size := (by omega); have hz1 : w.heap.size + 1 < w1.heap.size := (by omega); have hz2 : w.heap.size + 2 < w1.heap.size := (by omega)))
  refine bodyPost_ret (v := .tuple #[.agg #[.int .i64 0, .int .i64 0, .int .i64 0, .int .i64 0], .bool false]) ?_ rfl ⟨rfl, ?_⟩
  · simp [results, Tryz.results51, go_sem, *]
  · go_grown
end
section
set_option linter.unusedVariables false
set_option linter.unusedSimpArgs false
open Go.RowKit
attribute [local go_sem high] run_max2 run_min2
theorem mul_bd (x y : Int) (hx : 0 ≤ x) (hx' : x ≤ 65536) (hy : 0 ≤ y) (hy' : y ≤ 65536) : 0 ≤ x * y ∧ x * y ≤ 4294967296 := by
  have h1 : 0 ≤ x * y := Int.mul_nonneg hx hy
  have h2 : x * y ≤ 65536 * 65536 := Int.mul_le_mul hx' hy' hy (by omega)
  omega
set_option maxHeartbeats 1000000 in
theorem area_yes (a b c d : Int) (h1 : rightB a b c d = true) (w : World) : Calls Tryz.prog 50 #[.agg #[.int .i64 a, .int .i64 b, .int .i64 c, .int .i64 d]] w fun e w' => e = .returned (.int .u64 ((c - a + 1) * (d - b + 1))) ∧ Below w.heap.size w w' := by
  have hr := (rightB_iff a b c d).1 h1
  obtain ⟨r1, r2, r3, r4, r5, r6⟩ := hr
  have G1 : gapI a c = c - a := gapI_le a c r2
  have G2 : gapI b d = d - b := gapI_le b d r5
  have HG1 := Lib.hid G1
  have HG2 := Lib.hid G2
  obtain ⟨m1, m2⟩ := mul_bd (gapI a c + 1) (gapI b d + 1) (by omega) (by omega) (by omega) (by omega)
  have g1 : 0 ≤ gapI a c := by omega
  have g2 : gapI a c ≤ 65535 := by omega
  have g3 : 0 ≤ gapI b d := by omega
  have g4 : gapI b d ≤ 65535 := by omega
  have q1 : c ≤ 65535 := r3
  have q2 : 0 ≤ c := by omega
  have q3 : a ≤ 65535 := by omega
  have q4 : 0 ≤ d := by omega
  have q5 : b ≤ 65535 := by omega
  clear G1 G2
  go_enter Tryz.func50, Tryz.ntmps50
  go_wp2_with ((go_at_call 49; refine (right_any _ _ _ _ _).mono ?_; rintro e w1 ⟨rfl, hb⟩; have hB : Below w.heap.size w w1 := below_trans (by go_grown) hb; have hz := hb.size; (try simp at hz); obtain ⟨hc, hf⟩ := bcell hb; have hz0 : w.heap.size < w1.heap.size := (by omega)))
  have e1 : IntKind.u64.wrap (gapI a c + 1) = gapI a c + 1 := IntWalk.u64_in _ (by omega)
  have e2 : IntKind.u64.wrap (gapI b d + 1) = gapI b d + 1 := IntWalk.u64_in _ (by omega)
  have e3 : IntKind.u64.wrap ((gapI a c + 1) * (gapI b d + 1)) = (gapI a c + 1) * (gapI b d + 1) := IntWalk.u64_in _ (by omega)
  go_quiet ((go_at_call 68; exact Calls.quiet_of_same (gap_any _ _ (by assumption) (by assumption) (by assumption) (by assumption) _)))
  go_wp2
  go_ret
  refine ⟨ret_int ?_, below_drawn ‹_› _⟩
  rw [HG1.out, HG2.out]
set_option maxHeartbeats 1000000 in
theorem area_no (a b c d : Int) (h1 : rightB a b c d = false) (w : World) :
    Calls Tryz.prog 50 #[.agg #[.int .i64 a, .int .i64 b, .int .i64 c, .int .i64 d]] w fun e w' => e = .returned (.int .u64 0) ∧ Below w.heap.size w w' := by
  go_enter Tryz.func50, Tryz.ntmps50
  go_wp2_with ((go_at_call 49; refine (right_any _ _ _ _ _).mono ?_; rintro e w1 ⟨rfl, hb⟩; have hB : Below w.heap.size w w1 := below_trans (by go_grown) hb; have hz := hb.size; (try simp at hz); obtain ⟨hc, hf⟩ := bcell hb; have hz0 : w.heap.size < w1.heap.size := (by omega)))
  go_ret
  exact ⟨rfl, by go_grown⟩
end
end Go.Proofs.YtmgamlpjgghieaaGreatDoor
