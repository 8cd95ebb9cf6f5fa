/- The document's points and rectangles by contract. -/
import Derived.Test.YtmgamlpjgghieaaGreatDoorZbGeomM
import Derived.StillTailTactics
namespace Go.Proofs.YtmgamlpjgghieaaGreatDoor
set_option linter.unusedVariables false
set_option linter.unusedSimpArgs false
open Go.RowKit
def insideB (n : Int) : Bool := decide (0 ≤ n ∧ n ≤ 65535)
theorem insideB_iff (n : Int) : insideB n = true ↔ (0 ≤ n ∧ n ≤ 65535) := by simp only [insideB, decide_eq_true_eq]
set_option maxHeartbeats 400000 in
theorem ref_inside (n : Int) (w : World) :
    Calls Tryz.prog 46 #[.int .i64 n] w fun e w' => e = .returned (.bool (insideB n)) ∧ w = w' := by
  go_enter Tryz.func46, Tryz.ntmps46
  go_wp2
  all_goals
    go_ret
    refine ⟨ret_bool ?_, rfl⟩
    first | rfl | (rw [Bool.eq_iff_iff]; simp only [fitsB_iff, rightB_iff, hasB_iff, insB_iff, insideB_iff, decide_eq_true_eq, Bool.false_eq_true, false_iff, true_iff, iff_true, Bool.not_eq_true] at *; omega)
set_option maxHeartbeats 400000 in
theorem ref_fits (x y : Int) (w : World) :
    Calls Tryz.prog 65 #[.agg #[.int .i64 x, .int .i64 y]] w fun e w' => e = .returned (.bool (fitsB x y)) ∧ Below w.heap.size w w' := by
  go_enter Tryz.func65, Tryz.ntmps65
  go_wp2_with ((go_at_call 46; refine (ref_inside _ _).mono ?_; rintro e w1 ⟨rfl, rfl⟩))
  all_goals
    go_ret
    refine ⟨ret_bool ?_, by go_grown⟩
    first | rfl | (rw [Bool.eq_iff_iff]; simp only [fitsB_iff, rightB_iff, hasB_iff, insB_iff, insideB_iff, decide_eq_true_eq, Bool.false_eq_true, false_iff, true_iff, iff_true, Bool.not_eq_true] at *; omega)
set_option maxHeartbeats 1000000 in
theorem ref_right (a b c d : Int) (w : World) :
    Calls Tryz.prog 22 #[.agg #[.int .i64 a, .int .i64 b, .int .i64 c, .int .i64 d]] w fun e w' => e = .returned (.bool (rightB a b c d)) ∧ Below w.heap.size w w' := by
  go_enter Tryz.func22, Tryz.ntmps22
  go_wp2_with ((go_at_call 46; refine (ref_inside _ _).mono ?_; rintro e w1 ⟨rfl, rfl⟩))
  all_goals
    go_ret
    refine ⟨ret_bool ?_, by go_grown⟩
    first | rfl | (rw [Bool.eq_iff_iff]; simp only [fitsB_iff, rightB_iff, hasB_iff, insB_iff, insideB_iff, decide_eq_true_eq, Bool.false_eq_true, false_iff, true_iff, iff_true, Bool.not_eq_true] at *; omega)
set_option maxHeartbeats 1000000 in
theorem ref_has (a b c d x y : Int) (w : World) :
    Calls Tryz.prog 52 #[.agg #[.int .i64 a, .int .i64 b, .int .i64 c, .int .i64 d], .agg #[.int .i64 x, .int .i64 y]] w fun e w' => e = .returned (.bool (hasB a b c d x y)) ∧ Below w.heap.size w w' := by
  go_enter Tryz.func52, Tryz.ntmps52
  go_wp2_with ((go_at_call 22; refine (ref_right _ _ _ _ _).mono ?_; rintro e w1 ⟨rfl, hb⟩; have hB : Below w.heap.size w w1 := below_trans (by go_grown) hb; have hz := hb.size; (try simp at hz); obtain ⟨hc, hf⟩ := bcell hb; have hz0 : w.heap.size < w1.heap.size := (by omega); have hz1 : w.heap.size + 1 < w1.heap.size := (by omega)))
  all_goals
    go_ret
    refine ⟨ret_bool ?_, by go_grown⟩
    first | rfl | (rw [Bool.eq_iff_iff]; simp only [fitsB_iff, rightB_iff, hasB_iff, insB_iff, insideB_iff, decide_eq_true_eq, Bool.false_eq_true, false_iff, true_iff, iff_true, Bool.not_eq_true] at *; omega)
set_option maxHeartbeats 1000000 in
theorem ref_in (a b c d a1 b1 c1 d1 : Int) (w : World) :
    Calls Tryz.prog 26 #[.agg #[.int .i64 a, .int .i64 b, .int .i64 c, .int .i64 d], .agg #[.int .i64 a1, .int .i64 b1, .int .i64 c1, .int .i64 d1]] w fun e w' => e = .returned (.bool (insB a b c d a1 b1 c1 d1)) ∧ Below w.heap.size w w' := by
  go_enter Tryz.func26, Tryz.ntmps26
  go_wp2_with ((go_at_call 22; refine (ref_right _ _ _ _ _).mono ?_; rintro e w1 ⟨rfl, hb⟩; have hB : Below w.heap.size w w1 := below_trans (by go_grown) hb; have hz := hb.size; (try simp at hz); obtain ⟨hc, hf⟩ := bcell hb; have hz0 : w.heap.size < w1.heap.size := (by omega); have hz1 : w.heap.size + 1 < w1.heap.size := (by omega)))
  all_goals
    go_ret
    refine ⟨ret_bool ?_, by go_grown⟩
    first | rfl | (rw [Bool.eq_iff_iff]; simp only [fitsB_iff, rightB_iff, hasB_iff, insB_iff, insideB_iff, decide_eq_true_eq, Bool.false_eq_true, false_iff, true_iff, iff_true, Bool.not_eq_true] at *; omega)
set_option maxHeartbeats 400000 in
theorem ref_more (a b : Int) (w : World) : Calls Tryz.prog 47 #[.int .i64 a, .int .i64 b] w fun e w' => e = .returned (.int .i64 (max a b)) ∧ w' = w := by
  have h := Lib.hid (show (max a b = a ∨ max a b = b) ∧ a ≤ max a b ∧ b ≤ max a b by omega)
  go_enter Tryz.func47, Tryz.ntmps47
  go_wp2
  all_goals
    go_ret
    exact ⟨ret_int (by have h9 := h.out; omega), rfl⟩
set_option maxHeartbeats 400000 in
theorem ref_less (a b : Int) (w : World) : Calls Tryz.prog 48 #[.int .i64 a, .int .i64 b] w fun e w' => e = .returned (.int .i64 (min a b)) ∧ w' = w := by
  have h := Lib.hid (show (min a b = a ∨ min a b = b) ∧ min a b ≤ a ∧ min a b ≤ b by omega)
  go_enter Tryz.func48, Tryz.ntmps48
  go_wp2
  all_goals
    go_ret
    exact ⟨ret_int (by have h9 := h.out; omega), rfl⟩
set_option maxHeartbeats 1000000 in
theorem rmeet_yes (a b c d a1 b1 c1 d1 : Int) (h1 : rightB a b c d = true) (h2 : rightB a1 b1 c1 d1 = true) (h3 : rightB (max a a1) (max b b1) (min c c1) (min d d1) = true) (w : World) :
    Calls Tryz.prog 23 #[.agg #[.int .i64 a, .int .i64 b, .int .i64 c, .int .i64 d], .agg #[.int .i64 a1, .int .i64 b1, .int .i64 c1, .int .i64 d1]] w fun e w' => e = .returned (.tuple #[.agg #[.int .i64 (max a a1), .int .i64 (max b b1), .int .i64 (min c c1), .int .i64 (min d d1)], .bool true]) ∧ Below w.heap.size w w' := by
  go_enter Tryz.func23, Tryz.ntmps23
  go_wp2_with (fail)
  go_region_held3 (fun w' => (w'.cell? ⟨w.heap.size, 0, none⟩ = some (.int .i64 a)) ∧ (w'.cell? ⟨w.heap.size, 1, none⟩ = some (.int .i64 b)) ∧ (w'.cell? ⟨w.heap.size, 2, none⟩ = some (.int .i64 c)) ∧ (w'.cell? ⟨w.heap.size, 3, none⟩ = some (.int .i64 d)) ∧ (w'.cell? ⟨w.heap.size + 1, 0, none⟩ = some (.int .i64 a1)) ∧ (w'.cell? ⟨w.heap.size + 1, 1, none⟩ = some (.int .i64 b1)) ∧ (w'.cell? ⟨w.heap.size + 1, 2, none⟩ = some (.int .i64 c1)) ∧ (w'.cell? ⟨w.heap.size + 1, 3, none⟩ = some (.int .i64 d1))) (go_keep) (first | (go_at_call 47; refine (ref_more _ _ _).mono ?_; rintro e w9 ⟨rfl, rfl⟩) | (go_at_call 48; refine (ref_less _ _ _).mono ?_; rintro e w9 ⟨rfl, rfl⟩))
  all_goals
    go_wp2_with ((go_at_call 22; refine (ref_right _ _ _ _ _).mono ?_; rintro e w1 ⟨rfl, hb⟩; have hB : Below w.heap.size w w1 := below_trans (by go_grown) hb; have hz := hb.size; (try simp at hz); obtain ⟨hc, hf⟩ := bcell hb; have hz0 : w.heap.size < w1.heap.size := (by omega); have hz1 : w.heap.size + 1 < w1.heap.size := (by omega); have hz2 : w.heap.size + 2 < w1.heap.size := (by omega); have hz3 : w.heap.size + 3 < w1.heap.size := (by omega)))
    refine bodyPost_ret (v := .tuple #[.agg #[.int .i64 (max a a1), .int .i64 (max b b1), .int .i64 (min c c1), .int .i64 (min d d1)], .bool true]) ?_ rfl ⟨rfl, ?_⟩
    · simp [results, Tryz.results23, go_sem, *]
    · go_grown
end Go.Proofs.YtmgamlpjgghieaaGreatDoor
