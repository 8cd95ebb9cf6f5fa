/- What must come of fixed calls (law.go's known); Grid; Corners. -/
import Derived.Test.YtichfgpmcamhmaaGeomDist
namespace Go.Proofs.Ytichfgpmcamhmaa
set_option linter.unusedVariables false
set_option linter.unusedSimpArgs false
open Go.RowKit
set_option maxHeartbeats 400000 in
theorem rect_any (a b c d : Int) (w : World) : Calls Try.prog 20 #[.int .i64 a, .int .i64 b, .int .i64 c, .int .i64 d] w fun e w' => e = .returned (.agg #[.int .i64 a, .int .i64 b, .int .i64 c, .int .i64 d]) ∧ Below w.heap.size w w' := by
  go_enter Try.func20, Try.ntmps20
  go_wp2
  refine bodyPost_ret (v := .agg #[.int .i64 a, .int .i64 b, .int .i64 c, .int .i64 d]) ?_ rfl ⟨rfl, ?_⟩
  · simp [results, Try.results20, go_sem, *]
  · go_grown

set_option maxHeartbeats 400000 in
theorem grid_any (w : World) : Calls Try.prog 19 #[] w fun e w' => e = .returned (.agg #[.int .i64 0, .int .i64 0, .int .i64 65535, .int .i64 65535]) ∧ Below w.heap.size w w' := by
  go_enter Try.func19, Try.ntmps19
  go_wp2
  refine bodyPost_ret (v := .agg #[.int .i64 0, .int .i64 0, .int .i64 65535, .int .i64 65535]) ?_ rfl ⟨rfl, ?_⟩
  · simp [results, Try.results19, go_sem, *]
  · go_grown

theorem k_meet (w : World) : Calls Try.prog 22 #[.agg #[.int .i64 0, .int .i64 0, .int .i64 3, .int .i64 1], .agg #[.int .i64 2, .int .i64 1, .int .i64 9, .int .i64 9]] w fun e w' => e = .returned (.tuple #[.agg #[.int .i64 2, .int .i64 1, .int .i64 3, .int .i64 1], .bool true]) ∧ Below w.heap.size w w' :=
  meet_yes 0 0 3 1 2 1 9 9 (by decide +kernel) (by decide +kernel) (by decide +kernel) w
theorem k_hull (w : World) : Calls Try.prog 25 #[.agg #[.int .i64 0, .int .i64 0, .int .i64 3, .int .i64 1], .agg #[.int .i64 2, .int .i64 1, .int .i64 9, .int .i64 9]] w fun e w' => e = .returned (.agg #[.int .i64 0, .int .i64 0, .int .i64 9, .int .i64 9]) ∧ Below w.heap.size w w' :=
  hull_yes 0 0 3 1 2 1 9 9 (by decide +kernel) (by decide +kernel) w
theorem k_area (w : World) : Calls Try.prog 27 #[.agg #[.int .i64 0, .int .i64 0, .int .i64 3, .int .i64 1]] w fun e w' => e = .returned (.int .u64 8) ∧ Below w.heap.size w w' :=
  area_yes 0 0 3 1 (by decide +kernel) w
theorem k_dist (w : World) : Calls Try.prog 31 #[.agg #[.int .i64 0, .int .i64 0, .int .i64 3, .int .i64 1], .agg #[.int .i64 6, .int .i64 5]] w fun e w' => e = .returned (.int .u64 25) ∧ Below w.heap.size w w' :=
  dist_yes 0 0 3 1 6 5 (by decide +kernel) (by decide +kernel) w
set_option maxHeartbeats 2000000 in
theorem known_any (w : World) : Calls Try.prog 21 #[] w fun e w' => e = .returned (.bool true) ∧ Below w.heap.size w w' := by
  go_enter Try.func21, Try.ntmps21
  go_wp2_with fail
  refine (rect_any 0 0 3 1 _).mono ?_
  rintro e w1 ⟨rfl, hb1⟩
  go_wp2_with fail
  refine (rect_any 2 1 9 9 _).mono ?_
  rintro e w2 ⟨rfl, hb2⟩
  have hB2 := below_trans hb1 hb2
  clear hb1 hb2
  go_wp2_with fail
  refine (k_meet _).mono ?_
  rintro e w3 ⟨rfl, hb3⟩
  have K0 := blk_two w2 25 25 #[.int .i64 0, .int .i64 0, .int .i64 3, .int .i64 1] #[.int .i64 2, .int .i64 1, .int .i64 9, .int .i64 9]
  have K1 := K0.1.below hb3 K0.1.lt
  have K2 := K0.2.below hb3 K0.2.lt
  have hB3 : Below w.heap.size w w3 := below_trans (by have := hB2.size; go_grown) hb3
  clear hb3 hB2 K0
  have hs3 := hB3.size
  have x0 := K1.cell 0
  have x1 := K1.cell 1
  have x2 := K1.cell 2
  have x3 := K1.cell 3
  have y0 := K2.cell 0
  have y1 := K2.cell 1
  have y2 := K2.cell 2
  have y3 := K2.cell 3
  simp only [List.getElem?_toArray, List.getElem?_cons_zero, List.getElem?_cons_succ] at x0 x1 x2 x3 y0 y1 y2 y3
  clear K1 K2
  go_wp2_with fail
  go_region_held3 (fun w' => (w'.cell? ⟨w2.heap.size, 0, none⟩ = some (.int .i64 0)) ∧ (w'.cell? ⟨w2.heap.size, 1, none⟩ = some (.int .i64 0)) ∧ (w'.cell? ⟨w2.heap.size, 2, none⟩ = some (.int .i64 3)) ∧ (w'.cell? ⟨w2.heap.size, 3, none⟩ = some (.int .i64 1)) ∧ (w'.cell? ⟨w2.heap.size + 1, 0, none⟩ = some (.int .i64 2)) ∧ (w'.cell? ⟨w2.heap.size + 1, 1, none⟩ = some (.int .i64 1)) ∧ (w'.cell? ⟨w2.heap.size + 1, 2, none⟩ = some (.int .i64 9)) ∧ (w'.cell? ⟨w2.heap.size + 1, 3, none⟩ = some (.int .i64 9)) ∧ (w'.cell? ⟨w3.heap.size, 0, none⟩ = some (.int .i64 2)) ∧ (w'.cell? ⟨w3.heap.size, 1, none⟩ = some (.int .i64 1)) ∧ (w'.cell? ⟨w3.heap.size, 2, none⟩ = some (.int .i64 3)) ∧ (w'.cell? ⟨w3.heap.size, 3, none⟩ = some (.int .i64 1)) ∧ (Below w.heap.size w w')) (first | (go_split_ands; refine ⟨?_, ?_, ?_, ?_, ?_, ?_, ?_, ?_, ?_, ?_, ?_, ?_, ?_⟩ <;> first | (exact cell_later (by assumption) (by assumption)) | (exact below_trans (by assumption) (by assumption)) | (go_grown; done) | go_keep)) (first
    | (go_at_call 20; refine (rect_any _ _ _ _ _).mono ?_; rintro e w9 ⟨rfl, hb9⟩)
    | (go_at_call 25; refine (k_hull _).mono ?_; rintro e w9 ⟨rfl, hb9⟩)
    | (go_at_call 27; refine (k_area _).mono ?_; rintro e w9 ⟨rfl, hb9⟩)
    | (go_at_call 31; refine (k_dist _).mono ?_; rintro e w9 ⟨rfl, hb9⟩))
  all_goals
    go_wp2
    go_ret
    refine ⟨rfl, ?_⟩
    (repeat' (first | (with_reducible assumption) | (go_grown; done) | (refine below_trans ?_ (by assumption))))
end Go.Proofs.Ytichfgpmcamhmaa
