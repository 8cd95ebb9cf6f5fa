/- geom.Dist, Corners by contract. -/
import Derived.Test.YtichfgpmcamhmaaGeomNear
namespace Go.Proofs.Ytichfgpmcamhmaa
set_option linter.unusedVariables false
set_option linter.unusedSimpArgs false
open Go.RowKit
set_option maxHeartbeats 1000000 in
theorem dist_yes (a b c d x y : Int) (h1 : rightB a b c d = true) (h2 : fitsB x y = true) (w : World) : Calls Try.prog 31 #[.agg #[.int .i64 a, .int .i64 b, .int .i64 c, .int .i64 d], .agg #[.int .i64 x, .int .i64 y]] w fun e w' => e = .returned (.int .u64 (g3 x a c * g3 x a c + g3 y b d * g3 y b d)) ∧ Below w.heap.size w w' := by
  obtain ⟨r1, r2, r3, r4, r5, r6⟩ := (rightB_iff a b c d).1 h1
  obtain ⟨s1, s2, s3, s4⟩ := (fitsB_iff x y).1 h2
  have hn : fitsB (min (max x a) c) (min (max y b) d) = true := (fitsB_iff _ _).2 (by omega)
  have C1 := Lib.hid (fun w => near_yes a b c d x y h1 h2 w)
  have C2 : Hid (∀ w, Calls Try.prog 29 #[.agg #[.int .i64 (min (max x a) c), .int .i64 (min (max y b) d)], .agg #[.int .i64 x, .int .i64 y]] w fun e w' => e = .returned (.int .u64 (g3 x a c * g3 x a c + g3 y b d * g3 y b d)) ∧ Below w.heap.size w w') := fun w => by
    have := apart_yes _ _ x y hn h2 w
    rw [g3_near x a c r2, g3_near y b d r5] at this
    exact this
  go_enter Try.func31, Try.ntmps31
  go_wp2_with fail
  refine (right_any _ _ _ _ _).mono ?_
  rintro e w1 ⟨rfl, hb1⟩
  have K0 := blk_two w 25 23 #[.int .i64 a, .int .i64 b, .int .i64 c, .int .i64 d] #[.int .i64 x, .int .i64 y]
  have K1 := K0.1.below hb1 K0.1.lt
  have K2 := K0.2.below hb1 K0.2.lt
  clear K0
  have hB1 : Below w.heap.size w w1 := below_trans (by go_grown) hb1
  clear hb1
  have x0 := K1.cell 0
  have x1 := K1.cell 1
  have x2 := K1.cell 2
  have x3 := K1.cell 3
  have y0 := K2.cell 0
  have y1 := K2.cell 1
  simp only [List.getElem?_toArray, List.getElem?_cons_zero, List.getElem?_cons_succ] at x0 x1 x2 x3 y0 y1
  go_wp2_with fail
  refine (fits_any _ _ _).mono ?_
  rintro e w2 ⟨rfl, hb2⟩
  have L1 := K1.below hb2 K1.lt
  have L2 := K2.below hb2 K2.lt
  have hB2 := below_trans hB1 hb2
  clear hb2 K1 K2 hB1 x0 x1 x2 x3 y0 y1
  have x0 := L1.cell 0
  have x1 := L1.cell 1
  have x2 := L1.cell 2
  have x3 := L1.cell 3
  have y0 := L2.cell 0
  have y1 := L2.cell 1
  simp only [List.getElem?_toArray, List.getElem?_cons_zero, List.getElem?_cons_succ] at x0 x1 x2 x3 y0 y1
  go_wp2_with fail
  go_region_with (first | (go_at_call 33; refine (C1.out _).mono ?_; rintro e w3 ⟨rfl, hb3⟩; have M1 := Blk.below (by exact L1) hb3 (by exact L1.lt); have M2 := Blk.below (by exact L2) hb3 (by exact L2.lt); have x0 := M1.cell 0; have x1 := M1.cell 1; have x2 := M1.cell 2; have x3 := M1.cell 3; have y0 := M2.cell 0; have y1 := M2.cell 1; simp only [List.getElem?_toArray, List.getElem?_cons_zero, List.getElem?_cons_succ] at x0 x1 x2 x3 y0 y1; have hB3 : Below w.heap.size w w3 := below_trans (by go_grown) hb3; clear hb3) | (go_at_call 29; refine (C2.out _).mono ?_; rintro e w4 ⟨rfl, hb4⟩; have hB4 : Below w.heap.size w w4 := below_trans (by go_grown) hb4; clear hb4))
  all_goals
    go_wp2
    go_ret
    exact ⟨rfl, ‹_›⟩
set_option maxHeartbeats 1000000 in
theorem dist_no1 (a b c d x y : Int) (h1 : rightB a b c d = false) (w : World) :
    Calls Try.prog 31 #[.agg #[.int .i64 a, .int .i64 b, .int .i64 c, .int .i64 d], .agg #[.int .i64 x, .int .i64 y]] w fun e w' => e = .returned (.int .u64 0) ∧ Below w.heap.size w w' := by
  go_enter Try.func31, Try.ntmps31
  go_wp2_with (first | (go_at_call 13; refine (right_any _ _ _ _ _).mono ?_; rintro e w1 ⟨rfl, hb⟩; have hB : Below w.heap.size w w1 := below_trans (by go_grown) hb; have hz := hb.size; (try simp at hz); obtain ⟨hc, hf⟩ := bcell hb; have hz0 : w.heap.size < w1.heap.size := (by omega); have hz1 : w.heap.size + 1 < w1.heap.size := (by omega)) | (go_at_call 11; refine (fits_any _ _ _).mono ?_; rintro e w1 ⟨rfl, hb⟩; have hB : Below w.heap.size w w1 := below_trans (by go_grown) hb; have hz := hb.size; (try simp at hz); obtain ⟨hc, hf⟩ := bcell hb; have hz0 : w.heap.size < w1.heap.size := (by omega); have hz1 : w.heap.size + 1 < w1.heap.size := (by omega)))
  go_ret
  exact ⟨rfl, by go_grown⟩
set_option maxHeartbeats 1000000 in
theorem dist_no2 (a b c d x y : Int) (h1 : rightB a b c d = true) (h2 : fitsB x y = false) (w : World) :
    Calls Try.prog 31 #[.agg #[.int .i64 a, .int .i64 b, .int .i64 c, .int .i64 d], .agg #[.int .i64 x, .int .i64 y]] w fun e w' => e = .returned (.int .u64 0) ∧ Below w.heap.size w w' := by
  go_enter Try.func31, Try.ntmps31
  go_wp2_with (first | (go_at_call 13; refine (right_any _ _ _ _ _).mono ?_; rintro e w1 ⟨rfl, hb⟩; have hB : Below w.heap.size w w1 := below_trans (by go_grown) hb; have hz := hb.size; (try simp at hz); obtain ⟨hc, hf⟩ := bcell hb; have hz0 : w.heap.size < w1.heap.size := (by omega); have hz1 : w.heap.size + 1 < w1.heap.size := (by omega)) | (go_at_call 11; refine (fits_any _ _ _).mono ?_; rintro e w1 ⟨rfl, hb⟩; have hB : Below w.heap.size w w1 := below_trans (by go_grown) hb; have hz := hb.size; (try simp at hz); obtain ⟨hc, hf⟩ := bcell hb; have hz0 : w.heap.size < w1.heap.size := (by omega); have hz1 : w.heap.size + 1 < w1.heap.size := (by omega)))
  go_ret
  exact ⟨rfl, by go_grown⟩
end Go.Proofs.Ytichfgpmcamhmaa
