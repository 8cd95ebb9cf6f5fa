/- cloak: hulls and areas, by contract (out of the geom texts). -/
import Derived.Test.YtipfhleedfbnaaaGeomArea
import Derived.Test.YtipfhleedfbnaaaGeomRef
import Derived.Test.YtipfhleedfbnaaaGeomUP
import Derived.StillTailTactics
namespace Go.Proofs.Ytipfhleedfbnaaa
set_option linter.unusedVariables false
set_option linter.unusedSimpArgs false
open Go.RowKit
set_option maxHeartbeats 1000000 in
theorem rhull_no1 (a b c d a1 b1 c1 d1 : Int) (h1 : rightB a b c d = false) (w : World) :
    Calls Try.prog 57 #[.agg #[.int .i64 a, .int .i64 b, .int .i64 c, .int .i64 d], .agg #[.int .i64 a1, .int .i64 b1, .int .i64 c1, .int .i64 d1]] w fun e w' => e = .returned (.agg #[.int .i64 0, .int .i64 0, .int .i64 0, .int .i64 0]) ∧ Below w.heap.size w w' := by
  go_enter Try.func57, Try.ntmps57
  go_wp2_with ((go_at_call 55; refine (ref_right _ _ _ _ _).mono ?_; rintro e w1 ⟨rfl, hb⟩; have hB : Below w.heap.size w w1 := below_trans (by go_grown) hb; have hz := hb.size; (try simp at hz); obtain ⟨hc, hf⟩ := bcell hb; have hz0 : w.heap.size < w1.heap.size := (by omega); have hz1 : w.heap.size + 1 < w1.heap.size := (by omega); have hz2 : w.heap.size + 2 < w1.heap.size := (by omega)))
  refine bodyPost_ret (v := .agg #[.int .i64 0, .int .i64 0, .int .i64 0, .int .i64 0]) ?_ rfl ⟨rfl, ?_⟩
  · simp [results, Try.results57, go_sem, *]
  · go_grown
set_option maxHeartbeats 1000000 in
theorem rhull_no2 (a b c d a1 b1 c1 d1 : Int) (h1 : rightB a b c d = true) (h2 : rightB a1 b1 c1 d1 = false) (w : World) :
    Calls Try.prog 57 #[.agg #[.int .i64 a, .int .i64 b, .int .i64 c, .int .i64 d], .agg #[.int .i64 a1, .int .i64 b1, .int .i64 c1, .int .i64 d1]] w fun e w' => e = .returned (.agg #[.int .i64 0, .int .i64 0, .int .i64 0, .int .i64 0]) ∧ Below w.heap.size w w' := by
  go_enter Try.func57, Try.ntmps57
  go_wp2_with ((go_at_call 55; refine (ref_right _ _ _ _ _).mono ?_; rintro e w1 ⟨rfl, hb⟩; have hB : Below w.heap.size w w1 := below_trans (by go_grown) hb; have hz := hb.size; (try simp at hz); obtain ⟨hc, hf⟩ := bcell hb; have hz0 : w.heap.size < w1.heap.size := (by omega); have hz1 : w.heap.size + 1 < w1.heap.size := (by omega); have hz2 : w.heap.size + 2 < w1.heap.size := (by omega)))
  refine bodyPost_ret (v := .agg #[.int .i64 0, .int .i64 0, .int .i64 0, .int .i64 0]) ?_ rfl ⟨rfl, ?_⟩
  · simp [results, Try.results57, go_sem, *]
  · go_grown
set_option maxHeartbeats 1000000 in
theorem rarea_yes (a b c d : Int) (h1 : rightB a b c d = true) (w : World) : Calls Try.prog 35 #[.agg #[.int .i64 a, .int .i64 b, .int .i64 c, .int .i64 d]] w fun e w' => e = .returned (.int .u64 ((c - a + 1) * (d - b + 1))) ∧ Below w.heap.size w w' := by
  obtain ⟨r1, r2, r3, r4, r5, r6⟩ := (rightB_iff a b c d).1 h1
  obtain ⟨m1, m2⟩ := mul_bd (c - a + 1) (d - b + 1) (by omega) (by omega) (by omega) (by omega)
  have m3 : (c - a + 1) * (d - b + 1) ≤ 18446744073709551615 := by omega
  go_enter Try.func35, Try.ntmps35
  go_wp2_with ((go_at_call 55; refine (ref_right _ _ _ _ _).mono ?_; rintro e w1 ⟨rfl, hb⟩; have hB : Below w.heap.size w w1 := below_trans (by go_grown) hb; have hz := hb.size; (try simp at hz); obtain ⟨hc, hf⟩ := bcell hb; have hz0 : w.heap.size < w1.heap.size := (by omega)))
  go_ret
  exact ⟨rfl, by go_grown⟩
set_option maxHeartbeats 1000000 in
theorem rarea_no (a b c d : Int) (h1 : rightB a b c d = false) (w : World) :
    Calls Try.prog 35 #[.agg #[.int .i64 a, .int .i64 b, .int .i64 c, .int .i64 d]] w fun e w' => e = .returned (.int .u64 0) ∧ Below w.heap.size w w' := by
  go_enter Try.func35, Try.ntmps35
  go_wp2_with ((go_at_call 55; refine (ref_right _ _ _ _ _).mono ?_; rintro e w1 ⟨rfl, hb⟩; have hB : Below w.heap.size w w1 := below_trans (by go_grown) hb; have hz := hb.size; (try simp at hz); obtain ⟨hc, hf⟩ := bcell hb; have hz0 : w.heap.size < w1.heap.size := (by omega)))
  go_ret
  exact ⟨rfl, by go_grown⟩
set_option maxHeartbeats 1000000 in
theorem rhull_yes (a b c d a1 b1 c1 d1 : Int) (h1 : rightB a b c d = true) (h2 : rightB a1 b1 c1 d1 = true) (w : World) : Calls Try.prog 57 #[.agg #[.int .i64 a, .int .i64 b, .int .i64 c, .int .i64 d], .agg #[.int .i64 a1, .int .i64 b1, .int .i64 c1, .int .i64 d1]] w fun e w' => e = .returned (.agg #[.int .i64 (min a a1), .int .i64 (min b b1), .int .i64 (max c c1), .int .i64 (max d d1)]) ∧ Below w.heap.size w w' := by
  go_enter Try.func57, Try.ntmps57
  go_wp2_with fail
  refine (ref_right _ _ _ _ _).mono ?_
  rintro e w1 ⟨rfl, hb1⟩
  have K0 := blk_three w 33 33 33 #[.int .i64 a, .int .i64 b, .int .i64 c, .int .i64 d] #[.int .i64 a1, .int .i64 b1, .int .i64 c1, .int .i64 d1] #[.int .i64 0, .int .i64 0, .int .i64 0, .int .i64 0]
  have K1 := K0.1.below hb1 K0.1.lt
  have K2 := K0.2.1.below hb1 K0.2.1.lt
  have K3 := K0.2.2.below hb1 K0.2.2.lt
  clear K0
  have hB1 : Below w.heap.size w w1 := below_trans (by go_grown) hb1
  clear hb1
  have x0 := K1.cell 0
  have x1 := K1.cell 1
  have x2 := K1.cell 2
  have x3 := K1.cell 3
  have y0 := K2.cell 0
  have y1 := K2.cell 1
  have y2 := K2.cell 2
  have y3 := K2.cell 3
  have z0 := K3.cell 0
  have z1 := K3.cell 1
  have z2 := K3.cell 2
  have z3 := K3.cell 3
  have f0 := K3.frozen 0
  have f1 := K3.frozen 1
  have f2 := K3.frozen 2
  have f3 := K3.frozen 3
  simp only [List.getElem?_toArray, List.getElem?_cons_zero, List.getElem?_cons_succ] at x0 x1 x2 x3 y0 y1 y2 y3 z0 z1 z2 z3
  go_wp2_with fail
  refine (ref_right _ _ _ _ _).mono ?_
  rintro e w2 ⟨rfl, hb2⟩
  have L1 := K1.below hb2 K1.lt
  have L2 := K2.below hb2 K2.lt
  have L3 := K3.below hb2 K3.lt
  have hB2 := below_trans hB1 hb2
  clear hb2 K1 K2 K3 hB1 x0 x1 x2 x3 y0 y1 y2 y3 z0 z1 z2 z3 f0 f1 f2 f3
  have x0 := L1.cell 0
  have x1 := L1.cell 1
  have x2 := L1.cell 2
  have x3 := L1.cell 3
  have y0 := L2.cell 0
  have y1 := L2.cell 1
  have y2 := L2.cell 2
  have y3 := L2.cell 3
  have z0 := L3.cell 0
  have z1 := L3.cell 1
  have z2 := L3.cell 2
  have z3 := L3.cell 3
  have f0 := L3.frozen 0
  have f1 := L3.frozen 1
  have f2 := L3.frozen 2
  have f3 := L3.frozen 3
  simp only [List.getElem?_toArray, List.getElem?_cons_zero, List.getElem?_cons_succ] at x0 x1 x2 x3 y0 y1 y2 y3 z0 z1 z2 z3
  have hn1 : ¬ w.heap.size = w.heap.size + 1 + 1 := by omega
  have hn2 : ¬ w.heap.size + 1 + 1 = w.heap.size := by omega
  go_wp2_with fail
  go_region_held3 (fun w' => (w'.cell? ⟨w.heap.size, 0, none⟩ = some (.int .i64 a)) ∧ (w'.cell? ⟨w.heap.size, 1, none⟩ = some (.int .i64 b)) ∧ (w'.cell? ⟨w.heap.size, 2, none⟩ = some (.int .i64 c)) ∧ (w'.cell? ⟨w.heap.size, 3, none⟩ = some (.int .i64 d)) ∧ (w'.cell? ⟨w.heap.size + 1, 0, none⟩ = some (.int .i64 a1)) ∧ (w'.cell? ⟨w.heap.size + 1, 1, none⟩ = some (.int .i64 b1)) ∧ (w'.cell? ⟨w.heap.size + 1, 2, none⟩ = some (.int .i64 c1)) ∧ (w'.cell? ⟨w.heap.size + 1, 3, none⟩ = some (.int .i64 d1))) (go_keep) (first | (go_at_call 61; refine (ref_more _ _ _).mono ?_; rintro e w9 ⟨rfl, rfl⟩) | (go_at_call 60; refine (ref_less _ _ _).mono ?_; rintro e w9 ⟨rfl, rfl⟩))
  all_goals
    go_wp2
    refine bodyPost_ret (v := .agg #[.int .i64 (min a a1), .int .i64 (min b b1), .int .i64 (max c c1), .int .i64 (max d d1)]) ?_ rfl ⟨rfl, ?_⟩
    · simp [results, Try.results57, go_sem, *]
    · go_grown
def okH (a b c d a1 b1 c1 d1 : Int) : Bool := rightB a b c d && rightB a1 b1 c1 d1
def hu0 (a b c d a1 b1 c1 d1 : Int) : Int := if okH a b c d a1 b1 c1 d1 = true then min a a1 else 0
def hu1 (a b c d a1 b1 c1 d1 : Int) : Int := if okH a b c d a1 b1 c1 d1 = true then min b b1 else 0
def hu2 (a b c d a1 b1 c1 d1 : Int) : Int := if okH a b c d a1 b1 c1 d1 = true then max c c1 else 0
def hu3 (a b c d a1 b1 c1 d1 : Int) : Int := if okH a b c d a1 b1 c1 d1 = true then max d d1 else 0
theorem hull_u (a b c d a1 b1 c1 d1 : Int) (w : World) : Calls Try.prog 58 #[.agg #[.int .i64 a, .int .i64 b, .int .i64 c, .int .i64 d], .agg #[.int .i64 a1, .int .i64 b1, .int .i64 c1, .int .i64 d1]] w fun e w' => e = .returned (.agg #[.int .i64 (hu0 a b c d a1 b1 c1 d1), .int .i64 (hu1 a b c d a1 b1 c1 d1), .int .i64 (hu2 a b c d a1 b1 c1 d1), .int .i64 (hu3 a b c d a1 b1 c1 d1)]) ∧ Below w.heap.size w w' := by
  rcases bcase (rightB a b c d) with h1 | h1
  · rcases bcase (rightB a1 b1 c1 d1) with h2 | h2
    · have := hull_yes a b c d a1 b1 c1 d1 h1 h2 w
      simpa [okH, hu0, hu1, hu2, hu3, h1, h2] using this
    · have := hull_no2 a b c d a1 b1 c1 d1 h1 h2 w
      simpa [okH, hu0, hu1, hu2, hu3, h1, h2] using this
  · have := hull_no1 a b c d a1 b1 c1 d1 h1 w
    simpa [okH, hu0, hu1, hu2, hu3, h1] using this
theorem rhull_u (a b c d a1 b1 c1 d1 : Int) (w : World) : Calls Try.prog 57 #[.agg #[.int .i64 a, .int .i64 b, .int .i64 c, .int .i64 d], .agg #[.int .i64 a1, .int .i64 b1, .int .i64 c1, .int .i64 d1]] w fun e w' => e = .returned (.agg #[.int .i64 (hu0 a b c d a1 b1 c1 d1), .int .i64 (hu1 a b c d a1 b1 c1 d1), .int .i64 (hu2 a b c d a1 b1 c1 d1), .int .i64 (hu3 a b c d a1 b1 c1 d1)]) ∧ Below w.heap.size w w' := by
  rcases bcase (rightB a b c d) with h1 | h1
  · rcases bcase (rightB a1 b1 c1 d1) with h2 | h2
    · have := rhull_yes a b c d a1 b1 c1 d1 h1 h2 w
      simpa [okH, hu0, hu1, hu2, hu3, h1, h2] using this
    · have := rhull_no2 a b c d a1 b1 c1 d1 h1 h2 w
      simpa [okH, hu0, hu1, hu2, hu3, h1, h2] using this
  · have := rhull_no1 a b c d a1 b1 c1 d1 h1 w
    simpa [okH, hu0, hu1, hu2, hu3, h1] using this
theorem rarea_u (a b c d : Int) (w : World) : Calls Try.prog 35 #[.agg #[.int .i64 a, .int .i64 b, .int .i64 c, .int .i64 d]] w fun e w' => e = .returned (.int .u64 (areaU a b c d)) ∧ Below w.heap.size w w' := by
  rcases bcase (rightB a b c d) with h1 | h1
  · have := rarea_yes a b c d h1 w
    simpa [areaU, h1] using this
  · have := rarea_no a b c d h1 w
    simpa [areaU, h1] using this
end Go.Proofs.Ytipfhleedfbnaaa
