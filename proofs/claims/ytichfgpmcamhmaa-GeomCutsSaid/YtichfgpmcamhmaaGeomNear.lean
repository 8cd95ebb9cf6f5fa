/- geom.Nearest, Apart, Dist by contract. -/
import Derived.Test.YtichfgpmcamhmaaGeomArea
namespace Go.Proofs.Ytichfgpmcamhmaa
set_option linter.unusedVariables false
set_option linter.unusedSimpArgs false
open Go.RowKit
attribute [local go_sem high] run_max2 run_min2
/-- How far a number is from the numbers from one to another one. -/
def g3 (n a b : Int) : Int := if n < a then a - n else if n > b then n - b else 0
theorem g3_near (n a b : Int) (h : a ≤ b) : gapI (min (max n a) b) n = g3 n a b := by unfold gapI g3; omega
theorem g3_same (n a : Int) : g3 n a a = gapI n a := by unfold gapI g3; omega
theorem sq_bd (x : Int) (hx : 0 ≤ x) (hx' : x ≤ 65535) : 0 ≤ x * x ∧ x * x ≤ 4294836225 := by
  have h1 : 0 ≤ x * x := Int.mul_nonneg hx hx
  have h2 : x * x ≤ 65535 * 65535 := Int.mul_le_mul hx' hx' hx (by omega)
  omega
set_option maxHeartbeats 1000000 in
theorem near_yes (a b c d x y : Int) (h1 : rightB a b c d = true) (h2 : fitsB x y = true) (w : World) :
    Calls Try.prog 33 #[.agg #[.int .i64 a, .int .i64 b, .int .i64 c, .int .i64 d], .agg #[.int .i64 x, .int .i64 y]] w fun e w' => e = .returned (.agg #[.int .i64 (min (max x a) c), .int .i64 (min (max y b) d)]) ∧ Below w.heap.size w w' := by
  go_enter Try.func33, Try.ntmps33
  go_wp2_with (first | (go_at_call 13; refine (right_any _ _ _ _ _).mono ?_; rintro e w1 ⟨rfl, hb⟩; have hB : Below w.heap.size w w1 := below_trans (by go_grown) hb; have hz := hb.size; (try simp at hz); obtain ⟨hc, hf⟩ := bcell hb; have hz0 : w.heap.size < w1.heap.size := (by omega); have hz1 : w.heap.size + 1 < w1.heap.size := (by omega); have hz2 : w.heap.size + 2 < w1.heap.size := (by omega)) | (go_at_call 11; refine (fits_any _ _ _).mono ?_; rintro e w1 ⟨rfl, hb⟩; have hB : Below w.heap.size w w1 := below_trans (by go_grown) hb; have hz := hb.size; (try simp at hz); obtain ⟨hc, hf⟩ := bcell hb; have hz0 : w.heap.size < w1.heap.size := (by omega); have hz1 : w.heap.size + 1 < w1.heap.size := (by omega); have hz2 : w.heap.size + 2 < w1.heap.size := (by omega)))
  refine bodyPost_ret (v := .agg #[.int .i64 (min (max x a) c), .int .i64 (min (max y b) d)]) ?_ rfl ⟨rfl, ?_⟩
  · simp [results, Try.results33, go_sem, *]
  · go_grown
set_option maxHeartbeats 1000000 in
theorem near_no1 (a b c d x y : Int) (h1 : rightB a b c d = false) (w : World) :
    Calls Try.prog 33 #[.agg #[.int .i64 a, .int .i64 b, .int .i64 c, .int .i64 d], .agg #[.int .i64 x, .int .i64 y]] w fun e w' => e = .returned (.agg #[.int .i64 0, .int .i64 0]) ∧ Below w.heap.size w w' := by
  go_enter Try.func33, Try.ntmps33
  go_wp2_with (first | (go_at_call 13; refine (right_any _ _ _ _ _).mono ?_; rintro e w1 ⟨rfl, hb⟩; have hB : Below w.heap.size w w1 := below_trans (by go_grown) hb; have hz := hb.size; (try simp at hz); obtain ⟨hc, hf⟩ := bcell hb; have hz0 : w.heap.size < w1.heap.size := (by omega); have hz1 : w.heap.size + 1 < w1.heap.size := (by omega); have hz2 : w.heap.size + 2 < w1.heap.size := (by omega)) | (go_at_call 11; refine (fits_any _ _ _).mono ?_; rintro e w1 ⟨rfl, hb⟩; have hB : Below w.heap.size w w1 := below_trans (by go_grown) hb; have hz := hb.size; (try simp at hz); obtain ⟨hc, hf⟩ := bcell hb; have hz0 : w.heap.size < w1.heap.size := (by omega); have hz1 : w.heap.size + 1 < w1.heap.size := (by omega); have hz2 : w.heap.size + 2 < w1.heap.size := (by omega)))
  refine bodyPost_ret (v := .agg #[.int .i64 0, .int .i64 0]) ?_ rfl ⟨rfl, ?_⟩
  · simp [results, Try.results33, go_sem, *]
  · go_grown
set_option maxHeartbeats 1000000 in
theorem near_no2 (a b c d x y : Int) (h1 : rightB a b c d = true) (h2 : fitsB x y = false) (w : World) :
    Calls Try.prog 33 #[.agg #[.int .i64 a, .int .i64 b, .int .i64 c, .int .i64 d], .agg #[.int .i64 x, .int .i64 y]] w fun e w' => e = .returned (.agg #[.int .i64 0, .int .i64 0]) ∧ Below w.heap.size w w' := by
  go_enter Try.func33, Try.ntmps33
  go_wp2_with (first | (go_at_call 13; refine (right_any _ _ _ _ _).mono ?_; rintro e w1 ⟨rfl, hb⟩; have hB : Below w.heap.size w w1 := below_trans (by go_grown) hb; have hz := hb.size; (try simp at hz); obtain ⟨hc, hf⟩ := bcell hb; have hz0 : w.heap.size < w1.heap.size := (by omega); have hz1 : w.heap.size + 1 < w1.heap.size := (by omega); have hz2 : w.heap.size + 2 < w1.heap.size := (by omega)) | (go_at_call 11; refine (fits_any _ _ _).mono ?_; rintro e w1 ⟨rfl, hb⟩; have hB : Below w.heap.size w w1 := below_trans (by go_grown) hb; have hz := hb.size; (try simp at hz); obtain ⟨hc, hf⟩ := bcell hb; have hz0 : w.heap.size < w1.heap.size := (by omega); have hz1 : w.heap.size + 1 < w1.heap.size := (by omega); have hz2 : w.heap.size + 2 < w1.heap.size := (by omega)))
  refine bodyPost_ret (v := .agg #[.int .i64 0, .int .i64 0]) ?_ rfl ⟨rfl, ?_⟩
  · simp [results, Try.results33, go_sem, *]
  · go_grown
set_option maxHeartbeats 1000000 in
theorem apart_yes (x y x1 y1 : Int) (h1 : fitsB x y = true) (h2 : fitsB x1 y1 = true) (w : World) : Calls Try.prog 29 #[.agg #[.int .i64 x, .int .i64 y], .agg #[.int .i64 x1, .int .i64 y1]] w fun e w' => e = .returned (.int .u64 (gapI x x1 * gapI x x1 + gapI y y1 * gapI y y1)) ∧ Below w.heap.size w w' := by
  obtain ⟨r1, r2, r3, r4⟩ := (fitsB_iff x y).1 h1
  obtain ⟨s1, s2, s3, s4⟩ := (fitsB_iff x1 y1).1 h2
  obtain ⟨g1, g2⟩ := gapI_bd x x1 r1 r2 s1 s2
  obtain ⟨g3, g4⟩ := gapI_bd y y1 r3 r4 s3 s4
  obtain ⟨m1, m2⟩ := sq_bd (gapI x x1) g1 g2
  obtain ⟨m3, m4⟩ := sq_bd (gapI y y1) g3 g4
  have m5 : gapI x x1 * gapI x x1 ≤ 18446744073709551615 := by omega
  have m6 : gapI y y1 * gapI y y1 ≤ 18446744073709551615 := by omega
  have m7 : gapI x x1 * gapI x x1 + gapI y y1 * gapI y y1 ≤ 18446744073709551615 := by omega
  go_enter Try.func29, Try.ntmps29
  go_wp2_with ((go_at_call 11; refine (fits_any _ _ _).mono ?_; rintro e w1 ⟨rfl, hb⟩; have hB : Below w.heap.size w w1 := below_trans (by go_grown) hb; have hz := hb.size; (try simp at hz); obtain ⟨hc, hf⟩ := bcell hb; have hz0 : w.heap.size < w1.heap.size := (by omega); have hz1 : w.heap.size + 1 < w1.heap.size := (by omega)))
  go_quiet ((go_at_call 41; exact Calls.quiet_of_same (gap_any _ _ (by assumption) (by assumption) (by assumption) (by assumption) _)))
  go_wp2
  go_ret
  exact ⟨rfl, below_drawn ‹_› _⟩
set_option maxHeartbeats 1000000 in
theorem apart_no1 (x y x1 y1 : Int) (h1 : fitsB x y = false) (w : World) :
    Calls Try.prog 29 #[.agg #[.int .i64 x, .int .i64 y], .agg #[.int .i64 x1, .int .i64 y1]] w fun e w' => e = .returned (.int .u64 0) ∧ Below w.heap.size w w' := by
  go_enter Try.func29, Try.ntmps29
  go_wp2_with ((go_at_call 11; refine (fits_any _ _ _).mono ?_; rintro e w1 ⟨rfl, hb⟩; have hB : Below w.heap.size w w1 := below_trans (by go_grown) hb; have hz := hb.size; (try simp at hz); obtain ⟨hc, hf⟩ := bcell hb; have hz0 : w.heap.size < w1.heap.size := (by omega); have hz1 : w.heap.size + 1 < w1.heap.size := (by omega)))
  go_ret
  exact ⟨rfl, by go_grown⟩
set_option maxHeartbeats 1000000 in
theorem apart_no2 (x y x1 y1 : Int) (h1 : fitsB x y = true) (h2 : fitsB x1 y1 = false) (w : World) :
    Calls Try.prog 29 #[.agg #[.int .i64 x, .int .i64 y], .agg #[.int .i64 x1, .int .i64 y1]] w fun e w' => e = .returned (.int .u64 0) ∧ Below w.heap.size w w' := by
  go_enter Try.func29, Try.ntmps29
  go_wp2_with ((go_at_call 11; refine (fits_any _ _ _).mono ?_; rintro e w1 ⟨rfl, hb⟩; have hB : Below w.heap.size w w1 := below_trans (by go_grown) hb; have hz := hb.size; (try simp at hz); obtain ⟨hc, hf⟩ := bcell hb; have hz0 : w.heap.size < w1.heap.size := (by omega); have hz1 : w.heap.size + 1 < w1.heap.size := (by omega)))
  go_ret
  exact ⟨rfl, by go_grown⟩
end Go.Proofs.Ytichfgpmcamhmaa
