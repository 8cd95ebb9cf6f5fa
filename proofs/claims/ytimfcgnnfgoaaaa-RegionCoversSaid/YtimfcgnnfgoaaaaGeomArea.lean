/- geom.Hull, Meets, Area, Nearest, Apart by contract. -/
import Derived.Test.YtimfcgnnfgoaaaaGeomMeet
namespace Go.Proofs.Ytimfcgnnfgoaaaa
set_option linter.unusedVariables false
set_option linter.unusedSimpArgs false
open Go.RowKit
attribute [local go_sem high] run_max2 run_min2
set_option maxHeartbeats 1000000 in
theorem meets_yes (a b c d a1 b1 c1 d1 : Int) (h1 : rightB a b c d = true) (h2 : rightB a1 b1 c1 d1 = true) (h3 : rightB (max a a1) (max b b1) (min c c1) (min d d1) = true) (w : World) :
    Calls Try.prog 21 #[.agg #[.int .i64 a, .int .i64 b, .int .i64 c, .int .i64 d], .agg #[.int .i64 a1, .int .i64 b1, .int .i64 c1, .int .i64 d1]] w fun e w' => e = .returned (.bool true) ∧ Below w.heap.size w w' := by
  go_enter Try.func21, Try.ntmps21
  go_wp2_with ((go_at_call 39; refine (meet_yes _ _ _ _ _ _ _ _ h1 h2 h3 _).mono ?_; rintro e w1 ⟨rfl, hb⟩; have hB : Below w.heap.size w w1 := below_trans (by go_grown) hb; have hz := hb.size; (try simp at hz); obtain ⟨hc, hf⟩ := bcell hb))
  go_ret
  exact ⟨rfl, by go_grown⟩
set_option maxHeartbeats 1000000 in
theorem meets_no1 (a b c d a1 b1 c1 d1 : Int) (h1 : rightB a b c d = false) (w : World) :
    Calls Try.prog 21 #[.agg #[.int .i64 a, .int .i64 b, .int .i64 c, .int .i64 d], .agg #[.int .i64 a1, .int .i64 b1, .int .i64 c1, .int .i64 d1]] w fun e w' => e = .returned (.bool false) ∧ Below w.heap.size w w' := by
  go_enter Try.func21, Try.ntmps21
  go_wp2_with ((go_at_call 39; refine (meet_no1 _ _ _ _ _ _ _ _ h1 _).mono ?_; rintro e w1 ⟨rfl, hb⟩; have hB : Below w.heap.size w w1 := below_trans (by go_grown) hb; have hz := hb.size; (try simp at hz); obtain ⟨hc, hf⟩ := bcell hb))
  go_ret
  exact ⟨rfl, by go_grown⟩
set_option maxHeartbeats 1000000 in
theorem meets_no2 (a b c d a1 b1 c1 d1 : Int) (h1 : rightB a b c d = true) (h2 : rightB a1 b1 c1 d1 = false) (w : World) :
    Calls Try.prog 21 #[.agg #[.int .i64 a, .int .i64 b, .int .i64 c, .int .i64 d], .agg #[.int .i64 a1, .int .i64 b1, .int .i64 c1, .int .i64 d1]] w fun e w' => e = .returned (.bool false) ∧ Below w.heap.size w w' := by
  go_enter Try.func21, Try.ntmps21
  go_wp2_with ((go_at_call 39; refine (meet_no2 _ _ _ _ _ _ _ _ h1 h2 _).mono ?_; rintro e w1 ⟨rfl, hb⟩; have hB : Below w.heap.size w w1 := below_trans (by go_grown) hb; have hz := hb.size; (try simp at hz); obtain ⟨hc, hf⟩ := bcell hb))
  go_ret
  exact ⟨rfl, by go_grown⟩
set_option maxHeartbeats 1000000 in
theorem meets_no3 (a b c d a1 b1 c1 d1 : Int) (h1 : rightB a b c d = true) (h2 : rightB a1 b1 c1 d1 = true) (h3 : rightB (max a a1) (max b b1) (min c c1) (min d d1) = false) (w : World) :
    Calls Try.prog 21 #[.agg #[.int .i64 a, .int .i64 b, .int .i64 c, .int .i64 d], .agg #[.int .i64 a1, .int .i64 b1, .int .i64 c1, .int .i64 d1]] w fun e w' => e = .returned (.bool false) ∧ Below w.heap.size w w' := by
  go_enter Try.func21, Try.ntmps21
  go_wp2_with ((go_at_call 39; refine (meet_no3 _ _ _ _ _ _ _ _ h1 h2 h3 _).mono ?_; rintro e w1 ⟨rfl, hb⟩; have hB : Below w.heap.size w w1 := below_trans (by go_grown) hb; have hz := hb.size; (try simp at hz); obtain ⟨hc, hf⟩ := bcell hb))
  go_ret
  exact ⟨rfl, by go_grown⟩
theorem mul_bd (x y : Int) (hx : 0 ≤ x) (hx' : x ≤ 65536) (hy : 0 ≤ y) (hy' : y ≤ 65536) : 0 ≤ x * y ∧ x * y ≤ 4294967296 := by
  have h1 : 0 ≤ x * y := Int.mul_nonneg hx hy
  have h2 : x * y ≤ 65536 * 65536 := Int.mul_le_mul hx' hy' hy (by omega)
  omega
set_option maxHeartbeats 1000000 in
theorem area_yes (a b c d : Int) (h1 : rightB a b c d = true) (w : World) : Calls Try.prog 41 #[.agg #[.int .i64 a, .int .i64 b, .int .i64 c, .int .i64 d]] w fun e w' => e = .returned (.int .u64 ((c - a + 1) * (d - b + 1))) ∧ Below w.heap.size w w' := by
  have hr := (rightB_iff a b c d).1 h1
  obtain ⟨r1, r2, r3, r4, r5, r6⟩ := hr
  have G1 : gapI a c = c - a := gapI_le a c r2
  have G2 : gapI b d = d - b := gapI_le b d r5
  have HG1 := Lib.hid G1
  have HG2 := Lib.hid G2
  obtain ⟨m1, m2⟩ := mul_bd (gapI a c + 1) (gapI b d + 1) (by omega) (by omega) (by omega) (by omega)
  have g1 : 0 ≤ gapI a c := by omega
  have g2 : gapI a c ≤ 65535 := by omega
  have g3 : 0 ≤ gapI b d := by omega
  have g4 : gapI b d ≤ 65535 := by omega
  have q1 : c ≤ 65535 := r3
  have q2 : 0 ≤ c := by omega
  have q3 : a ≤ 65535 := by omega
  have q4 : 0 ≤ d := by omega
  have q5 : b ≤ 65535 := by omega
  clear G1 G2
  go_enter Try.func41, Try.ntmps41
  go_wp2_with ((go_at_call 20; refine (right_any _ _ _ _ _).mono ?_; rintro e w1 ⟨rfl, hb⟩; have hB : Below w.heap.size w w1 := below_trans (by go_grown) hb; have hz := hb.size; (try simp at hz); obtain ⟨hc, hf⟩ := bcell hb; have hz0 : w.heap.size < w1.heap.size := (by omega)))
  have e1 : IntKind.u64.wrap (gapI a c + 1) = gapI a c + 1 := IntWalk.u64_in _ (by omega)
  have e2 : IntKind.u64.wrap (gapI b d + 1) = gapI b d + 1 := IntWalk.u64_in _ (by omega)
  have e3 : IntKind.u64.wrap ((gapI a c + 1) * (gapI b d + 1)) = (gapI a c + 1) * (gapI b d + 1) := IntWalk.u64_in _ (by omega)
  go_quiet ((go_at_call 49; exact Calls.quiet_of_same (gap_any _ _ (by assumption) (by assumption) (by assumption) (by assumption) _)))
  go_wp2
  go_ret
  refine ⟨ret_int ?_, below_drawn ‹_› _⟩
  rw [HG1.out, HG2.out]
set_option maxHeartbeats 1000000 in
theorem area_no (a b c d : Int) (h1 : rightB a b c d = false) (w : World) :
    Calls Try.prog 41 #[.agg #[.int .i64 a, .int .i64 b, .int .i64 c, .int .i64 d]] w fun e w' => e = .returned (.int .u64 0) ∧ Below w.heap.size w w' := by
  go_enter Try.func41, Try.ntmps41
  go_wp2_with ((go_at_call 20; refine (right_any _ _ _ _ _).mono ?_; rintro e w1 ⟨rfl, hb⟩; have hB : Below w.heap.size w w1 := below_trans (by go_grown) hb; have hz := hb.size; (try simp at hz); obtain ⟨hc, hf⟩ := bcell hb; have hz0 : w.heap.size < w1.heap.size := (by omega)))
  go_ret
  exact ⟨rfl, by go_grown⟩
end Go.Proofs.Ytimfcgnnfgoaaaa
