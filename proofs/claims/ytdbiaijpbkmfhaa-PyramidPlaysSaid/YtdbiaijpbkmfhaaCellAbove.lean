/- cell.Above, Of, Parent by contract. -/
import Derived.Test.YtdbiaijpbkmfhaaCellRight
import Derived.Deep.RegionHeld3
import Derived.Deep.RegionWith
import Derived.IntWalk
namespace Go.Proofs.Ytdbiaijpbkmfhaa
set_option linter.unusedVariables false
set_option linter.unusedSimpArgs false
open Go.RowKit
set_option maxHeartbeats 1000000 in
theorem climb_any (d : Nat) (x : Int) (hd : d ≤ 16) (w : World) :
    Calls Try.prog 58 #[.int .i64 (d : Int), .int .i64 x] w fun e w' => e = .returned (.int .i64 (x / 2 ^ d)) ∧ w = w' := by
  have hm : min d 64 = d := by omega
  go_enter Try.func58, Try.ntmps58
  go_wp2
  go_ret
  exact ⟨rfl, rfl⟩
set_option maxHeartbeats 1000000 in
theorem numbered_any (d : Nat) (l x y : Int) (hd : d ≤ 16) (w : World) :
    Calls Try.prog 57 #[.int .i64 l, .int .i64 x, .int .i64 y, .func (.func 58) #[.int .i64 (d : Int)] #[]] w fun e w' => e = .returned (.agg #[.int .i64 l, .int .i64 (x / 2 ^ d), .int .i64 (y / 2 ^ d)]) ∧ Below w.heap.size w w' := by
  go_enter Try.func57, Try.ntmps57
  go_wp2_with ((go_at_call 58; refine (climb_any _ _ hd _).mono ?_; rintro e w1 ⟨rfl, rfl⟩))
  refine bodyPost_ret (v := .agg #[.int .i64 l, .int .i64 (x / 2 ^ d), .int .i64 (y / 2 ^ d)]) ?_ rfl ⟨rfl, ?_⟩
  · simp [results, Try.results57, go_sem, *]
  · go_grown
set_option maxHeartbeats 1000000 in
theorem cabove_yes (d : Nat) (L x y lv : Int) (h : okC L x y = true) (h0 : 0 ≤ lv) (h1 : lv ≤ L) (h2 : L - lv = (d : Int)) (hd : d ≤ 16) (w : World) :
    Calls Try.prog 53 #[.agg #[.int .i64 L, .int .i64 x, .int .i64 y], .int .i64 lv] w fun e w' => e = .returned (.tuple #[.agg #[.int .i64 lv, .int .i64 (x / 2 ^ d), .int .i64 (y / 2 ^ d)], .bool true]) ∧ Below w.heap.size w w' := by
  obtain ⟨_, hL, _⟩ := (okC_iff _ _ _).1 h
  have hlv : levB lv = true := (levB_iff _).2 (by omega)
  go_enter Try.func53, Try.ntmps53
  go_wp2_with (first | (go_at_call 52; refine (islevel_any _ _).mono ?_; rintro e w1 ⟨rfl, rfl⟩) | (go_at_call 46; refine (cright_any _ _ _ _).mono ?_; rintro e w1 ⟨rfl, hb⟩; have hB : Below w.heap.size w w1 := below_trans (by go_grown) hb; have hz := hb.size; (try simp at hz); obtain ⟨hc, hf⟩ := bcell hb; have hz0 : w.heap.size < w1.heap.size := (by omega); have hz1 : w.heap.size + 1 < w1.heap.size := (by omega)) | (go_at_call 57; refine (numbered_any _ _ _ _ hd _).mono ?_; rintro e w1 ⟨rfl, hb⟩; have hB : Below w.heap.size w w1 := below_trans (by go_grown) hb; have hz := hb.size; (try simp at hz); obtain ⟨hc, hf⟩ := bcell hb; have hz0 : w.heap.size < w1.heap.size := (by omega); have hz1 : w.heap.size + 1 < w1.heap.size := (by omega)))
  refine bodyPost_ret (v := .tuple #[.agg #[.int .i64 lv, .int .i64 (x / 2 ^ d), .int .i64 (y / 2 ^ d)], .bool true]) ?_ rfl ⟨rfl, ?_⟩
  · simp [results, Try.results53, go_sem, *]
  · go_grown
set_option maxHeartbeats 1000000 in
theorem cabove_no1 (L x y lv : Int) (h : okC L x y = false) (w : World) :
    Calls Try.prog 53 #[.agg #[.int .i64 L, .int .i64 x, .int .i64 y], .int .i64 lv] w fun e w' => e = .returned (.tuple #[.agg #[.int .i64 0, .int .i64 0, .int .i64 0], .bool false]) ∧ Below w.heap.size w w' := by
  go_enter Try.func53, Try.ntmps53
  go_wp2_with (first | (go_at_call 52; refine (islevel_any _ _).mono ?_; rintro e w1 ⟨rfl, rfl⟩) | (go_at_call 46; refine (cright_any _ _ _ _).mono ?_; rintro e w1 ⟨rfl, hb⟩; have hB : Below w.heap.size w w1 := below_trans (by go_grown) hb; have hz := hb.size; (try simp at hz); obtain ⟨hc, hf⟩ := bcell hb; have hz0 : w.heap.size < w1.heap.size := (by omega); have hz1 : w.heap.size + 1 < w1.heap.size := (by omega)))
  refine bodyPost_ret (v := .tuple #[.agg #[.int .i64 0, .int .i64 0, .int .i64 0], .bool false]) ?_ rfl ⟨rfl, ?_⟩
  · simp [results, Try.results53, go_sem, *]
  · first | (go_grown; done) | exact below_drawn (by go_grown) _
set_option maxHeartbeats 1000000 in
theorem cabove_no2 (L x y lv : Int) (h : okC L x y = true) (h2 : lv < 0) (w : World) :
    Calls Try.prog 53 #[.agg #[.int .i64 L, .int .i64 x, .int .i64 y], .int .i64 lv] w fun e w' => e = .returned (.tuple #[.agg #[.int .i64 0, .int .i64 0, .int .i64 0], .bool false]) ∧ Below w.heap.size w w' := by
  have hlv : levB lv = false := by rw [Bool.eq_false_iff, ne_eq, levB_iff]; omega
  go_enter Try.func53, Try.ntmps53
  go_wp2_with (first | (go_at_call 52; refine (islevel_any _ _).mono ?_; rintro e w1 ⟨rfl, rfl⟩) | (go_at_call 46; refine (cright_any _ _ _ _).mono ?_; rintro e w1 ⟨rfl, hb⟩; have hB : Below w.heap.size w w1 := below_trans (by go_grown) hb; have hz := hb.size; (try simp at hz); obtain ⟨hc, hf⟩ := bcell hb; have hz0 : w.heap.size < w1.heap.size := (by omega); have hz1 : w.heap.size + 1 < w1.heap.size := (by omega)))
  refine bodyPost_ret (v := .tuple #[.agg #[.int .i64 0, .int .i64 0, .int .i64 0], .bool false]) ?_ rfl ⟨rfl, ?_⟩
  · simp [results, Try.results53, go_sem, *]
  · first | (go_grown; done) | exact below_drawn (by go_grown) _
set_option maxHeartbeats 1000000 in
theorem cabove_no3 (L x y lv : Int) (h : okC L x y = true) (h2 : L < lv) (w : World) :
    Calls Try.prog 53 #[.agg #[.int .i64 L, .int .i64 x, .int .i64 y], .int .i64 lv] w fun e w' => e = .returned (.tuple #[.agg #[.int .i64 0, .int .i64 0, .int .i64 0], .bool false]) ∧ Below w.heap.size w w' := by
  have hlt : ¬ (lv ≤ L) := by omega
  rcases Bool.eq_false_or_eq_true (levB lv) with hlv | hlv
  all_goals
    go_enter Try.func53, Try.ntmps53
    go_wp2_with (first | (go_at_call 52; refine (islevel_any _ _).mono ?_; rintro e w1 ⟨rfl, rfl⟩) | (go_at_call 46; refine (cright_any _ _ _ _).mono ?_; rintro e w1 ⟨rfl, hb⟩; have hB : Below w.heap.size w w1 := below_trans (by go_grown) hb; have hz := hb.size; (try simp at hz); obtain ⟨hc, hf⟩ := bcell hb; have hz0 : w.heap.size < w1.heap.size := (by omega); have hz1 : w.heap.size + 1 < w1.heap.size := (by omega)))
    refine bodyPost_ret (v := .tuple #[.agg #[.int .i64 0, .int .i64 0, .int .i64 0], .bool false]) ?_ rfl ⟨rfl, ?_⟩
    · simp [results, Try.results53, go_sem, *]
    · first | (go_grown; done) | exact below_drawn (by go_grown) _
theorem cabove_u (L x y lv : Int) (w : World) : Calls Try.prog 53 #[.agg #[.int .i64 L, .int .i64 x, .int .i64 y], .int .i64 lv] w fun e w' => e = .returned (.tuple #[.agg #[.int .i64 (a0 L x y lv), .int .i64 (a1 L x y lv), .int .i64 (a2 L x y lv)], .bool (okA L x y lv)]) ∧ Below w.heap.size w w' := by
  rcases Bool.eq_false_or_eq_true (okC L x y) with h | h
  · by_cases h2 : lv < 0
    · have hk : okA L x y lv = false := by rw [okA, h, show decide (0 ≤ lv ∧ lv ≤ L) = false from decide_eq_false (by omega)]; rfl
      have := cabove_no2 L x y lv h h2 w
      simpa [a0, a1, a2, hk] using this
    · by_cases h3 : L < lv
      · have hk : okA L x y lv = false := by rw [okA, h, show decide (0 ≤ lv ∧ lv ≤ L) = false from decide_eq_false (by omega)]; rfl
        have := cabove_no3 L x y lv h h3 w
        simpa [a0, a1, a2, hk] using this
      · have hk : okA L x y lv = true := by rw [okA, h, show decide (0 ≤ lv ∧ lv ≤ L) = true from decide_eq_true (by omega)]; rfl
        have hL := ((okC_iff _ _ _).1 h).2.1
        have := cabove_yes (L - lv).toNat L x y lv h (by omega) (by omega) (by omega) (by omega) w
        simpa [a0, a1, a2, hk] using this
  · have hk : okA L x y lv = false := by rw [okA, h]; rfl
    have := cabove_no1 L x y lv h w
    simpa [a0, a1, a2, hk] using this
set_option maxHeartbeats 1000000 in
theorem cof_u (x y lv : Int) (w : World) :
    Calls Try.prog 44 #[.agg #[.int .i64 x, .int .i64 y], .int .i64 lv] w fun e w' => e = .returned (.tuple #[.agg #[.int .i64 (a0 16 x y lv), .int .i64 (a1 16 x y lv), .int .i64 (a2 16 x y lv)], .bool (okA 16 x y lv)]) ∧ Below w.heap.size w w' := by
  go_enter Try.func44, Try.ntmps44
  go_wp2_with ((go_at_call 53; refine (cabove_u _ _ _ _ _).mono ?_; rintro e w1 ⟨rfl, hb⟩; have hB : Below w.heap.size w w1 := below_trans (by go_grown) hb; have hz := hb.size; (try simp at hz); obtain ⟨hc, hf⟩ := bcell hb; have hz0 : w.heap.size < w1.heap.size := (by omega); have hz1 : w.heap.size + 1 < w1.heap.size := (by omega)))
  refine bodyPost_ret (v := .tuple #[.agg #[.int .i64 (a0 16 x y lv), .int .i64 (a1 16 x y lv), .int .i64 (a2 16 x y lv)], .bool (okA 16 x y lv)]) ?_ rfl ⟨rfl, ?_⟩
  · simp [results, Try.results44, go_sem, *]
  · first | (go_grown; done) | exact below_drawn (by go_grown) _
end Go.Proofs.Ytdbiaijpbkmfhaa
