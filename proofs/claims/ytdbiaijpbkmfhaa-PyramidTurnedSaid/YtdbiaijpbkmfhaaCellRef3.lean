/- The document's cells by contract (3): kin. -/
import Derived.Test.YtdbiaijpbkmfhaaCellRef2
import Derived.Test.YtdbiaijpbkmfhaaCellAbove
namespace Go.Proofs.Ytdbiaijpbkmfhaa
set_option linter.unusedVariables false
set_option linter.unusedSimpArgs false
open Go.RowKit
set_option maxHeartbeats 1000000 in
theorem rchild_yes (L x y i : Int) (h : okC L x y = true) (hL : L ≠ 16) (h0 : 0 ≤ i) (h3 : i ≤ 3) (w : World) :
    Calls Try.prog 27 #[.agg #[.int .i64 L, .int .i64 x, .int .i64 y], .int .i64 i] w fun e w' => e = .returned (.tuple #[.agg #[.int .i64 (L + 1), .int .i64 (2 * x + i % 2), .int .i64 (2 * y + i / 2)], .bool true]) ∧ Below w.heap.size w w' := by
  obtain ⟨l0, l1, x0, x1, y0, y1⟩ := okC_16 L x y h
  have hne : (L == 16) = false := by simpa using hL
  have hge : ¬ (3 < i) := by omega
  clear hL
  go_enter Try.func27, Try.ntmps27
  go_wp2_with ((go_at_call 26; refine (rright_any _ _ _ _).mono ?_; rintro e w1 ⟨rfl, hb⟩; have hB : Below w.heap.size w w1 := below_trans (by go_grown) hb; have hz := hb.size; (try simp at hz); obtain ⟨hc, hf⟩ := bcell hb; have hz0 : w.heap.size < w1.heap.size := (by omega); have hz1 : w.heap.size + 1 < w1.heap.size := (by omega)))
  first | (go_quiet (fail); go_wp2) | skip
  refine bodyPost_ret (v := .tuple #[.agg #[.int .i64 (L + 1), .int .i64 (2 * x + i % 2), .int .i64 (2 * y + i / 2)], .bool true]) ?_ rfl ⟨rfl, ?_⟩
  · simp [results, Try.results27, go_sem, *]
  · first | (go_grown; done) | exact below_drawn (by go_grown) _
set_option maxHeartbeats 1000000 in
theorem rchild_no1 (L x y i : Int) (h : okC L x y = false) (w : World) :
    Calls Try.prog 27 #[.agg #[.int .i64 L, .int .i64 x, .int .i64 y], .int .i64 i] w fun e w' => e = .returned (.tuple #[.agg #[.int .i64 0, .int .i64 0, .int .i64 0], .bool false]) ∧ Below w.heap.size w w' := by
  go_enter Try.func27, Try.ntmps27
  go_wp2_with ((go_at_call 26; refine (rright_any _ _ _ _).mono ?_; rintro e w1 ⟨rfl, hb⟩; have hB : Below w.heap.size w w1 := below_trans (by go_grown) hb; have hz := hb.size; (try simp at hz); obtain ⟨hc, hf⟩ := bcell hb; have hz0 : w.heap.size < w1.heap.size := (by omega); have hz1 : w.heap.size + 1 < w1.heap.size := (by omega)))
  refine bodyPost_ret (v := .tuple #[.agg #[.int .i64 0, .int .i64 0, .int .i64 0], .bool false]) ?_ rfl ⟨rfl, ?_⟩
  · simp [results, Try.results27, go_sem, *]
  · first | (go_grown; done) | exact below_drawn (by go_grown) _
set_option maxHeartbeats 1000000 in
theorem rchild_no2 (L x y i : Int) (h : okC L x y = true) (hL : L = 16) (w : World) :
    Calls Try.prog 27 #[.agg #[.int .i64 L, .int .i64 x, .int .i64 y], .int .i64 i] w fun e w' => e = .returned (.tuple #[.agg #[.int .i64 0, .int .i64 0, .int .i64 0], .bool false]) ∧ Below w.heap.size w w' := by
  subst hL
  go_enter Try.func27, Try.ntmps27
  go_wp2_with ((go_at_call 26; refine (rright_any _ _ _ _).mono ?_; rintro e w1 ⟨rfl, hb⟩; have hB : Below w.heap.size w w1 := below_trans (by go_grown) hb; have hz := hb.size; (try simp at hz); obtain ⟨hc, hf⟩ := bcell hb; have hz0 : w.heap.size < w1.heap.size := (by omega); have hz1 : w.heap.size + 1 < w1.heap.size := (by omega)))
  refine bodyPost_ret (v := .tuple #[.agg #[.int .i64 0, .int .i64 0, .int .i64 0], .bool false]) ?_ rfl ⟨rfl, ?_⟩
  · simp [results, Try.results27, go_sem, *]
  · first | (go_grown; done) | exact below_drawn (by go_grown) _
set_option maxHeartbeats 1000000 in
theorem rchild_no3 (L x y i : Int) (h : okC L x y = true) (hL : L ≠ 16) (h0 : i < 0) (w : World) :
    Calls Try.prog 27 #[.agg #[.int .i64 L, .int .i64 x, .int .i64 y], .int .i64 i] w fun e w' => e = .returned (.tuple #[.agg #[.int .i64 0, .int .i64 0, .int .i64 0], .bool false]) ∧ Below w.heap.size w w' := by
  have hne : (L == 16) = false := by simpa using hL
  clear hL
  go_enter Try.func27, Try.ntmps27
  go_wp2_with ((go_at_call 26; refine (rright_any _ _ _ _).mono ?_; rintro e w1 ⟨rfl, hb⟩; have hB : Below w.heap.size w w1 := below_trans (by go_grown) hb; have hz := hb.size; (try simp at hz); obtain ⟨hc, hf⟩ := bcell hb; have hz0 : w.heap.size < w1.heap.size := (by omega); have hz1 : w.heap.size + 1 < w1.heap.size := (by omega)))
  refine bodyPost_ret (v := .tuple #[.agg #[.int .i64 0, .int .i64 0, .int .i64 0], .bool false]) ?_ rfl ⟨rfl, ?_⟩
  · simp [results, Try.results27, go_sem, *]
  · first | (go_grown; done) | exact below_drawn (by go_grown) _
set_option maxHeartbeats 1000000 in
theorem rchild_no4 (L x y i : Int) (h : okC L x y = true) (hL : L ≠ 16) (h0 : 0 ≤ i) (h3 : 3 < i) (w : World) :
    Calls Try.prog 27 #[.agg #[.int .i64 L, .int .i64 x, .int .i64 y], .int .i64 i] w fun e w' => e = .returned (.tuple #[.agg #[.int .i64 0, .int .i64 0, .int .i64 0], .bool false]) ∧ Below w.heap.size w w' := by
  have hne : (L == 16) = false := by simpa using hL
  clear hL
  go_enter Try.func27, Try.ntmps27
  go_wp2_with ((go_at_call 26; refine (rright_any _ _ _ _).mono ?_; rintro e w1 ⟨rfl, hb⟩; have hB : Below w.heap.size w w1 := below_trans (by go_grown) hb; have hz := hb.size; (try simp at hz); obtain ⟨hc, hf⟩ := bcell hb; have hz0 : w.heap.size < w1.heap.size := (by omega); have hz1 : w.heap.size + 1 < w1.heap.size := (by omega)))
  refine bodyPost_ret (v := .tuple #[.agg #[.int .i64 0, .int .i64 0, .int .i64 0], .bool false]) ?_ rfl ⟨rfl, ?_⟩
  · simp [results, Try.results27, go_sem, *]
  · first | (go_grown; done) | exact below_drawn (by go_grown) _
theorem rchild_u (L x y i : Int) (w : World) : Calls Try.prog 27 #[.agg #[.int .i64 L, .int .i64 x, .int .i64 y], .int .i64 i] w fun e w' => e = .returned (.tuple #[.agg #[.int .i64 (c0 L x y i), .int .i64 (c1 L x y i), .int .i64 (c2 L x y i)], .bool (okK L x y i)]) ∧ Below w.heap.size w w' := by
  rcases Bool.eq_false_or_eq_true (okC L x y) with h | h
  · by_cases hL : L = 16
    · have hk : okK L x y i = false := by rw [okK, h, show decide (L ≠ 16 ∧ 0 ≤ i ∧ i ≤ 3) = false from decide_eq_false (by omega)]; rfl
      have := rchild_no2 L x y i h hL w
      simpa [c0, c1, c2, hk] using this
    · by_cases h0 : i < 0
      · have hk : okK L x y i = false := by rw [okK, h, show decide (L ≠ 16 ∧ 0 ≤ i ∧ i ≤ 3) = false from decide_eq_false (by omega)]; rfl
        have := rchild_no3 L x y i h hL h0 w
        simpa [c0, c1, c2, hk] using this
      · by_cases h3 : 3 < i
        · have hk : okK L x y i = false := by rw [okK, h, show decide (L ≠ 16 ∧ 0 ≤ i ∧ i ≤ 3) = false from decide_eq_false (by omega)]; rfl
          have := rchild_no4 L x y i h hL (by omega) h3 w
          simpa [c0, c1, c2, hk] using this
        · have hk : okK L x y i = true := by rw [okK, h, show decide (L ≠ 16 ∧ 0 ≤ i ∧ i ≤ 3) = true from decide_eq_true (by omega)]; rfl
          have := rchild_yes L x y i h hL (by omega) (by omega) w
          simpa [c0, c1, c2, hk] using this
  · have hk : okK L x y i = false := by rw [okK, h]; rfl
    have := rchild_no1 L x y i h w
    simpa [c0, c1, c2, hk] using this
end Go.Proofs.Ytdbiaijpbkmfhaa
