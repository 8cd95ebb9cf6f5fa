/- The document's cells by contract (3): kin. -/
import Derived.Test.YtipfhleedfbnaaaCellRef2
import Derived.Test.YtipfhleedfbnaaaCellAbove
namespace Go.Proofs.Ytipfhleedfbnaaa
set_option linter.unusedVariables false
set_option linter.unusedSimpArgs false
open Go.RowKit
set_option maxHeartbeats 400000 in
theorem other_any (n : Int) (h0 : 0 ≤ n) (h1 : n < 65536) (w : World) :
    Calls Try.prog 56 #[.int .i64 n] w fun e w' => e = .returned (.int .i64 (oth n)) ∧ w' = w := by
  by_cases h : n % 2 = 0
  · have HO := Lib.hid (show oth n = n + 1 by rw [oth, if_pos h])
    have hd : (n % 2 == 0) = true := by simpa using h
    clear h
    go_enter Try.func56, Try.ntmps56
    go_wp2
    go_ret
    exact ⟨ret_int HO.out.symm, rfl⟩
  · have HO := Lib.hid (show oth n = n - 1 by rw [oth, if_neg h])
    have hd : (n % 2 == 0) = false := by simpa using h
    clear h
    go_enter Try.func56, Try.ntmps56
    go_wp2
    go_ret
    exact ⟨ret_int HO.out.symm, rfl⟩
set_option maxHeartbeats 1000000 in
theorem rbeside_yes (L x y : Int) (h : okC L x y = true) (hL : L ≠ 0) (w : World) :
    Calls Try.prog 36 #[.agg #[.int .i64 L, .int .i64 x, .int .i64 y]] w fun e w' => e = .returned (.tuple #[.agg #[.int .i64 L, .int .i64 (oth x), .int .i64 y], .bool true]) ∧ Below w.heap.size w w' := by
  obtain ⟨l0, l1, x0, x1, y0, y1⟩ := okC_16 L x y h
  have hne : (L == 0) = false := by simpa using hL
  clear hL
  go_enter Try.func36, Try.ntmps36
  go_wp2_with ((go_at_call 53; refine (rright_any _ _ _ _).mono ?_; rintro e w1 ⟨rfl, hb⟩; have hB : Below w.heap.size w w1 := below_trans (by go_grown) hb; have hz := hb.size; (try simp at hz); obtain ⟨hc, hf⟩ := bcell hb; have hz0 : w.heap.size < w1.heap.size := (by omega); have hz1 : w.heap.size + 1 < w1.heap.size := (by omega)))
  have k0 : w1.cell? ⟨w.heap.size, 0, none⟩ = some (.int .i64 L) := (hc _ _ (by simp; omega)).trans (by simp [go_sem])
  have k1 : w1.cell? ⟨w.heap.size, 1, none⟩ = some (.int .i64 x) := (hc _ _ (by simp; omega)).trans (by simp [go_sem])
  have k2 : w1.cell? ⟨w.heap.size, 2, none⟩ = some (.int .i64 y) := (hc _ _ (by simp; omega)).trans (by simp [go_sem])
  go_region_held3 (fun w' => w'.cell? ⟨w.heap.size, 0, none⟩ = some (.int .i64 L) ∧ w'.cell? ⟨w.heap.size, 1, none⟩ = some (.int .i64 x) ∧ w'.cell? ⟨w.heap.size, 2, none⟩ = some (.int .i64 y)) (go_keep) ((go_at_call 56; refine (other_any _ x0 x1 _).mono ?_; rintro e w9 ⟨rfl, rfl⟩))
  all_goals
    go_wp2
    refine bodyPost_ret (v := .tuple #[.agg #[.int .i64 L, .int .i64 (oth x), .int .i64 y], .bool true]) ?_ rfl ⟨rfl, ?_⟩
    · simp [results, Try.results36, go_sem, *]
    · first | (go_grown; done) | exact below_drawn (by go_grown) _
set_option maxHeartbeats 1000000 in
theorem rbeside_no1 (L x y : Int) (h : okC L x y = false) (w : World) :
    Calls Try.prog 36 #[.agg #[.int .i64 L, .int .i64 x, .int .i64 y]] w fun e w' => e = .returned (.tuple #[.agg #[.int .i64 0, .int .i64 0, .int .i64 0], .bool false]) ∧ Below w.heap.size w w' := by
  go_enter Try.func36, Try.ntmps36
  go_wp2_with ((go_at_call 53; refine (rright_any _ _ _ _).mono ?_; rintro e w1 ⟨rfl, hb⟩; have hB : Below w.heap.size w w1 := below_trans (by go_grown) hb; have hz := hb.size; (try simp at hz); obtain ⟨hc, hf⟩ := bcell hb; have hz0 : w.heap.size < w1.heap.size := (by omega); have hz1 : w.heap.size + 1 < w1.heap.size := (by omega)))
  refine bodyPost_ret (v := .tuple #[.agg #[.int .i64 0, .int .i64 0, .int .i64 0], .bool false]) ?_ rfl ⟨rfl, ?_⟩
  · simp [results, Try.results36, go_sem, *]
  · first | (go_grown; done) | exact below_drawn (by go_grown) _
set_option maxHeartbeats 1000000 in
theorem rbeside_no2 (L x y : Int) (h : okC L x y = true) (hL : L = 0) (w : World) :
    Calls Try.prog 36 #[.agg #[.int .i64 L, .int .i64 x, .int .i64 y]] w fun e w' => e = .returned (.tuple #[.agg #[.int .i64 0, .int .i64 0, .int .i64 0], .bool false]) ∧ Below w.heap.size w w' := by
  subst hL
  go_enter Try.func36, Try.ntmps36
  go_wp2_with ((go_at_call 53; refine (rright_any _ _ _ _).mono ?_; rintro e w1 ⟨rfl, hb⟩; have hB : Below w.heap.size w w1 := below_trans (by go_grown) hb; have hz := hb.size; (try simp at hz); obtain ⟨hc, hf⟩ := bcell hb; have hz0 : w.heap.size < w1.heap.size := (by omega); have hz1 : w.heap.size + 1 < w1.heap.size := (by omega)))
  refine bodyPost_ret (v := .tuple #[.agg #[.int .i64 0, .int .i64 0, .int .i64 0], .bool false]) ?_ rfl ⟨rfl, ?_⟩
  · simp [results, Try.results36, go_sem, *]
  · first | (go_grown; done) | exact below_drawn (by go_grown) _
theorem rbeside_u (L x y : Int) (w : World) : Calls Try.prog 36 #[.agg #[.int .i64 L, .int .i64 x, .int .i64 y]] w fun e w' => e = .returned (.tuple #[.agg #[.int .i64 (d0 L x y), .int .i64 (d1 L x y), .int .i64 (d2 L x y)], .bool (okB L x y)]) ∧ Below w.heap.size w w' := by
  rcases Bool.eq_false_or_eq_true (okC L x y) with h | h
  · by_cases hL : L = 0
    · have hk : okB L x y = false := by rw [okB, h, show decide (L ≠ 0) = false from decide_eq_false (by omega)]; rfl
      have := rbeside_no2 L x y h hL w
      simpa [d0, d1, d2, e1, e2, hk] using this
    · have hk : okB L x y = true := by rw [okB, h, show decide (L ≠ 0) = true from decide_eq_true (by omega)]; rfl
      have := rbeside_yes L x y h hL w
      simpa [d0, d1, d2, e1, e2, hk] using this
  · have hk : okB L x y = false := by rw [okB, h]; rfl
    have := rbeside_no1 L x y h w
    simpa [d0, d1, d2, e1, e2, hk] using this
set_option maxHeartbeats 1000000 in
theorem rover_yes (L x y : Int) (h : okC L x y = true) (hL : L ≠ 0) (w : World) :
    Calls Try.prog 37 #[.agg #[.int .i64 L, .int .i64 x, .int .i64 y]] w fun e w' => e = .returned (.tuple #[.agg #[.int .i64 L, .int .i64 x, .int .i64 (oth y)], .bool true]) ∧ Below w.heap.size w w' := by
  obtain ⟨l0, l1, x0, x1, y0, y1⟩ := okC_16 L x y h
  have hne : (L == 0) = false := by simpa using hL
  clear hL
  go_enter Try.func37, Try.ntmps37
  go_wp2_with ((go_at_call 53; refine (rright_any _ _ _ _).mono ?_; rintro e w1 ⟨rfl, hb⟩; have hB : Below w.heap.size w w1 := below_trans (by go_grown) hb; have hz := hb.size; (try simp at hz); obtain ⟨hc, hf⟩ := bcell hb; have hz0 : w.heap.size < w1.heap.size := (by omega); have hz1 : w.heap.size + 1 < w1.heap.size := (by omega)))
  have k0 : w1.cell? ⟨w.heap.size, 0, none⟩ = some (.int .i64 L) := (hc _ _ (by simp; omega)).trans (by simp [go_sem])
  have k1 : w1.cell? ⟨w.heap.size, 1, none⟩ = some (.int .i64 x) := (hc _ _ (by simp; omega)).trans (by simp [go_sem])
  have k2 : w1.cell? ⟨w.heap.size, 2, none⟩ = some (.int .i64 y) := (hc _ _ (by simp; omega)).trans (by simp [go_sem])
  go_region_held3 (fun w' => w'.cell? ⟨w.heap.size, 0, none⟩ = some (.int .i64 L) ∧ w'.cell? ⟨w.heap.size, 1, none⟩ = some (.int .i64 x) ∧ w'.cell? ⟨w.heap.size, 2, none⟩ = some (.int .i64 y)) (go_keep) ((go_at_call 56; refine (other_any _ y0 y1 _).mono ?_; rintro e w9 ⟨rfl, rfl⟩))
  all_goals
    go_wp2
    refine bodyPost_ret (v := .tuple #[.agg #[.int .i64 L, .int .i64 x, .int .i64 (oth y)], .bool true]) ?_ rfl ⟨rfl, ?_⟩
    · simp [results, Try.results37, go_sem, *]
    · first | (go_grown; done) | exact below_drawn (by go_grown) _
set_option maxHeartbeats 1000000 in
theorem rover_no1 (L x y : Int) (h : okC L x y = false) (w : World) :
    Calls Try.prog 37 #[.agg #[.int .i64 L, .int .i64 x, .int .i64 y]] w fun e w' => e = .returned (.tuple #[.agg #[.int .i64 0, .int .i64 0, .int .i64 0], .bool false]) ∧ Below w.heap.size w w' := by
  go_enter Try.func37, Try.ntmps37
  go_wp2_with ((go_at_call 53; refine (rright_any _ _ _ _).mono ?_; rintro e w1 ⟨rfl, hb⟩; have hB : Below w.heap.size w w1 := below_trans (by go_grown) hb; have hz := hb.size; (try simp at hz); obtain ⟨hc, hf⟩ := bcell hb; have hz0 : w.heap.size < w1.heap.size := (by omega); have hz1 : w.heap.size + 1 < w1.heap.size := (by omega)))
  refine bodyPost_ret (v := .tuple #[.agg #[.int .i64 0, .int .i64 0, .int .i64 0], .bool false]) ?_ rfl ⟨rfl, ?_⟩
  · simp [results, Try.results37, go_sem, *]
  · first | (go_grown; done) | exact below_drawn (by go_grown) _
set_option maxHeartbeats 1000000 in
theorem rover_no2 (L x y : Int) (h : okC L x y = true) (hL : L = 0) (w : World) :
    Calls Try.prog 37 #[.agg #[.int .i64 L, .int .i64 x, .int .i64 y]] w fun e w' => e = .returned (.tuple #[.agg #[.int .i64 0, .int .i64 0, .int .i64 0], .bool false]) ∧ Below w.heap.size w w' := by
  subst hL
  go_enter Try.func37, Try.ntmps37
  go_wp2_with ((go_at_call 53; refine (rright_any _ _ _ _).mono ?_; rintro e w1 ⟨rfl, hb⟩; have hB : Below w.heap.size w w1 := below_trans (by go_grown) hb; have hz := hb.size; (try simp at hz); obtain ⟨hc, hf⟩ := bcell hb; have hz0 : w.heap.size < w1.heap.size := (by omega); have hz1 : w.heap.size + 1 < w1.heap.size := (by omega)))
  refine bodyPost_ret (v := .tuple #[.agg #[.int .i64 0, .int .i64 0, .int .i64 0], .bool false]) ?_ rfl ⟨rfl, ?_⟩
  · simp [results, Try.results37, go_sem, *]
  · first | (go_grown; done) | exact below_drawn (by go_grown) _
theorem rover_u (L x y : Int) (w : World) : Calls Try.prog 37 #[.agg #[.int .i64 L, .int .i64 x, .int .i64 y]] w fun e w' => e = .returned (.tuple #[.agg #[.int .i64 (d0 L x y), .int .i64 (e1 L x y), .int .i64 (e2 L x y)], .bool (okB L x y)]) ∧ Below w.heap.size w w' := by
  rcases Bool.eq_false_or_eq_true (okC L x y) with h | h
  · by_cases hL : L = 0
    · have hk : okB L x y = false := by rw [okB, h, show decide (L ≠ 0) = false from decide_eq_false (by omega)]; rfl
      have := rover_no2 L x y h hL w
      simpa [d0, d1, d2, e1, e2, hk] using this
    · have hk : okB L x y = true := by rw [okB, h, show decide (L ≠ 0) = true from decide_eq_true (by omega)]; rfl
      have := rover_yes L x y h hL w
      simpa [d0, d1, d2, e1, e2, hk] using this
  · have hk : okB L x y = false := by rw [okB, h]; rfl
    have := rover_no1 L x y h w
    simpa [d0, d1, d2, e1, e2, hk] using this
end Go.Proofs.Ytipfhleedfbnaaa
