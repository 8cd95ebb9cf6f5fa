/- The document's cells by contract (2). -/
import Derived.Test.YtdbiaijpbkmfhaaCellRef
namespace Go.Proofs.Ytdbiaijpbkmfhaa
set_option linter.unusedVariables false
set_option linter.unusedSimpArgs false
open Go.RowKit
theorem wrap_tdiv (x q : Int) (h0 : 0 ≤ x) (h1 : x ≤ 4294967296) (hq : 0 < q) : IntKind.i64.wrap (x.tdiv q) = x / q := by
  rw [Int.tdiv_eq_ediv_of_nonneg h0]
  have h2 : 0 ≤ x / q := Int.ediv_nonneg h0 (by omega)
  have h3 : x / q ≤ x := Int.ediv_le_self _ h0
  exact IntWalk.i64_in _ (by omega)
set_option maxHeartbeats 1000000 in
theorem rof_yes (l : Nat) (x y q : Int) (hl : l ≤ 16) (h : fitsB x y = true) (hq : (2 : Int) ^ (16 - l) = q) (w : World) :
    Calls Try.prog 41 #[.agg #[.int .i64 x, .int .i64 y], .int .i64 (l : Int)] w fun e w' => e = .returned (.tuple #[.agg #[.int .i64 (l : Int), .int .i64 (x / q), .int .i64 (y / q)], .bool true]) ∧ Below w.heap.size w w' := by
  obtain ⟨x0, x1, y0, y1⟩ := (fitsB_iff _ _).1 h
  have hlv : levB (l : Int) = true := (levB_iff _).2 (by omega)
  have q0 := pow_pos' (16 - l)
  rw [hq] at q0
  have hside := fun w => side_any l hl w
  rw [hq] at hside
  have hside := Lib.hid hside
  clear hq
  go_enter Try.func41, Try.ntmps41
  go_wp2_with (first | (go_at_call 40; refine (rlevel_any _ _).mono ?_; rintro e w1 ⟨rfl, rfl⟩) | (go_at_call 11; refine (ref_fits _ _ _).mono ?_; rintro e w1 ⟨rfl, hb⟩; have hB : Below w.heap.size w w1 := below_trans (by go_grown) hb; have hz := hb.size; (try simp at hz); obtain ⟨hc, hf⟩ := bcell hb; have hz0 : w.heap.size < w1.heap.size := (by omega); have hz1 : w.heap.size + 1 < w1.heap.size := (by omega)))
  have k0 : w1.cell? ⟨w.heap.size, 0, none⟩ = some (.int .i64 x) := (hc _ _ (by simp; omega)).trans (by simp [go_sem])
  have k1 : w1.cell? ⟨w.heap.size, 1, none⟩ = some (.int .i64 y) := (hc _ _ (by simp; omega)).trans (by simp [go_sem])
  obtain ⟨hq0, wx, wy⟩ : ¬ q = 0 ∧ IntKind.i64.wrap (x.tdiv q) = x / q ∧ IntKind.i64.wrap (y.tdiv q) = y / q := ⟨by omega, wrap_tdiv x q x0 (by omega) q0, wrap_tdiv y q y0 (by omega) q0⟩
  go_region_held3 (fun w' => w'.cell? ⟨w.heap.size, 0, none⟩ = some (.int .i64 x) ∧ w'.cell? ⟨w.heap.size, 1, none⟩ = some (.int .i64 y)) (go_keep) ((go_at_call 47; refine (hside.out _).mono ?_; rintro e w9 ⟨rfl, rfl⟩))
  all_goals
    go_wp2
    refine bodyPost_ret (v := .tuple #[.agg #[.int .i64 (l : Int), .int .i64 (x / q), .int .i64 (y / q)], .bool true]) ?_ rfl ⟨rfl, ?_⟩
    · simp [results, Try.results41, go_sem, *]
    · first | (go_grown; done) | exact below_drawn (by go_grown) _
set_option maxHeartbeats 1000000 in
theorem rof_no1 (x y lv : Int) (h : levB lv = false) (w : World) :
    Calls Try.prog 41 #[.agg #[.int .i64 x, .int .i64 y], .int .i64 lv] w fun e w' => e = .returned (.tuple #[.agg #[.int .i64 0, .int .i64 0, .int .i64 0], .bool false]) ∧ Below w.heap.size w w' := by
  go_enter Try.func41, Try.ntmps41
  go_wp2_with (first | (go_at_call 40; refine (rlevel_any _ _).mono ?_; rintro e w1 ⟨rfl, rfl⟩) | (go_at_call 11; refine (ref_fits _ _ _).mono ?_; rintro e w1 ⟨rfl, hb⟩; have hB : Below w.heap.size w w1 := below_trans (by go_grown) hb; have hz := hb.size; (try simp at hz); obtain ⟨hc, hf⟩ := bcell hb; have hz0 : w.heap.size < w1.heap.size := (by omega); have hz1 : w.heap.size + 1 < w1.heap.size := (by omega)))
  refine bodyPost_ret (v := .tuple #[.agg #[.int .i64 0, .int .i64 0, .int .i64 0], .bool false]) ?_ rfl ⟨rfl, ?_⟩
  · simp [results, Try.results41, go_sem, *]
  · first | (go_grown; done) | exact below_drawn (by go_grown) _
set_option maxHeartbeats 1000000 in
theorem rof_no2 (x y lv : Int) (h : levB lv = true) (h2 : fitsB x y = false) (w : World) :
    Calls Try.prog 41 #[.agg #[.int .i64 x, .int .i64 y], .int .i64 lv] w fun e w' => e = .returned (.tuple #[.agg #[.int .i64 0, .int .i64 0, .int .i64 0], .bool false]) ∧ Below w.heap.size w w' := by
  go_enter Try.func41, Try.ntmps41
  go_wp2_with (first | (go_at_call 40; refine (rlevel_any _ _).mono ?_; rintro e w1 ⟨rfl, rfl⟩) | (go_at_call 11; refine (ref_fits _ _ _).mono ?_; rintro e w1 ⟨rfl, hb⟩; have hB : Below w.heap.size w w1 := below_trans (by go_grown) hb; have hz := hb.size; (try simp at hz); obtain ⟨hc, hf⟩ := bcell hb; have hz0 : w.heap.size < w1.heap.size := (by omega); have hz1 : w.heap.size + 1 < w1.heap.size := (by omega)))
  refine bodyPost_ret (v := .tuple #[.agg #[.int .i64 0, .int .i64 0, .int .i64 0], .bool false]) ?_ rfl ⟨rfl, ?_⟩
  · simp [results, Try.results41, go_sem, *]
  · first | (go_grown; done) | exact below_drawn (by go_grown) _
theorem fits_okC (x y : Int) : fitsB x y = okC 16 x y := by
  rw [Bool.eq_iff_iff, fitsB_iff, okC_iff]; simp; omega
theorem okA_of (x y lv : Int) : okA 16 x y lv = (levB lv && fitsB x y) := by
  rw [okA, fits_okC, levB, Bool.and_comm]
theorem rof_u (x y lv : Int) (w : World) : Calls Try.prog 41 #[.agg #[.int .i64 x, .int .i64 y], .int .i64 lv] w fun e w' => e = .returned (.tuple #[.agg #[.int .i64 (a0 16 x y lv), .int .i64 (a1 16 x y lv), .int .i64 (a2 16 x y lv)], .bool (okA 16 x y lv)]) ∧ Below w.heap.size w w' := by
  have hk := okA_of x y lv
  rcases Bool.eq_false_or_eq_true (levB lv) with h | h
  · rcases Bool.eq_false_or_eq_true (fitsB x y) with h2 | h2
    · obtain ⟨l, hl, rfl⟩ := lev lv ((levB_iff _).1 h).1 ((levB_iff _).1 h).2
      rw [h, h2] at hk
      have := rof_yes l x y _ hl h2 rfl w
      have e : ((16 : Int) - l).toNat = 16 - l := by omega
      simpa [a0, a1, a2, hk, e] using this
    · rw [h, h2] at hk
      have := rof_no2 x y lv h h2 w
      simpa [a0, a1, a2, hk] using this
  · rw [h] at hk
    have := rof_no1 x y lv h w
    simpa [a0, a1, a2, hk] using this
set_option maxHeartbeats 1000000 in
theorem rbox_yes (l : Nat) (x y s : Int) (hl : l ≤ 16) (h : okC (l : Int) x y = true) (hs : (2 : Int) ^ (16 - l) = s) (w : World) :
    Calls Try.prog 35 #[.agg #[.int .i64 (l : Int), .int .i64 x, .int .i64 y]] w fun e w' => e = .returned (.tuple #[.agg #[.int .i64 (x * s), .int .i64 (y * s), .int .i64 (x * s + s - 1), .int .i64 (y * s + s - 1)], .bool true]) ∧ Below w.heap.size w w' := by
  obtain ⟨_, _, hx0, hx1, hy0, hy1⟩ := (okC_iff _ _ _).1 h
  simp only [Int.toNat_natCast] at hx1 hy1
  have bx := side_bd l hl x hx0 hx1
  have hby := side_bd l hl y hy0 hy1
  have sp := pow_pos' (16 - l)
  have sl := pow_le16 (16 - l) (by omega)
  have hside := fun w => side_any l hl w
  rw [hs] at bx hby sp sl hside
  have hside := Lib.hid hside
  clear hs hx1 hy1
  rw [Int.mul_comm x s] at bx ⊢
  rw [Int.mul_comm y s] at hby ⊢
  obtain ⟨bx0, bx1⟩ := bx
  obtain ⟨by0, by1⟩ := hby
  have px : s * x ≤ 65536 := by omega
  have py : s * y ≤ 65536 := by omega
  go_enter Try.func35, Try.ntmps35
  go_wp2_with (first | (go_at_call 26; refine (rright_any _ _ _ _).mono ?_; rintro e w1 ⟨rfl, hb⟩; have hB : Below w.heap.size w w1 := below_trans (by go_grown) hb; have hz := hb.size; (try simp at hz); obtain ⟨hc, hf⟩ := bcell hb; have hz0 : w.heap.size < w1.heap.size := (by omega); have hz1 : w.heap.size + 1 < w1.heap.size := (by omega)) | (go_at_call 47; refine (hside.out _).mono ?_; rintro e w2 ⟨rfl, rfl⟩))
  first | (go_region_held3 (fun w' => True) (go_keep) (fail); go_wp2) | skip
  refine bodyPost_ret (v := .tuple #[.agg #[.int .i64 (s * x), .int .i64 (s * y), .int .i64 (s * x + s - 1), .int .i64 (s * y + s - 1)], .bool true]) ?_ rfl ⟨rfl, ?_⟩
  · simp [results, Try.results35, go_sem, *]
  · first | (go_grown; done) | exact below_drawn (by go_grown) _
set_option maxHeartbeats 1000000 in
theorem rbox_no (L x y : Int) (h : okC L x y = false) (w : World) :
    Calls Try.prog 35 #[.agg #[.int .i64 L, .int .i64 x, .int .i64 y]] w fun e w' => e = .returned (.tuple #[.agg #[.int .i64 0, .int .i64 0, .int .i64 0, .int .i64 0], .bool false]) ∧ Below w.heap.size w w' := by
  go_enter Try.func35, Try.ntmps35
  go_wp2_with ((go_at_call 26; refine (rright_any _ _ _ _).mono ?_; rintro e w1 ⟨rfl, hb⟩; have hB : Below w.heap.size w w1 := below_trans (by go_grown) hb; have hz := hb.size; (try simp at hz); obtain ⟨hc, hf⟩ := bcell hb; have hz0 : w.heap.size < w1.heap.size := (by omega); have hz1 : w.heap.size + 1 < w1.heap.size := (by omega)))
  refine bodyPost_ret (v := .tuple #[.agg #[.int .i64 0, .int .i64 0, .int .i64 0, .int .i64 0], .bool false]) ?_ rfl ⟨rfl, ?_⟩
  · simp [results, Try.results35, go_sem, *]
  · first | (go_grown; done) | exact below_drawn (by go_grown) _
theorem rbox_u (L x y : Int) (w : World) : Calls Try.prog 35 #[.agg #[.int .i64 L, .int .i64 x, .int .i64 y]] w fun e w' => e = .returned (.tuple #[.agg #[.int .i64 (b0 L x y), .int .i64 (b1 L x y), .int .i64 (b2 L x y), .int .i64 (b3 L x y)], .bool (okC L x y)]) ∧ Below w.heap.size w w' := by
  rcases Bool.eq_false_or_eq_true (okC L x y) with h | h
  · obtain ⟨l, hl, rfl⟩ := lev L ((okC_iff _ _ _).1 h).1 ((okC_iff _ _ _).1 h).2.1
    have := rbox_yes l x y _ hl h rfl w
    simpa [b0, b1, b2, b3, h, sideI_nat l hl] using this
  · have := rbox_no L x y h w
    simpa [b0, b1, b2, b3, h] using this
end Go.Proofs.Ytdbiaijpbkmfhaa
