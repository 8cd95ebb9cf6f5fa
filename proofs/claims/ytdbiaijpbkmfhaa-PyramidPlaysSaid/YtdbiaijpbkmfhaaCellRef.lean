/- The document's cells by contract. -/
import Derived.Test.YtdbiaijpbkmfhaaCellKid
import Derived.Test.YtdbiaijpbkmfhaaGeomFar
import Derived.Test.YtdbiaijpbkmfhaaGeomRef
import Derived.StillTailTactics
namespace Go.Proofs.Ytdbiaijpbkmfhaa
set_option linter.unusedVariables false
set_option linter.unusedSimpArgs false
open Go.RowKit
set_option maxHeartbeats 400000 in
theorem two_any (n : Nat) (hn : n ≤ 16) (w : World) :
    Calls Try.prog 42 #[.int .i64 (n : Int)] w fun e w' => e = .returned (.int .i64 (2 ^ n)) ∧ w' = w := by
  have hp := pow_le16 n hn
  go_enter Try.func42, Try.ntmps42
  go_wp2
  go_loop [3, 4] (fun p i => ∃ k : Nat, k ≤ n ∧ i = .int .i64 k ∧ p = .int .i64 (2 ^ k)) (fun _ i => n - (intOf i).toNat)
  case atStart => exact ⟨0, Nat.zero_le _, rfl, rfl⟩
  case round =>
    obtain ⟨k, hk, rfl, rfl⟩ := hrel
    have pk := pow_le16 k (by omega)
    have p0 := pow_pos' k
    have HS : Hid ((2 : Int) * 2 ^ k = 2 ^ (k + 1)) := by rw [Int.pow_succ, Int.mul_comm]; rfl
    by_cases hlt : k < n
    · generalize hq : (2 : Int) ^ k = q at pk p0
      rw [hq] at HS
      clear hq
      go_wp2
      go_round
      case rel => exact ⟨k + 1, by omega, by go_num, by rw [HS.out]⟩
      case measure => simp [intOf]; omega
    · obtain rfl : k = n := by omega
      go_wp2
      go_ret
      exact ⟨rfl, rfl⟩
set_option maxHeartbeats 400000 in
theorem side_any (l : Nat) (hl : l ≤ 16) (w : World) :
    Calls Try.prog 47 #[.int .i64 (l : Int)] w fun e w' => e = .returned (.int .i64 (2 ^ (16 - l))) ∧ w' = w := by
  have he : (16 : Int) - l = ((16 - l : Nat) : Int) := by omega
  go_enter Try.func47, Try.ntmps47
  go_wp2_with fail
  refine (two_any _ (by omega) _).mono ?_
  rintro e w1 ⟨rfl, rfl⟩
  go_wp2
  go_ret
  exact ⟨rfl, rfl⟩
set_option maxHeartbeats 400000 in
theorem rlevel_any (L : Int) (w : World) :
    Calls Try.prog 40 #[.int .i64 L] w fun e w' => e = .returned (.bool (levB L)) ∧ w = w' := by
  go_enter Try.func40, Try.ntmps40
  go_wp2
  all_goals
    go_ret
    refine ⟨ret_bool ?_, rfl⟩
    rw [Bool.eq_iff_iff]; simp only [levB_iff, decide_eq_true_eq, Bool.false_eq_true, false_iff, true_iff, iff_true, Bool.not_eq_true] at *; omega
set_option maxHeartbeats 1000000 in
theorem rright_at (l : Nat) (x y : Int) (hl : l ≤ 16) (w : World) :
    Calls Try.prog 26 #[.agg #[.int .i64 (l : Int), .int .i64 x, .int .i64 y]] w fun e w' => e = .returned (.bool (okC (l : Int) x y)) ∧ Below w.heap.size w w' := by
  have ho := okC_iff (l : Int) x y
  simp only [Int.toNat_natCast] at ho
  have hlv : levB (l : Int) = true := (levB_iff _).2 (by omega)
  generalize hp : (2 : Int) ^ l = p at ho
  have HO := Lib.hid ho
  clear ho
  by_cases hx0 : 0 ≤ x
  · have dx0 : decide (0 ≤ x) = true := by simpa using hx0
    by_cases hy0 : 0 ≤ y
    · have dy0 : decide (0 ≤ y) = true := by simpa using hy0
      by_cases hx1 : x < p
      · have dx1 : decide (x < p) = true := by simpa using hx1
        go_enter Try.func26, Try.ntmps26
        go_wp2_with fail
        go_quiet ((first | (go_at_call 40; exact Calls.quiet_of_same ((rlevel_any _ _).mono fun _ _ h => ⟨h.1, h.2.symm⟩)) | (go_at_call 42; exact Calls.quiet_of_same (two_any _ hl _))))
        go_wp2
        all_goals
          go_ret
          refine ⟨ret_bool ?_, by first | (go_grown; done) | exact below_drawn (by go_grown) _⟩
          have ho := HO.out
          rw [Bool.eq_iff_iff, ho]; simp only [decide_eq_true_eq]; omega
      · have dx1 : decide (x < p) = false := by simpa using hx1
        go_enter Try.func26, Try.ntmps26
        go_wp2_with fail
        go_quiet ((first | (go_at_call 40; exact Calls.quiet_of_same ((rlevel_any _ _).mono fun _ _ h => ⟨h.1, h.2.symm⟩)) | (go_at_call 42; exact Calls.quiet_of_same (two_any _ hl _))))
        go_wp2
        all_goals
          go_ret
          refine ⟨ret_bool ?_, by first | (go_grown; done) | exact below_drawn (by go_grown) _⟩
          have ho := HO.out
          symm; rw [Bool.eq_false_iff, ne_eq, ho]; omega
    · have dy0 : decide (0 ≤ y) = false := by simpa using hy0
      go_enter Try.func26, Try.ntmps26
      go_wp2_with fail
      go_quiet ((first | (go_at_call 40; exact Calls.quiet_of_same ((rlevel_any _ _).mono fun _ _ h => ⟨h.1, h.2.symm⟩)) | (go_at_call 42; exact Calls.quiet_of_same (two_any _ hl _))))
      go_wp2
      all_goals
        go_ret
        refine ⟨ret_bool ?_, by first | (go_grown; done) | exact below_drawn (by go_grown) _⟩
        have ho := HO.out
        symm; rw [Bool.eq_false_iff, ne_eq, ho]; omega
  · have dx0 : decide (0 ≤ x) = false := by simpa using hx0
    go_enter Try.func26, Try.ntmps26
    go_wp2_with fail
    go_quiet ((first | (go_at_call 40; exact Calls.quiet_of_same ((rlevel_any _ _).mono fun _ _ h => ⟨h.1, h.2.symm⟩)) | (go_at_call 42; exact Calls.quiet_of_same (two_any _ hl _))))
    go_wp2
    all_goals
      go_ret
      refine ⟨ret_bool ?_, by first | (go_grown; done) | exact below_drawn (by go_grown) _⟩
      have ho := HO.out
      symm; rw [Bool.eq_false_iff, ne_eq, ho]; omega
set_option maxHeartbeats 1000000 in
theorem rright_off (L x y : Int) (h : levB L = false) (w : World) :
    Calls Try.prog 26 #[.agg #[.int .i64 L, .int .i64 x, .int .i64 y]] w fun e w' => e = .returned (.bool (okC L x y)) ∧ Below w.heap.size w w' := by
  have HN := Lib.hid (okC_no L x y h)
  go_enter Try.func26, Try.ntmps26
  go_wp2_with fail
  go_quiet ((first | (go_at_call 40; exact Calls.quiet_of_same ((rlevel_any _ _).mono fun _ _ h => ⟨h.1, h.2.symm⟩)) | (go_at_call 42; exact Calls.quiet_of_same (two_any _ (by omega) _))))
  go_wp2
  go_ret
  exact ⟨ret_bool HN.out.symm, by first | (go_grown; done) | exact below_drawn (by go_grown) _⟩
theorem rright_any (L x y : Int) (w : World) : Calls Try.prog 26 #[.agg #[.int .i64 L, .int .i64 x, .int .i64 y]] w fun e w' => e = .returned (.bool (okC L x y)) ∧ Below w.heap.size w w' := by
  rcases Bool.eq_false_or_eq_true (levB L) with h | h
  · obtain ⟨l, hl, rfl⟩ := lev L ((levB_iff L).1 h).1 ((levB_iff L).1 h).2
    exact rright_at l x y hl w
  · exact rright_off L x y h w
end Go.Proofs.Ytdbiaijpbkmfhaa
