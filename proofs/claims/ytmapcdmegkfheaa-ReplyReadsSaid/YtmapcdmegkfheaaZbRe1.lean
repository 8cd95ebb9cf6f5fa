/- reply: how long an answer is, by contract. -/
import Derived.Test.YtmapcdmegkfheaaZbRe0
import Derived.Test.YtmapcdmegkfheaaZbSame
import Derived.Test.YtmapcdmegkfheaaZbGeom
namespace Go.Proofs.Ytmapcdmegkfheaa
set_option linter.unusedVariables false
set_option linter.unusedSimpArgs false
open Go.RowKit
def onceN : Nat → Nat
  | 4 => 8
  | 5 => 8
  | 10 => 8
  | 12 => 5
  | _ => 0
def eachN : Nat → Nat
  | 13 => 11
  | 14 => 11
  | 15 => 11
  | 16 => 11
  | 17 => 8
  | 18 => 8
  | _ => 0
def withinB (n a b : Int) : Bool := decide (a ≤ n ∧ n ≤ b)
/-- There are an operation and a bound. -/
def opB (op : Int) : Bool := decide (1 ≤ op ∧ op ≤ 19)
def mB (m : Int) : Bool := decide (0 ≤ m ∧ m ≤ 64)
def lenN (op m : Int) : Int := if opB op = true ∧ mB m = true then 3 + (onceN op.toNat : Int) + m * (eachN op.toNat : Int) else 3
set_option maxHeartbeats 2000000 in
theorem within_any (n a b : Int) (w : World) : Calls Try.prog 26 #[.int .i64 n, .int .i64 a, .int .i64 b] w fun e w' => e = .returned (.bool (withinB n a b)) ∧ w = w' := by
  unfold withinB
  by_cases h1 : a ≤ n
  · by_cases h2 : n ≤ b
    · rw [decide_eq_true ⟨h1, h2⟩]
      go_enter Try.func26, Try.ntmps26
      go_wp2
      go_ret
      exact ⟨rfl, rfl⟩
    · rw [decide_eq_false (fun h => h2 h.2)]
      have h3 : b < n := by omega
      go_enter Try.func26, Try.ntmps26
      go_wp2
      go_ret
      exact ⟨ret_bool (by simp), rfl⟩
  · rw [decide_eq_false (fun h => h1 h.1)]
    go_enter Try.func26, Try.ntmps26
    go_wp2
    go_ret
    exact ⟨rfl, rfl⟩
set_option maxHeartbeats 2000000 in
theorem rthere_any (op : Int) (w : World) : Calls Try.prog 22 #[.int .i64 op] w fun e w' => e = .returned (.bool (opB op)) ∧ w = w' := by
  have HC := Lib.hid (within_any op 1 19 w)
  go_enter Try.func22, Try.ntmps22
  go_wp2_with fail
  refine HC.out.mono ?_
  rintro e w1 ⟨rfl, hw1⟩
  subst hw1
  go_wp2_with fail
  go_ret
  exact ⟨rfl, rfl⟩
set_option maxHeartbeats 2000000 in
theorem bound_any (m : Int) (w : World) : Calls Try.prog 23 #[.int .i64 m] w fun e w' => e = .returned (.bool (mB m)) ∧ w = w' := by
  have HC := Lib.hid (within_any m 0 64 w)
  go_enter Try.func23, Try.ntmps23
  go_wp2_with fail
  refine HC.out.mono ?_
  rintro e w1 ⟨rfl, hw1⟩
  subst hw1
  go_wp2_with fail
  go_ret
  exact ⟨rfl, rfl⟩
theorem parts_1 (w : World) : Calls Try.prog 24 #[.int .i64 1] w fun e w' => e = .returned (.tuple #[.int .i64 (onceN 1 : Int), .int .i64 (eachN 1 : Int)]) ∧ w = w' := by
  go_enter Try.func24, Try.ntmps24
  go_wp2
  go_ret2
  exact ⟨rfl, rfl⟩
theorem parts_2 (w : World) : Calls Try.prog 24 #[.int .i64 2] w fun e w' => e = .returned (.tuple #[.int .i64 (onceN 2 : Int), .int .i64 (eachN 2 : Int)]) ∧ w = w' := by
  go_enter Try.func24, Try.ntmps24
  go_wp2
  go_ret2
  exact ⟨rfl, rfl⟩
theorem parts_3 (w : World) : Calls Try.prog 24 #[.int .i64 3] w fun e w' => e = .returned (.tuple #[.int .i64 (onceN 3 : Int), .int .i64 (eachN 3 : Int)]) ∧ w = w' := by
  go_enter Try.func24, Try.ntmps24
  go_wp2
  go_ret2
  exact ⟨rfl, rfl⟩
theorem parts_4 (w : World) : Calls Try.prog 24 #[.int .i64 4] w fun e w' => e = .returned (.tuple #[.int .i64 (onceN 4 : Int), .int .i64 (eachN 4 : Int)]) ∧ w = w' := by
  go_enter Try.func24, Try.ntmps24
  go_wp2
  go_ret2
  exact ⟨rfl, rfl⟩
theorem parts_5 (w : World) : Calls Try.prog 24 #[.int .i64 5] w fun e w' => e = .returned (.tuple #[.int .i64 (onceN 5 : Int), .int .i64 (eachN 5 : Int)]) ∧ w = w' := by
  go_enter Try.func24, Try.ntmps24
  go_wp2
  go_ret2
  exact ⟨rfl, rfl⟩
theorem parts_6 (w : World) : Calls Try.prog 24 #[.int .i64 6] w fun e w' => e = .returned (.tuple #[.int .i64 (onceN 6 : Int), .int .i64 (eachN 6 : Int)]) ∧ w = w' := by
  go_enter Try.func24, Try.ntmps24
  go_wp2
  go_ret2
  exact ⟨rfl, rfl⟩
theorem parts_7 (w : World) : Calls Try.prog 24 #[.int .i64 7] w fun e w' => e = .returned (.tuple #[.int .i64 (onceN 7 : Int), .int .i64 (eachN 7 : Int)]) ∧ w = w' := by
  go_enter Try.func24, Try.ntmps24
  go_wp2
  go_ret2
  exact ⟨rfl, rfl⟩
theorem parts_8 (w : World) : Calls Try.prog 24 #[.int .i64 8] w fun e w' => e = .returned (.tuple #[.int .i64 (onceN 8 : Int), .int .i64 (eachN 8 : Int)]) ∧ w = w' := by
  go_enter Try.func24, Try.ntmps24
  go_wp2
  go_ret2
  exact ⟨rfl, rfl⟩
theorem parts_9 (w : World) : Calls Try.prog 24 #[.int .i64 9] w fun e w' => e = .returned (.tuple #[.int .i64 (onceN 9 : Int), .int .i64 (eachN 9 : Int)]) ∧ w = w' := by
  go_enter Try.func24, Try.ntmps24
  go_wp2
  go_ret2
  exact ⟨rfl, rfl⟩
theorem parts_10 (w : World) : Calls Try.prog 24 #[.int .i64 10] w fun e w' => e = .returned (.tuple #[.int .i64 (onceN 10 : Int), .int .i64 (eachN 10 : Int)]) ∧ w = w' := by
  go_enter Try.func24, Try.ntmps24
  go_wp2
  go_ret2
  exact ⟨rfl, rfl⟩
theorem parts_11 (w : World) : Calls Try.prog 24 #[.int .i64 11] w fun e w' => e = .returned (.tuple #[.int .i64 (onceN 11 : Int), .int .i64 (eachN 11 : Int)]) ∧ w = w' := by
  go_enter Try.func24, Try.ntmps24
  go_wp2
  go_ret2
  exact ⟨rfl, rfl⟩
theorem parts_12 (w : World) : Calls Try.prog 24 #[.int .i64 12] w fun e w' => e = .returned (.tuple #[.int .i64 (onceN 12 : Int), .int .i64 (eachN 12 : Int)]) ∧ w = w' := by
  go_enter Try.func24, Try.ntmps24
  go_wp2
  go_ret2
  exact ⟨rfl, rfl⟩
theorem parts_13 (w : World) : Calls Try.prog 24 #[.int .i64 13] w fun e w' => e = .returned (.tuple #[.int .i64 (onceN 13 : Int), .int .i64 (eachN 13 : Int)]) ∧ w = w' := by
  go_enter Try.func24, Try.ntmps24
  go_wp2
  go_ret2
  exact ⟨rfl, rfl⟩
theorem parts_14 (w : World) : Calls Try.prog 24 #[.int .i64 14] w fun e w' => e = .returned (.tuple #[.int .i64 (onceN 14 : Int), .int .i64 (eachN 14 : Int)]) ∧ w = w' := by
  go_enter Try.func24, Try.ntmps24
  go_wp2
  go_ret2
  exact ⟨rfl, rfl⟩
theorem parts_15 (w : World) : Calls Try.prog 24 #[.int .i64 15] w fun e w' => e = .returned (.tuple #[.int .i64 (onceN 15 : Int), .int .i64 (eachN 15 : Int)]) ∧ w = w' := by
  go_enter Try.func24, Try.ntmps24
  go_wp2
  go_ret2
  exact ⟨rfl, rfl⟩
theorem parts_16 (w : World) : Calls Try.prog 24 #[.int .i64 16] w fun e w' => e = .returned (.tuple #[.int .i64 (onceN 16 : Int), .int .i64 (eachN 16 : Int)]) ∧ w = w' := by
  go_enter Try.func24, Try.ntmps24
  go_wp2
  go_ret2
  exact ⟨rfl, rfl⟩
theorem parts_17 (w : World) : Calls Try.prog 24 #[.int .i64 17] w fun e w' => e = .returned (.tuple #[.int .i64 (onceN 17 : Int), .int .i64 (eachN 17 : Int)]) ∧ w = w' := by
  go_enter Try.func24, Try.ntmps24
  go_wp2
  go_ret2
  exact ⟨rfl, rfl⟩
theorem parts_18 (w : World) : Calls Try.prog 24 #[.int .i64 18] w fun e w' => e = .returned (.tuple #[.int .i64 (onceN 18 : Int), .int .i64 (eachN 18 : Int)]) ∧ w = w' := by
  go_enter Try.func24, Try.ntmps24
  go_wp2
  go_ret2
  exact ⟨rfl, rfl⟩
theorem parts_19 (w : World) : Calls Try.prog 24 #[.int .i64 19] w fun e w' => e = .returned (.tuple #[.int .i64 (onceN 19 : Int), .int .i64 (eachN 19 : Int)]) ∧ w = w' := by
  go_enter Try.func24, Try.ntmps24
  go_wp2
  go_ret2
  exact ⟨rfl, rfl⟩
theorem parts_any (k : Nat) (h1 : 1 ≤ k) (h19 : k ≤ 19) (w : World) : Calls Try.prog 24 #[.int .i64 (k : Int)] w fun e w' => e = .returned (.tuple #[.int .i64 (onceN k : Int), .int .i64 (eachN k : Int)]) ∧ w = w' := by
  have hk : k = 1 ∨ k = 2 ∨ k = 3 ∨ k = 4 ∨ k = 5 ∨ k = 6 ∨ k = 7 ∨ k = 8 ∨ k = 9 ∨ k = 10 ∨ k = 11 ∨ k = 12 ∨ k = 13 ∨ k = 14 ∨ k = 15 ∨ k = 16 ∨ k = 17 ∨ k = 18 ∨ k = 19 := by omega
  rcases hk with rfl | rfl | rfl | rfl | rfl | rfl | rfl | rfl | rfl | rfl | rfl | rfl | rfl | rfl | rfl | rfl | rfl | rfl | rfl
  · exact parts_1 w
  · exact parts_2 w
  · exact parts_3 w
  · exact parts_4 w
  · exact parts_5 w
  · exact parts_6 w
  · exact parts_7 w
  · exact parts_8 w
  · exact parts_9 w
  · exact parts_10 w
  · exact parts_11 w
  · exact parts_12 w
  · exact parts_13 w
  · exact parts_14 w
  · exact parts_15 w
  · exact parts_16 w
  · exact parts_17 w
  · exact parts_18 w
  · exact parts_19 w
theorem onceN_le (k : Nat) : onceN k ≤ 8 := by unfold onceN; split <;> omega
theorem eachN_le (k : Nat) : eachN k ≤ 11 := by unfold eachN; split <;> omega
set_option maxHeartbeats 2000000 in
theorem length_any (op m : Int) (w : World) : Calls Try.prog 9 #[.int .i64 op, .int .i64 m] w fun e w' => e = .returned (.int .i64 (lenN op m)) ∧ w = w' := by
  have HT := Lib.hid (fun w => rthere_any op w)
  have HB := Lib.hid (fun w => bound_any m w)
  cases hop : opB op with
  | false =>
    have HL : Hid (lenN op m = 3) := Lib.hid (by unfold lenN; rw [if_neg (by rw [hop]; simp)])
    rw [hop] at HT
    clear hop HB
    go_enter Try.func9, Try.ntmps9
    go_wp2_with ((go_at_call 22; refine (HT.out _).mono ?_; rintro e w9 ⟨rfl, hw9⟩; subst hw9))
    go_ret
    exact ⟨by rw [HL.out]; rfl, rfl⟩
  | true =>
    have ho : 1 ≤ op ∧ op ≤ 19 := by simpa [opB] using hop
    cases hm : mB m with
    | false =>
      have HL : Hid (lenN op m = 3) := Lib.hid (by unfold lenN; rw [if_neg (by rw [hm]; simp)])
      rw [hop] at HT
      rw [hm] at HB
      clear hop hm
      go_enter Try.func9, Try.ntmps9
      go_wp2_with (first | (go_at_call 22; refine (HT.out _).mono ?_; rintro e w9 ⟨rfl, hw9⟩; subst hw9) | (go_at_call 23; refine (HB.out _).mono ?_; rintro e w9 ⟨rfl, hw9⟩; subst hw9))
      go_ret
      exact ⟨by rw [HL.out]; rfl, rfl⟩
    | true =>
      have hmm : 0 ≤ m ∧ m ≤ 64 := by simpa [mB] using hm
      obtain ⟨k, rfl⟩ : ∃ k : Nat, op = (k : Int) := ⟨op.toNat, by omega⟩
      obtain ⟨t, rfl⟩ : ∃ t : Nat, m = (t : Int) := ⟨m.toNat, by omega⟩
      have HL : Hid (lenN k t = 3 + (onceN k : Int) + (t : Int) * (eachN k : Int)) := Lib.hid (by unfold lenN; rw [if_pos ⟨hop, hm⟩, Int.toNat_natCast])
      have HPA := Lib.hid (fun w => parts_any k (by omega) (by omega) w)
      rw [hop] at HT
      rw [hm] at HB
      have l1 := onceN_le k
      have l2 := eachN_le k
      have ht64 : t ≤ 64 := by omega
      clear hop hm ho hmm
      generalize onceN k = a at *
      generalize eachN k = b at *
      have hp : t * b ≤ 64 * 11 := Nat.mul_le_mul ht64 l2
      have hpi : (t : Int) * (b : Int) = ((t * b : Nat) : Int) := (Int.natCast_mul t b).symm
      have hw1 : IntKind.i64.wrap ((t : Int) * (b : Int)) = ((t * b : Nat) : Int) := by
        rw [hpi, IntKind.wrap_i64]
        omega
      clear hpi
      have HPR : Hid (((t * b : Nat) : Int) = (t : Int) * (b : Int)) := Lib.hid (Int.natCast_mul t b)
      generalize t * b = p at *
      go_enter Try.func9, Try.ntmps9
      go_wp2_with (first | (go_at_call 22; refine (HT.out _).mono ?_; rintro e w9 ⟨rfl, hw9⟩; subst hw9) | (go_at_call 23; refine (HB.out _).mono ?_; rintro e w9 ⟨rfl, hw9⟩; subst hw9) | (go_at_call 24; refine (HPA.out _).mono ?_; rintro e w9 ⟨rfl, hw9⟩; subst hw9))
      go_ret
      exact ⟨by rw [HL.out, ← HPR.out]; rfl, rfl⟩
end Go.Proofs.Ytmapcdmegkfheaa
