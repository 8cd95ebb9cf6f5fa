/- NumOrders: (P1.6) for every two numbers and every width: their bytes, where both fit, are in the order of the numbers, and the same just where the numbers are; what is refused has none. Conditions: none. -/
import Derived.Test.YtdnjhaplofakbaaNumKnown
import Derived.Test.YtdnjhaplofakbaaNumMath
import Derived.Test.YtdnjhaplofakbaaRefParse
import Derived.Test.YtdnjhaplofakbaaFrame
namespace Go.Proofs.Ytdnjhaplofakbaa.numOrders
set_option linter.unusedVariables false
set_option linter.unusedSimpArgs false
open Go.ChangeShapes Go.WideShapes Go.ChangeAt Go.RowKit
open Go.ChangeMaps (open_string shut_string)
open NumS
theorem put_no (n k : Nat) (hn : n ≤ 18446744073709551615) (h1 : 1 ≤ k) (h8 : k ≤ 8) (hb : 256 ^ k ≤ n) (w : World) :
    Calls Try.prog 17 #[.int .u64 n, .int .i64 k] w fun e w' => e = .returned (.tuple #[.slice none 0 0, .int .i64 1]) ∧ Below w.heap.size w w' :=
  (put_any n hn k h1 h8 w).mono fun e w' h => by
    rcases h with ⟨h, _⟩ | ⟨_, h⟩
    · omega
    · exact h
theorem put_yes (n k : Nat) (hn : n ≤ 18446744073709551615) (h1 : 1 ≤ k) (h8 : k ≤ 8) (hb : n < 256 ^ k) (w : World) :
    Calls Try.prog 17 #[.int .u64 n, .int .i64 k] w fun e w' => ∃ A c, e = .returned (.tuple #[.slice A k c, .int .i64 0]) ∧ RB w' A k (be k n) ∧ Below w.heap.size w w' :=
  (put_any n hn k h1 h8 w).mono fun e w' h => by
    rcases h with ⟨_, h⟩ | ⟨h, _⟩
    · exact h
    · omega
set_option maxHeartbeats 400000 in
theorem walk_wide (a b : Nat) (wide : Int) (w : World) (h : wide < 1 ∨ 8 < wide) (hw : -9223372036854775808 ≤ wide) (hw' : wide ≤ 9223372036854775807) :
    Calls Try.prog 8 #[.int .u64 a, .int .u64 b, .int .i64 wide] w fun e w' => e = .returned (.bool true) ∧ Below w.heap.size w w' := by
  go_enter Try.func8, Try.ntmps8
  go_wp2_with fail
  refine (put_wide a wide h hw hw' _).mono ?_
  rintro e w1 ⟨rfl, rfl⟩
  go_wp2_with fail
  refine (put_wide b wide h hw hw' _).mono ?_
  rintro e w1 ⟨rfl, rfl⟩
  go_wp2_with fail
  refine (known_any _).mono ?_; rintro e w9 ⟨rfl, hk9⟩
  go_wp2
  go_ret
  exact ⟨rfl, hk9⟩
set_option maxHeartbeats 400000 in
theorem walk_nn (a b k : Nat) (w : World) (ha : a ≤ 18446744073709551615) (hb : b ≤ 18446744073709551615) (h1 : 1 ≤ k) (h8 : k ≤ 8) (hA : Hid (256 ^ k ≤ a)) (hB : Hid (256 ^ k ≤ b)) :
    Calls Try.prog 8 #[.int .u64 a, .int .u64 b, .int .i64 k] w fun e w' => e = .returned (.bool true) ∧ Below w.heap.size w w' := by
  go_enter Try.func8, Try.ntmps8
  go_wp2_with fail
  refine (put_no a k ha h1 h8 hA.out _).mono ?_
  rintro e w1 ⟨rfl, hb1⟩
  go_wp2_with fail
  refine (put_no b k hb h1 h8 hB.out _).mono ?_
  rintro e w2 ⟨rfl, hb2⟩
  go_wp2_with fail
  refine (known_any _).mono ?_; rintro e w9 ⟨rfl, hk9⟩
  go_wp2
  go_ret
  exact ⟨rfl, below_trans (below_trans hb1 hb2) hk9⟩
set_option maxHeartbeats 400000 in
theorem walk_yn (a b k : Nat) (w : World) (ha : a ≤ 18446744073709551615) (hb : b ≤ 18446744073709551615) (h1 : 1 ≤ k) (h8 : k ≤ 8) (hA : Hid (a < 256 ^ k)) (hB : Hid (256 ^ k ≤ b)) :
    Calls Try.prog 8 #[.int .u64 a, .int .u64 b, .int .i64 k] w fun e w' => e = .returned (.bool true) ∧ Below w.heap.size w w' := by
  go_enter Try.func8, Try.ntmps8
  go_wp2_with fail
  refine (put_yes a k ha h1 h8 hA.out _).mono ?_
  rintro e w1 ⟨A, c, rfl, _, hb1⟩
  go_wp2_with fail
  refine (put_no b k hb h1 h8 hB.out _).mono ?_
  rintro e w2 ⟨rfl, hb2⟩
  go_wp2_with fail
  refine (known_any _).mono ?_; rintro e w9 ⟨rfl, hk9⟩
  go_wp2
  go_ret
  exact ⟨rfl, below_trans (below_trans hb1 hb2) hk9⟩
set_option maxHeartbeats 400000 in
theorem walk_ny (a b k : Nat) (w : World) (ha : a ≤ 18446744073709551615) (hb : b ≤ 18446744073709551615) (h1 : 1 ≤ k) (h8 : k ≤ 8) (hA : Hid (256 ^ k ≤ a)) (hB : Hid (b < 256 ^ k)) :
    Calls Try.prog 8 #[.int .u64 a, .int .u64 b, .int .i64 k] w fun e w' => e = .returned (.bool true) ∧ Below w.heap.size w w' := by
  go_enter Try.func8, Try.ntmps8
  go_wp2_with fail
  refine (put_no a k ha h1 h8 hA.out _).mono ?_
  rintro e w1 ⟨rfl, hb1⟩
  go_wp2_with fail
  refine (put_yes b k hb h1 h8 hB.out _).mono ?_
  rintro e w2 ⟨A, c, rfl, _, hb2⟩
  go_wp2_with fail
  refine (known_any _).mono ?_; rintro e w9 ⟨rfl, hk9⟩
  go_wp2
  go_ret
  exact ⟨rfl, below_trans (below_trans hb1 hb2) hk9⟩
set_option maxHeartbeats 400000 in
theorem walk_yy (a b k : Nat) (w : World) (ha : a ≤ 18446744073709551615) (hb : b ≤ 18446744073709551615) (h1 : 1 ≤ k) (h8 : k ≤ 8) (hA : Hid (a < 256 ^ k)) (hB : Hid (b < 256 ^ k)) :
    Calls Try.prog 8 #[.int .u64 a, .int .u64 b, .int .i64 k] w fun e w' => e = .returned (.bool true) ∧ Below w.heap.size w w' := by
  have HL : Hid (lexL (be k a) (be k b) = decide (a < b)) := by
    have := lexL_be k a b
    rw [Nat.mod_eq_of_lt hA.out, Nat.mod_eq_of_lt hB.out] at this
    exact this
  have HS : Hid (decide (be k a = be k b) = decide (a = b)) := decide_eq_decide.2 (be_inj k a b hA.out hB.out)
  go_enter Try.func8, Try.ntmps8
  go_wp2_with fail
  refine (put_yes a k ha h1 h8 hA.out _).mono ?_
  rintro e w1 ⟨A, c, rfl, hr1, hb1⟩
  go_wp2_with fail
  refine (put_yes b k hb h1 h8 hB.out _).mono ?_
  rintro e w2 ⟨B, d, rfl, hr2, hb2⟩
  have hr3 := hr1.below hb2
  clear hr1
  go_wp2_with fail
  refine (below_any A B k c d _ _ _ hr3 hr2 h8).mono ?_
  rw [HL.out]
  rintro e w3 ⟨rfl, q, rfl⟩
  have hr4 := hr3.drawn q
  have hr5 := hr2.drawn q
  clear hr2 hr3
  have hb0 := below_trans hb1 hb2
  by_cases hab : a < b
  · have hd : decide ((a : Int) < (b : Int)) = true := by simpa using hab
    have hd2 : decide (a < b) = true := by simpa using hab
    go_wp2_with fail
    refine (same_any A B k k c d _ _ _ hr4 hr5 (by unfold maxLen; omega) (by unfold maxLen; omega)).mono ?_
    rw [HS.out]
    rintro e w3 ⟨rfl, q2, rfl⟩
    have hne : ((a : Int) == (b : Int)) = false := beq_eq_false_iff_ne.2 (by omega)
    have hne2 : decide (a = b) = false := decide_eq_false (by omega)
    clear hr4 hr5
    go_wp2_with fail
    refine (known_any _).mono ?_; rintro e w9 ⟨rfl, hk9⟩
    go_wp2
    go_ret
    exact ⟨rfl, below_trans (below_drawn hb0 (q + q2)) hk9⟩
  · have hd : decide ((a : Int) < (b : Int)) = false := by simpa using hab
    have hd2 : decide (a < b) = false := by simpa using hab
    go_wp2_with fail
    refine (same_any A B k k c d _ _ _ hr4 hr5 (by unfold maxLen; omega) (by unfold maxLen; omega)).mono ?_
    rw [HS.out]
    rintro e w3 ⟨rfl, q2, rfl⟩
    clear hr4 hr5
    by_cases he : a = b
    · have hne : ((a : Int) == (b : Int)) = true := beq_iff_eq.2 (by omega)
      have hne2 : decide (a = b) = true := decide_eq_true he
      clear he
      go_wp2_with fail
      refine (known_any _).mono ?_; rintro e w9 ⟨rfl, hk9⟩
      go_wp2
      go_ret
      exact ⟨rfl, below_trans (below_drawn hb0 (q + q2)) hk9⟩
    · have hne : ((a : Int) == (b : Int)) = false := beq_eq_false_iff_ne.2 (by omega)
      have hne2 : decide (a = b) = false := decide_eq_false he
      clear he
      go_wp2_with fail
      refine (known_any _).mono ?_; rintro e w9 ⟨rfl, hk9⟩
      go_wp2
      go_ret
      exact ⟨rfl, below_trans (below_drawn hb0 (q + q2)) hk9⟩
theorem walk (a b : Int) (wide : Int) (w : World) (ha : 0 ≤ a ∧ a ≤ 18446744073709551615) (hb : 0 ≤ b ∧ b ≤ 18446744073709551615) (hw : -9223372036854775808 ≤ wide ∧ wide ≤ 9223372036854775807) :
    Calls Try.prog 8 #[.int .u64 a, .int .u64 b, .int .i64 wide] w fun e w' => e = .returned (.bool true) ∧ Below w.heap.size w w' := by
  obtain ⟨n, rfl⟩ := Int.eq_ofNat_of_zero_le ha.1
  obtain ⟨m, rfl⟩ := Int.eq_ofNat_of_zero_le hb.1
  have hn : n ≤ 18446744073709551615 := by omega
  have hm : m ≤ 18446744073709551615 := by omega
  by_cases h : wide < 1 ∨ 8 < wide
  · exact walk_wide n m wide w h hw.1 hw.2
  · obtain ⟨k, rfl⟩ := Int.eq_ofNat_of_zero_le (show 0 ≤ wide by omega)
    have h1 : 1 ≤ k := by omega
    have h8 : k ≤ 8 := by omega
    rcases Nat.lt_or_ge n (256 ^ k) with hA | hA <;> rcases Nat.lt_or_ge m (256 ^ k) with hB | hB
    · exact walk_yy n m k w hn hm h1 h8 (Lib.hid hA) (Lib.hid hB)
    · exact walk_yn n m k w hn hm h1 h8 (Lib.hid hA) (Lib.hid hB)
    · exact walk_ny n m k w hn hm h1 h8 (Lib.hid hA) (Lib.hid hB)
    · exact walk_nn n m k w hn hm h1 h8 (Lib.hid hA) (Lib.hid hB)
theorem own : ownKnob Try.prog.godebug = none := by kernel_rfl
theorem laidOut : laidOutB Try.prog = true := by kernel_rfl
set_option maxRecDepth 100000 in
theorem lifted (os : Os) (started : os.Started) (H : Type) (enc : TypeId × Value → H) :
    ReturnsInHanded {} Try.checked os 8 .any (Rows.numOrdersSpec.pre6 enc Try.prog Try.f8 Rows.numOrdersRow.domain false) (Rows.numOrdersSpec.post enc Try.prog Try.f8 false true false false) := by
  refine returnsInHanded_of_change (C := Try.checked) own started (by kernel_rfl) Try.func8
    (ChangeSpec.witness6 (enc := enc) (C := Try.checked) false ⟨#[], #[.int .u64 0, .int .u64 0, .int .i64 0], []⟩ 8 (by kernel_rfl) (by kernel_rfl) (by kernel_rfl) (by kernel_rfl)) ?_
  intro W base args ds gs before hval0 hW hcnd _
  have hval : ∀ (j : Nat) t v, Try.f8.params[j]? = some t → args[j]? = some v → Value.okWide Try.prog W .any base t v := hval0
  have hW' := hW
  obtain ⟨p, q, hA0, hV, rfl, hfz, hnd⟩ := hW
  have hA : DataW.TrodAll enc Try.prog W 0 (fun _ => true) true Try.f8.params.toList args.toList ds p := hA0
  rw [Try.params8] at hA hval
  obtain ⟨v0, vs0, d0, ds0, p0, q0, hargs, rfl, rfl, h0, r0⟩ := trodAll_cons hA
  obtain ⟨v1, vs1, d1, ds1, p1, q1, rfl, rfl, rfl, h1, r1⟩ := trodAll_cons r0
  obtain ⟨v2, vs2, d2, ds2, p2, q2, rfl, rfl, rfl, h2, r2⟩ := trodAll_cons r1
  obtain ⟨rfl, rfl, rfl⟩ := trodAll_nil r2
  obtain rfl : args = #[v0, v1, v2] := by cases args; simp_all
  obtain ⟨rfl, rfl⟩ := trodVars_none hV
  have k0 := h0
  have lt0 : ∀ x ∈ p0, x.block < W.heap.size := by obtain ⟨m, hm⟩ := k0; exact DataW.trod_lt m _ _ _ hm
  obtain ⟨a0, rfl, rfl, rfl, w0⟩ := open_int Try.underlying22 (hval 0 22 v0 rfl rfl) h0
  have k1 := h1
  have lt1 : ∀ x ∈ p1, x.block < W.heap.size := by obtain ⟨m, hm⟩ := k1; exact DataW.trod_lt m _ _ _ hm
  obtain ⟨a1, rfl, rfl, rfl, w1⟩ := open_int Try.underlying22 (hval 1 22 v1 rfl rfl) h1
  have k2 := h2
  have lt2 : ∀ x ∈ p2, x.block < W.heap.size := by obtain ⟨m, hm⟩ := k2; exact DataW.trod_lt m _ _ _ hm
  obtain ⟨a2, rfl, rfl, rfl, w2⟩ := open_int Try.underlying3 (hval 2 3 v2 rfl rfl) h2
  clear hA0 hval0
  refine (walk a0 a1 a2 W (bounds_u64 w0) (bounds_u64 w1) (bounds_i64 w2)).mono fun e W' ⟨he, bel⟩ => ?_
  subst he
  exact ⟨_, rfl, _, _, _, [], _, [], hW', trodAll_mk1 (shut_bool Try.underlying4 _), (trodAll_cons_mk (Below.trod laidOut (by kernel_rfl) (of_decide_eq_true (by kernel_rfl)) k0 bel lt0) (trodAll_cons_mk (Below.trod laidOut (by kernel_rfl) (of_decide_eq_true (by kernel_rfl)) k1 bel lt1) (trodAll_cons_mk (Below.trod laidOut (by kernel_rfl) (of_decide_eq_true (by kernel_rfl)) k2 bel lt2) trodAll_mk0))), rfl, bel.frame _, fun h => by cases h⟩
theorem over : Rows.numOrdersRow.holds Try.pinned (OpenSpec.ofChange Rows.numOrdersSpec) :=
  OpenClaim.holds_of_wide 8 Try.f8 rfl rfl rfl rfl rfl rfl rfl ⟨rfl, rfl, rfl, rfl, rfl⟩ rfl rfl rfl rfl rfl (by kernel_rfl) Try.func8 (by kernel_rfl)
    (of_decide_eq_true (by kernel_rfl)) (by unfold Func.isWrapper; first | (rw [if_pos (by decide +kernel)]; kernel_rfl) | (rw [if_neg (by decide +kernel)]; exact ⟨rfl, rfl⟩))
    (fun os started H enc _ => lifted os started H enc)
/-- The statement. -/
theorem proved : Rows.NumOrdersSaid := over
#print axioms proved
end Go.Proofs.Ytdnjhaplofakbaa.numOrders
