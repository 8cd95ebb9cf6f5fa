/- NumBytes: (P1.2, P1.5) for every number and every width, the bytes are the document's and read as the number, or are refused where the width is not from 1 to 8 or is not enough. Conditions: none. -/
import Derived.Test.YtdnjhaplofakbaaNumKnown
import Derived.Test.YtdnjhaplofakbaaNumMath
import Derived.Test.YtdnjhaplofakbaaRefParse
import Derived.Test.YtdnjhaplofakbaaFrame
namespace Go.Proofs.Ytdnjhaplofakbaa.numBytes
set_option linter.unusedVariables false
set_option linter.unusedSimpArgs false
open Go.ChangeShapes Go.WideShapes Go.ChangeAt Go.RowKit
open Go.ChangeMaps (open_string shut_string)
open NumS
set_option maxHeartbeats 400000 in
theorem walk_wide (n : Nat) (wide : Int) (w : World) (h : wide < 1 ∨ 8 < wide) (hw : -9223372036854775808 ≤ wide) (hw' : wide ≤ 9223372036854775807) :
    Calls Try.prog 5 #[.int .u64 n, .int .i64 wide] w fun e w' => e = .returned (.bool true) ∧ Below w.heap.size w w' := by
  go_enter Try.func5, Try.ntmps5
  go_wp2_with fail
  refine (put_wide n wide h hw hw' _).mono ?_
  rintro e w1 ⟨rfl, rfl⟩
  go_wp2_with fail
  refine (refput_wide n wide h hw hw' _).mono ?_
  rintro e w1 ⟨rfl, rfl⟩
  go_wp2_with fail
  refine (known_any _).mono ?_; rintro e w9 ⟨rfl, hk9⟩
  go_wp2
  go_ret
  exact ⟨rfl, hk9⟩
theorem put_no (n k : Nat) (hn : n ≤ 18446744073709551615) (h1 : 1 ≤ k) (h8 : k ≤ 8) (hb : 256 ^ k ≤ n) (w : World) :
    Calls Try.prog 17 #[.int .u64 n, .int .i64 k] w fun e w' => e = .returned (.tuple #[.slice none 0 0, .int .i64 1]) ∧ Below w.heap.size w w' :=
  (put_any n hn k h1 h8 w).mono fun e w' h => by
    rcases h with ⟨h, _⟩ | ⟨_, h⟩
    · omega
    · exact h
theorem put_yes (n k : Nat) (hn : n ≤ 18446744073709551615) (h1 : 1 ≤ k) (h8 : k ≤ 8) (hb : n < 256 ^ k) (w : World) :
    Calls Try.prog 17 #[.int .u64 n, .int .i64 k] w fun e w' => ∃ A c, e = .returned (.tuple #[.slice A k c, .int .i64 0]) ∧ RB w' A k (be k n) ∧ Below w.heap.size w w' :=
  (put_any n hn k h1 h8 w).mono fun e w' h => by
    rcases h with ⟨_, h⟩ | ⟨h, _⟩
    · exact h
    · omega
theorem refput_is (n k : Nat) (b : Bool) (hn : n ≤ 18446744073709551615) (h1 : 1 ≤ k) (h8 : k ≤ 8) (hb : decide (n < 256 ^ k) = b) (w : World) :
    Calls Try.prog 18 #[.int .u64 n, .int .i64 k] w fun e w' => ∃ A c, e = .returned (.tuple #[.slice A k c, .bool b]) ∧ RB w' A k (be k n) ∧ Below w.heap.size w w' :=
  (refput_any k n h1 h8 hn w).mono fun e w' h => by
    have := RPost.rb h1 h
    rw [hb] at this
    exact this
theorem same_yes (A B : Option Addr) (k c d : Nat) (xs : List UInt8) (w : World) (h8 : k ≤ 8) (ha : RB w A k xs) (hb : RB w B k xs) :
    Calls Try.prog 20 #[.slice A k c, .slice B k d] w fun e w' => e = .returned (.bool true) ∧ ∃ q, w' = w.drewN q := by
  have h := same_any A B k k c d xs xs w ha hb (by unfold maxLen; omega) (by unfold maxLen; omega)
  simpa using h
set_option maxHeartbeats 400000 in
theorem walk_no (n k : Nat) (w : World) (hn : n ≤ 18446744073709551615) (h1 : 1 ≤ k) (h8 : k ≤ 8) (hb : Hid (256 ^ k ≤ n)) :
    Calls Try.prog 5 #[.int .u64 n, .int .i64 k] w fun e w' => e = .returned (.bool true) ∧ Below w.heap.size w w' := by
  go_enter Try.func5, Try.ntmps5
  go_wp2_with fail
  refine (put_no n k hn h1 h8 hb.out _).mono ?_
  rintro e w1 ⟨rfl, hb1⟩
  go_wp2_with fail
  refine (refput_is n k false hn h1 h8 (decide_eq_false (Nat.not_lt.2 hb.out)) _).mono ?_
  rintro e w2 ⟨A, c, rfl, _, hb2⟩
  go_wp2_with fail
  refine (known_any _).mono ?_; rintro e w9 ⟨rfl, hk9⟩
  go_wp2
  go_ret
  exact ⟨rfl, below_trans (below_trans hb1 hb2) hk9⟩
set_option maxHeartbeats 400000 in
theorem walk_yes (n k : Nat) (w : World) (hn : n ≤ 18446744073709551615) (h1 : 1 ≤ k) (h8 : k ≤ 8) (hb : Hid (n < 256 ^ k)) :
    Calls Try.prog 5 #[.int .u64 n, .int .i64 k] w fun e w' => e = .returned (.bool true) ∧ Below w.heap.size w w' := by
  have HG : Hid (getB (be k n) = n) := by
    have := getB_be k n
    rw [Nat.mod_eq_of_lt hb.out] at this
    exact this
  go_enter Try.func5, Try.ntmps5
  go_wp2_with fail
  refine (put_yes n k hn h1 h8 hb.out _).mono ?_
  rintro e w1 ⟨A, c, rfl, hr1, hb1⟩
  go_wp2_with fail
  refine (refput_is n k true hn h1 h8 (decide_eq_true hb.out) _).mono ?_
  rintro e w2 ⟨B, d, rfl, hr2, hb2⟩
  have hr3 := hr1.below hb2
  clear hr1
  go_wp2_with fail
  refine (get_any A k c _ _ hr3 h1 h8).mono ?_
  rw [HG.out]
  rintro e w3 ⟨rfl, rfl⟩
  go_wp2_with fail
  refine (same_yes A B k c d _ _ h8 hr3 hr2).mono ?_
  rintro e w3 ⟨rfl, q, rfl⟩
  clear hr2 hr3
  go_wp2_with fail
  refine (known_any _).mono ?_; rintro e w9 ⟨rfl, hk9⟩
  go_wp2
  go_ret
  exact ⟨rfl, below_trans (below_drawn (below_trans hb1 hb2) q) hk9⟩
theorem walk (a : Int) (wide : Int) (w : World) (ha : 0 ≤ a ∧ a ≤ 18446744073709551615) (hw : -9223372036854775808 ≤ wide ∧ wide ≤ 9223372036854775807) :
    Calls Try.prog 5 #[.int .u64 a, .int .i64 wide] w fun e w' => e = .returned (.bool true) ∧ Below w.heap.size w w' := by
  obtain ⟨n, rfl⟩ := Int.eq_ofNat_of_zero_le ha.1
  have hn : n ≤ 18446744073709551615 := by omega
  by_cases h : wide < 1 ∨ 8 < wide
  · exact walk_wide n wide w h hw.1 hw.2
  · obtain ⟨k, rfl⟩ := Int.eq_ofNat_of_zero_le (show 0 ≤ wide by omega)
    rcases Nat.lt_or_ge n (256 ^ k) with h1 | h1
    · exact walk_yes n k w hn (by omega) (by omega) (Lib.hid h1)
    · exact walk_no n k w hn (by omega) (by omega) (Lib.hid h1)
theorem own : ownKnob Try.prog.godebug = none := by kernel_rfl
theorem laidOut : laidOutB Try.prog = true := by kernel_rfl
set_option maxRecDepth 100000 in
theorem lifted (os : Os) (started : os.Started) (H : Type) (enc : TypeId × Value → H) :
    ReturnsInHanded {} Try.checked os 5 .any (Rows.numBytesSpec.pre6 enc Try.prog Try.f5 Rows.numBytesRow.domain false) (Rows.numBytesSpec.post enc Try.prog Try.f5 false true false false) := by
  refine returnsInHanded_of_change (C := Try.checked) own started (by kernel_rfl) Try.func5
    (ChangeSpec.witness6 (enc := enc) (C := Try.checked) false ⟨#[], #[.int .u64 0, .int .i64 0], []⟩ 8 (by kernel_rfl) (by kernel_rfl) (by kernel_rfl) (by kernel_rfl)) ?_
  intro W base args ds gs before hval0 hW hcnd _
  have hval : ∀ (j : Nat) t v, Try.f5.params[j]? = some t → args[j]? = some v → Value.okWide Try.prog W .any base t v := hval0
  have hW' := hW
  obtain ⟨p, q, hA0, hV, rfl, hfz, hnd⟩ := hW
  have hA : DataW.TrodAll enc Try.prog W 0 (fun _ => true) true Try.f5.params.toList args.toList ds p := hA0
  rw [Try.params5] at hA hval
  obtain ⟨v0, vs0, d0, ds0, p0, q0, hargs, rfl, rfl, h0, r0⟩ := trodAll_cons hA
  obtain ⟨v1, vs1, d1, ds1, p1, q1, rfl, rfl, rfl, h1, r1⟩ := trodAll_cons r0
  obtain ⟨rfl, rfl, rfl⟩ := trodAll_nil r1
  obtain rfl : args = #[v0, v1] := by cases args; simp_all
  obtain ⟨rfl, rfl⟩ := trodVars_none hV
  have k0 := h0
  have lt0 : ∀ x ∈ p0, x.block < W.heap.size := by obtain ⟨m, hm⟩ := k0; exact DataW.trod_lt m _ _ _ hm
  obtain ⟨a0, rfl, rfl, rfl, w0⟩ := open_int Try.underlying22 (hval 0 22 v0 rfl rfl) h0
  have k1 := h1
  have lt1 : ∀ x ∈ p1, x.block < W.heap.size := by obtain ⟨m, hm⟩ := k1; exact DataW.trod_lt m _ _ _ hm
  obtain ⟨a1, rfl, rfl, rfl, w1⟩ := open_int Try.underlying3 (hval 1 3 v1 rfl rfl) h1
  clear hA0 hval0
  refine (walk a0 a1 W (bounds_u64 w0) (bounds_i64 w1)).mono fun e W' ⟨he, bel⟩ => ?_
  subst he
  exact ⟨_, rfl, _, _, _, [], _, [], hW', trodAll_mk1 (shut_bool Try.underlying4 _), (trodAll_cons_mk (Below.trod laidOut (by kernel_rfl) (of_decide_eq_true (by kernel_rfl)) k0 bel lt0) (trodAll_cons_mk (Below.trod laidOut (by kernel_rfl) (of_decide_eq_true (by kernel_rfl)) k1 bel lt1) trodAll_mk0)), rfl, bel.frame _, fun h => by cases h⟩
theorem over : Rows.numBytesRow.holds Try.pinned (OpenSpec.ofChange Rows.numBytesSpec) :=
  OpenClaim.holds_of_wide 5 Try.f5 rfl rfl rfl rfl rfl rfl rfl ⟨rfl, rfl, rfl, rfl, rfl⟩ rfl rfl rfl rfl rfl (by kernel_rfl) Try.func5 (by kernel_rfl)
    (of_decide_eq_true (by kernel_rfl)) (by unfold Func.isWrapper; first | (rw [if_pos (by decide +kernel)]; kernel_rfl) | (rw [if_neg (by decide +kernel)]; exact ⟨rfl, rfl⟩))
    (fun os started H enc _ => lifted os started H enc)
/-- The statement. -/
theorem proved : Rows.NumBytesSaid := over
#print axioms proved
end Go.Proofs.Ytdnjhaplofakbaa.numBytes
