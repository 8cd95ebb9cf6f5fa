/- num.Put by contract. -/
import Derived.Test.YthlmldbgohnpnaaSplit
namespace Go.Proofs.Ythlmldbgohnpnaa
open Go.RowKit
open NumS
/-- A number's bytes, so many, the highest first. -/
def be : Nat → Nat → List UInt8
  | 0, _ => []
  | k + 1, n => UInt8.ofNat (bN k n) :: be k n
theorem be_length (k n : Nat) : (be k n).length = k := by induction k with
  | zero => rfl
  | succ k ih => simp [be, ih]
theorem be_val (k n : Nat) : bv (be (k + 1) n) = .int .u8 (bN k n) :: bv (be k n) := by
  have := bN_lt k n
  simp [be, bv, Nat.mod_eq_of_lt (show bN k n < 256 by omega)]
theorem be_val0 (n : Nat) : bv (be 0 n) = [] := rfl
set_option maxHeartbeats 400000 in
theorem put_wide (n : Nat) (wide : Int) (h : wide < 1 ∨ 8 < wide) (hw : -9223372036854775808 ≤ wide) (hw' : wide ≤ 9223372036854775807) (w : World) :
    Calls Try.prog 38 #[.int .u64 n, .int .i64 wide] w fun e w' => e = .returned (.tuple #[.slice none 0 0, .int .i64 1]) ∧ w = w' := by
  rcases h with h | h
  · go_enter Try.func38, Try.ntmps38
    go_wp2
    go_ret2
    exact ⟨rfl, rfl⟩
  · go_enter Try.func38, Try.ntmps38
    have h1 : ¬ wide < 1 := by omega
    go_wp2
    go_ret2
    exact ⟨rfl, rfl⟩
theorem be_drop (k m n : Nat) : (be (k + m) n).drop m = be k n := by
  induction m with
  | zero => rfl
  | succ m ih => rw [← Nat.add_assoc]; simp [be, ih]
theorem bN_step (i n : Nat) (h : n < 256 ^ (i + 1)) (h0 : bN i n = 0) : n < 256 ^ i := by
  unfold bN at h0
  rw [Nat.pow_succ] at h
  have h1 : n / 256 ^ i < 256 := by rw [Nat.div_lt_iff_lt_mul (Nat.pow_pos (by omega)), Nat.mul_comm]; exact h
  have h2 : n / 256 ^ i = 0 := by generalize n / 256 ^ i = q at h0 h1; omega
  exact (Nat.div_eq_zero_iff_lt (Nat.pow_pos (by omega))).1 h2
theorem bN_big (k i n : Nat) (hk : k ≤ i) (h : bN i n ≠ 0) : 256 ^ k ≤ n := by
  refine Nat.le_trans (Nat.pow_le_pow_right (by omega) hk) ?_
  unfold bN at h
  rcases Nat.lt_or_ge n (256 ^ i) with h1 | h1
  · rw [Nat.div_eq_of_lt h1] at h; exact absurd rfl h
  · exact h1
theorem u64_lt (n : Nat) (hn : n ≤ 18446744073709551615) : n < 256 ^ 8 := by
  have : (256 : Nat) ^ 8 = 18446744073709551616 := by decide
  omega
theorem RB_of_blk {w : World} {g off k n : Nat} {t : TypeId} (h : Blk w g t (bv (be (k + off) n)).toArray) : RB w (some ⟨g, off, none⟩) k (be k n) := by
  refine ⟨by simp [bv_length, be_length], fun _ => ⟨_, rfl, h.lt, fun j u hu => ?_⟩⟩
  have ha : (⟨g, off, none⟩ : Addr).add j = ⟨g, off + j, none⟩ := by unfold Addr.add; split <;> simp_all
  rw [ha, h.cell, ← hu, ← be_drop k off n]
  simp [bv]
def PutPost (n k : Nat) (w : World) (e : Ending) (w' : World) : Prop :=
  (n < 256 ^ k ∧ ∃ A c, e = .returned (.tuple #[.slice A k c, .int .i64 0]) ∧ RB w' A k (be k n) ∧ Below w.heap.size w w') ∨
  (256 ^ k ≤ n ∧ e = .returned (.tuple #[.slice none 0 0, .int .i64 1]) ∧ Below w.heap.size w w')
theorem PutPost.no {n k : Nat} {w w' : World} (i : Nat) (h : ((bN i n : Int) != 0) = true) (hk : k ≤ i) (hb : Below w.heap.size w w') : PutPost n k w (.returned (.tuple #[.slice none 0 0, .int .i64 1])) w' :=
  .inr ⟨bN_big k i n hk (by simpa using h), rfl, hb⟩
theorem PutPost.yes {n k off c g : Nat} {t : TypeId} {w w' : World} (h : n < 256 ^ k) (hk : Blk w' g t (bv (be (k + off) n)).toArray) (hb : Below w.heap.size w w') : PutPost n k w (.returned (.tuple #[.slice (some ⟨g, off, none⟩) k c, .int .i64 0])) w' :=
  .inl ⟨h, _, _, rfl, RB_of_blk hk, hb⟩
theorem z_ {i n : Nat} (h : ((bN i n : Int) != 0) = false) : bN i n = 0 := by simpa using h
theorem blk8 {w : World} {n : Nat} : Blk (w.alloc (.cells #[.int .u8 (bN 7 n : Nat), .int .u8 (bN 6 n : Nat), .int .u8 (bN 5 n : Nat), .int .u8 (bN 4 n : Nat), .int .u8 (bN 3 n : Nat), .int .u8 (bN 2 n : Nat), .int .u8 (bN 1 n : Nat), .int .u8 (bN 0 n : Nat)] 81)) w.heap.size 81 (bv (be 8 n)).toArray := by
  have : (bv (be 8 n)).toArray = #[.int .u8 (bN 7 n : Nat), .int .u8 (bN 6 n : Nat), .int .u8 (bN 5 n : Nat), .int .u8 (bN 4 n : Nat), .int .u8 (bN 3 n : Nat), .int .u8 (bN 2 n : Nat), .int .u8 (bN 1 n : Nat), .int .u8 (bN 0 n : Nat)] := by simp [be_val, be_val0]
  rw [this]; exact Blk.new _ _ _
set_option maxHeartbeats 400000 in
theorem put1 (n : Nat) (hn : n ≤ 18446744073709551615) (w : World) : Calls Try.prog 38 #[.int .u64 n, .int .i64 1] w fun e w' => PutPost n 1 w e w' := by
  go_enter Try.func38, Try.ntmps38
  go_wp2_with (go_at_call 43; refine (split_lit n hn _).mono ?_; rintro e w1 ⟨rfl, hb⟩)
  go_rounds 8
  all_goals go_ret2
  · exact PutPost.no 7 ‹_› (by omega) (by have := hb.size; go_grown)
  · exact PutPost.no 6 ‹_› (by omega) (by have := hb.size; go_grown)
  · exact PutPost.no 5 ‹_› (by omega) (by have := hb.size; go_grown)
  · exact PutPost.no 4 ‹_› (by omega) (by have := hb.size; go_grown)
  · exact PutPost.no 3 ‹_› (by omega) (by have := hb.size; go_grown)
  · exact PutPost.no 2 ‹_› (by omega) (by have := hb.size; go_grown)
  · exact PutPost.no 1 ‹_› (by omega) (by have := hb.size; go_grown)
  · exact PutPost.yes (bN_step 1 n (bN_step 2 n (bN_step 3 n (bN_step 4 n (bN_step 5 n (bN_step 6 n (bN_step 7 n (u64_lt n hn) (z_ ‹_›)) (z_ ‹_›)) (z_ ‹_›)) (z_ ‹_›)) (z_ ‹_›)) (z_ ‹_›)) (z_ ‹_›)) blk8 (by have := hb.size; go_grown)
set_option maxHeartbeats 400000 in
theorem put2 (n : Nat) (hn : n ≤ 18446744073709551615) (w : World) : Calls Try.prog 38 #[.int .u64 n, .int .i64 2] w fun e w' => PutPost n 2 w e w' := by
  go_enter Try.func38, Try.ntmps38
  go_wp2_with (go_at_call 43; refine (split_lit n hn _).mono ?_; rintro e w1 ⟨rfl, hb⟩)
  go_rounds 7
  all_goals go_ret2
  · exact PutPost.no 7 ‹_› (by omega) (by have := hb.size; go_grown)
  · exact PutPost.no 6 ‹_› (by omega) (by have := hb.size; go_grown)
  · exact PutPost.no 5 ‹_› (by omega) (by have := hb.size; go_grown)
  · exact PutPost.no 4 ‹_› (by omega) (by have := hb.size; go_grown)
  · exact PutPost.no 3 ‹_› (by omega) (by have := hb.size; go_grown)
  · exact PutPost.no 2 ‹_› (by omega) (by have := hb.size; go_grown)
  · exact PutPost.yes (bN_step 2 n (bN_step 3 n (bN_step 4 n (bN_step 5 n (bN_step 6 n (bN_step 7 n (u64_lt n hn) (z_ ‹_›)) (z_ ‹_›)) (z_ ‹_›)) (z_ ‹_›)) (z_ ‹_›)) (z_ ‹_›)) blk8 (by have := hb.size; go_grown)
set_option maxHeartbeats 400000 in
theorem put3 (n : Nat) (hn : n ≤ 18446744073709551615) (w : World) : Calls Try.prog 38 #[.int .u64 n, .int .i64 3] w fun e w' => PutPost n 3 w e w' := by
  go_enter Try.func38, Try.ntmps38
  go_wp2_with (go_at_call 43; refine (split_lit n hn _).mono ?_; rintro e w1 ⟨rfl, hb⟩)
  go_rounds 6
  all_goals go_ret2
  · exact PutPost.no 7 ‹_› (by omega) (by have := hb.size; go_grown)
  · exact PutPost.no 6 ‹_› (by omega) (by have := hb.size; go_grown)
  · exact PutPost.no 5 ‹_› (by omega) (by have := hb.size; go_grown)
  · exact PutPost.no 4 ‹_› (by omega) (by have := hb.size; go_grown)
  · exact PutPost.no 3 ‹_› (by omega) (by have := hb.size; go_grown)
  · exact PutPost.yes (bN_step 3 n (bN_step 4 n (bN_step 5 n (bN_step 6 n (bN_step 7 n (u64_lt n hn) (z_ ‹_›)) (z_ ‹_›)) (z_ ‹_›)) (z_ ‹_›)) (z_ ‹_›)) blk8 (by have := hb.size; go_grown)
set_option maxHeartbeats 400000 in
theorem put4 (n : Nat) (hn : n ≤ 18446744073709551615) (w : World) : Calls Try.prog 38 #[.int .u64 n, .int .i64 4] w fun e w' => PutPost n 4 w e w' := by
  go_enter Try.func38, Try.ntmps38
  go_wp2_with (go_at_call 43; refine (split_lit n hn _).mono ?_; rintro e w1 ⟨rfl, hb⟩)
  go_rounds 5
  all_goals go_ret2
  · exact PutPost.no 7 ‹_› (by omega) (by have := hb.size; go_grown)
  · exact PutPost.no 6 ‹_› (by omega) (by have := hb.size; go_grown)
  · exact PutPost.no 5 ‹_› (by omega) (by have := hb.size; go_grown)
  · exact PutPost.no 4 ‹_› (by omega) (by have := hb.size; go_grown)
  · exact PutPost.yes (bN_step 4 n (bN_step 5 n (bN_step 6 n (bN_step 7 n (u64_lt n hn) (z_ ‹_›)) (z_ ‹_›)) (z_ ‹_›)) (z_ ‹_›)) blk8 (by have := hb.size; go_grown)
set_option maxHeartbeats 400000 in
theorem put5 (n : Nat) (hn : n ≤ 18446744073709551615) (w : World) : Calls Try.prog 38 #[.int .u64 n, .int .i64 5] w fun e w' => PutPost n 5 w e w' := by
  go_enter Try.func38, Try.ntmps38
  go_wp2_with (go_at_call 43; refine (split_lit n hn _).mono ?_; rintro e w1 ⟨rfl, hb⟩)
  go_rounds 4
  all_goals go_ret2
  · exact PutPost.no 7 ‹_› (by omega) (by have := hb.size; go_grown)
  · exact PutPost.no 6 ‹_› (by omega) (by have := hb.size; go_grown)
  · exact PutPost.no 5 ‹_› (by omega) (by have := hb.size; go_grown)
  · exact PutPost.yes (bN_step 5 n (bN_step 6 n (bN_step 7 n (u64_lt n hn) (z_ ‹_›)) (z_ ‹_›)) (z_ ‹_›)) blk8 (by have := hb.size; go_grown)
set_option maxHeartbeats 400000 in
theorem put6 (n : Nat) (hn : n ≤ 18446744073709551615) (w : World) : Calls Try.prog 38 #[.int .u64 n, .int .i64 6] w fun e w' => PutPost n 6 w e w' := by
  go_enter Try.func38, Try.ntmps38
  go_wp2_with (go_at_call 43; refine (split_lit n hn _).mono ?_; rintro e w1 ⟨rfl, hb⟩)
  go_rounds 3
  all_goals go_ret2
  · exact PutPost.no 7 ‹_› (by omega) (by have := hb.size; go_grown)
  · exact PutPost.no 6 ‹_› (by omega) (by have := hb.size; go_grown)
  · exact PutPost.yes (bN_step 6 n (bN_step 7 n (u64_lt n hn) (z_ ‹_›)) (z_ ‹_›)) blk8 (by have := hb.size; go_grown)
set_option maxHeartbeats 400000 in
theorem put7 (n : Nat) (hn : n ≤ 18446744073709551615) (w : World) : Calls Try.prog 38 #[.int .u64 n, .int .i64 7] w fun e w' => PutPost n 7 w e w' := by
  go_enter Try.func38, Try.ntmps38
  go_wp2_with (go_at_call 43; refine (split_lit n hn _).mono ?_; rintro e w1 ⟨rfl, hb⟩)
  go_rounds 2
  all_goals go_ret2
  · exact PutPost.no 7 ‹_› (by omega) (by have := hb.size; go_grown)
  · exact PutPost.yes (bN_step 7 n (u64_lt n hn) (z_ ‹_›)) blk8 (by have := hb.size; go_grown)
set_option maxHeartbeats 400000 in
theorem put8 (n : Nat) (hn : n ≤ 18446744073709551615) (w : World) : Calls Try.prog 38 #[.int .u64 n, .int .i64 8] w fun e w' => PutPost n 8 w e w' := by
  go_enter Try.func38, Try.ntmps38
  go_wp2_with (go_at_call 43; refine (split_lit n hn _).mono ?_; rintro e w1 ⟨rfl, hb⟩)
  go_rounds 1
  all_goals go_ret2
  · exact PutPost.yes (u64_lt n hn) blk8 (by have := hb.size; go_grown)
theorem put_any (n : Nat) (hn : n ≤ 18446744073709551615) (k : Nat) (h1 : 1 ≤ k) (h8 : k ≤ 8) (w : World) : Calls Try.prog 38 #[.int .u64 n, .int .i64 k] w fun e w' => PutPost n k w e w' := by
  obtain rfl | rfl | rfl | rfl | rfl | rfl | rfl | rfl : k = 1 ∨ k = 2 ∨ k = 3 ∨ k = 4 ∨ k = 5 ∨ k = 6 ∨ k = 7 ∨ k = 8 := by omega
  · exact put1 n hn w
  · exact put2 n hn w
  · exact put3 n hn w
  · exact put4 n hn w
  · exact put5 n hn w
  · exact put6 n hn w
  · exact put7 n hn w
  · exact put8 n hn w
end Go.Proofs.Ythlmldbgohnpnaa
