/- num.split, num.Put by contract. -/
import Derived.Test.YthlmldbgohnpnaaRows
import Derived.Test.YthlmldbgohnpnaaNumSpec
import Derived.Test.YthlmldbgohnpnaaWords
import Derived.WalkKit
import Derived.WalkSpells
import Derived.WalkLawsBesides
import Derived.BigQuiet
import Derived.Deep.QuietTactic
import Derived.Lib.Hide
import Derived.Handy
namespace Go.Proofs.Ythlmldbgohnpnaa
open Go.RowKit
open NumS
def bN (i n : Nat) : Nat := n / 256 ^ i % 256
theorem bN_lt (i n : Nat) : bN i n ≤ 255 := by unfold bN; omega
theorem bN_s (i n : Nat) : bN (i + 1) n = bN i (n / 256) := by unfold bN; rw [Nat.pow_succ, Nat.mul_comm, Nat.div_div_eq_div_mul]
def B8 (n : Nat) : Array Value := #[.int .u8 (bN 7 n), .int .u8 (bN 6 n), .int .u8 (bN 5 n), .int .u8 (bN 4 n), .int .u8 (bN 3 n), .int .u8 (bN 2 n), .int .u8 (bN 1 n), .int .u8 (bN 0 n)]
theorem B8_eq (n : Nat) (hn : n ≤ 18446744073709551615) : #[Value.int .u8 ((n : Int) / 256 / 256 / 256 / 256 / 256 / 256 / 256), .int .u8 ((n : Int) / 256 / 256 / 256 / 256 / 256 / 256 % 256), .int .u8 ((n : Int) / 256 / 256 / 256 / 256 / 256 % 256), .int .u8 ((n : Int) / 256 / 256 / 256 / 256 % 256), .int .u8 ((n : Int) / 256 / 256 / 256 % 256), .int .u8 ((n : Int) / 256 / 256 % 256), .int .u8 ((n : Int) / 256 % 256), .int .u8 ((n : Int) % 256)] = B8 n := by
  have h7 : ((n : Int) / 256 / 256 / 256 / 256 / 256 / 256 / 256) = (bN 7 n : Nat) := by simp only [bN_s]; unfold bN; omega
  have h6 : ((n : Int) / 256 / 256 / 256 / 256 / 256 / 256 % 256) = (bN 6 n : Nat) := by simp only [bN_s]; unfold bN; omega
  have h5 : ((n : Int) / 256 / 256 / 256 / 256 / 256 % 256) = (bN 5 n : Nat) := by simp only [bN_s]; unfold bN; omega
  have h4 : ((n : Int) / 256 / 256 / 256 / 256 % 256) = (bN 4 n : Nat) := by simp only [bN_s]; unfold bN; omega
  have h3 : ((n : Int) / 256 / 256 / 256 % 256) = (bN 3 n : Nat) := by simp only [bN_s]; unfold bN; omega
  have h2 : ((n : Int) / 256 / 256 % 256) = (bN 2 n : Nat) := by simp only [bN_s]; unfold bN; omega
  have h1 : ((n : Int) / 256 % 256) = (bN 1 n : Nat) := by simp only [bN_s]; unfold bN; omega
  have h0 : ((n : Int) % 256) = (bN 0 n : Nat) := by unfold bN; omega
  rw [h7, h6, h5, h4, h3, h2, h1, h0]; rfl
set_option maxHeartbeats 400000 in
theorem split_exact0 (n : Nat) (hn : n ≤ 18446744073709551615) (w : World) :
    Calls Try.prog 43 #[.int .u64 n] w fun e w' => e = .returned (.agg (B8 n)) ∧ (w.alloc (.cells (B8 n) 81)).alloc (.cells (B8 n) 81) = w' := by
  have HB := Lib.hid (B8_eq n hn)
  go_enter Try.func43, Try.ntmps43
  go_wp2
  go_rounds 9
  refine bodyPost_ret (v := .agg (B8 n)) ?_ rfl ⟨rfl, ?_⟩
  · rw [← HB.out]; simp [results, Try.results43, go_sem]
  · rw [← HB.out]
theorem split_exact (n : Nat) (hn : n ≤ 18446744073709551615) (w : World) :
    Calls Try.prog 43 #[.int .u64 n] w fun e w' => e = .returned (.agg #[.int .u8 (bN 7 n : Nat), .int .u8 (bN 6 n : Nat), .int .u8 (bN 5 n : Nat), .int .u8 (bN 4 n : Nat), .int .u8 (bN 3 n : Nat), .int .u8 (bN 2 n : Nat), .int .u8 (bN 1 n : Nat), .int .u8 (bN 0 n : Nat)]) ∧ (w.alloc (.cells #[.int .u8 (bN 7 n : Nat), .int .u8 (bN 6 n : Nat), .int .u8 (bN 5 n : Nat), .int .u8 (bN 4 n : Nat), .int .u8 (bN 3 n : Nat), .int .u8 (bN 2 n : Nat), .int .u8 (bN 1 n : Nat), .int .u8 (bN 0 n : Nat)] 81)).alloc (.cells #[.int .u8 (bN 7 n : Nat), .int .u8 (bN 6 n : Nat), .int .u8 (bN 5 n : Nat), .int .u8 (bN 4 n : Nat), .int .u8 (bN 3 n : Nat), .int .u8 (bN 2 n : Nat), .int .u8 (bN 1 n : Nat), .int .u8 (bN 0 n : Nat)] 81) = w' := split_exact0 n hn w
theorem split_lit (n : Nat) (hn : n ≤ 18446744073709551615) (w : World) :
    Calls Try.prog 43 #[.int .u64 n] w fun e w' => e = .returned (.agg #[.int .u8 (bN 7 n : Nat), .int .u8 (bN 6 n : Nat), .int .u8 (bN 5 n : Nat), .int .u8 (bN 4 n : Nat), .int .u8 (bN 3 n : Nat), .int .u8 (bN 2 n : Nat), .int .u8 (bN 1 n : Nat), .int .u8 (bN 0 n : Nat)]) ∧ Below w.heap.size w w' :=
  (split_exact n hn w).mono fun e w' ⟨he, hw⟩ => ⟨he, by subst hw; exact ((Below.refl _ _).alloc (Nat.le_refl _) _).alloc (by simp) _⟩
end Go.Proofs.Ythlmldbgohnpnaa
