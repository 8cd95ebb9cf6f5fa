/- num.Text by contract: a number's decimal digits. -/
import Derived.Test.YtonadchibakaeaaRows
import Derived.Test.YtonadchibakaeaaWords
import Derived.WalkKit
import Derived.WalkSpells
import Derived.WalkLawsBesides
import Derived.BigQuiet
import Derived.Deep.QuietTactic
import Derived.Lib.Hide
import Derived.Handy
namespace Go.Proofs.Ytonadchibakaeaa
set_option linter.unusedVariables false
set_option linter.unusedSimpArgs false
open Go.RowKit
/-- The last k digits. -/
def dg : Nat → Nat → List UInt8
  | 0, _ => []
  | k + 1, n => dg k (n / 10) ++ [UInt8.ofNat (48 + n % 10)]
/-- How many digits. -/
def nd (n : Nat) : Nat := if h : n < 10 then 1 else nd (n / 10) + 1
termination_by n
decreasing_by omega
def dec (n : Nat) : List UInt8 := dg (nd n) n
/-- .. as a text. -/
def decB (n : Nat) : ByteArray := ⟨(dec n).toArray⟩
theorem dg_length (k n : Nat) : (dg k n).length = k := by induction k generalizing n with
  | zero => rfl
  | succ k ih => simp [dg, ih]
theorem dg_front (k n : Nat) : dg (k + 1) n = UInt8.ofNat (48 + n / 10 ^ k % 10) :: dg k n := by
  induction k generalizing n with
  | zero => simp [dg]
  | succ k ih =>
    rw [dg, ih (n / 10), dg]
    simp only [List.cons_append, List.cons.injEq, and_true]
    rw [Nat.div_div_eq_div_mul, Nat.pow_succ, Nat.mul_comm]
theorem nd_pos (n : Nat) : 1 ≤ nd n := by unfold nd; split <;> omega
theorem nd_small (n : Nat) (h : n < 10) : nd n = 1 := by unfold nd; simp [h]
theorem nd_big (n : Nat) (h : ¬ n < 10) : nd n = nd (n / 10) + 1 := by rw [nd]; simp [h]
theorem dec_small (n : Nat) (h : n < 10) : dec n = [UInt8.ofNat (48 + n)] := by simp [dec, nd_small n h, dg, Nat.mod_eq_of_lt h]
theorem dec_big (n : Nat) (h : ¬ n < 10) : dec n = dec (n / 10) ++ [UInt8.ofNat (48 + n % 10)] := by simp [dec, nd_big n h, dg]
theorem nd_iff (k n : Nat) (hk : 1 ≤ k) : n / 10 ^ k = 0 ↔ nd n ≤ k := by
  induction k generalizing n with
  | zero => omega
  | succ k ih =>
    rw [Nat.pow_succ, Nat.mul_comm, ← Nat.div_div_eq_div_mul]
    by_cases h : n < 10
    · rw [nd_small n h]
      have : n / 10 = 0 := by omega
      simp [this]
    · rw [nd_big n h]
      by_cases hk0 : k = 0
      · subst hk0
        have := nd_pos (n / 10)
        simp only [Nat.pow_zero, Nat.div_one]
        omega
      · rw [ih (n / 10) (by omega)]; omega
theorem nd_le (n : Nat) (h : n ≤ 18446744073709551615) : nd n ≤ 20 := by
  rw [← nd_iff 20 n (by omega)]
  exact Nat.div_eq_of_lt (by have : (10 : Nat) ^ 20 = 100000000000000000000 := by decide
                             omega)
/-- The array behind k rounds. -/
def tx (n k : Nat) : Array Value := (List.replicate (20 - k) (Value.int .u8 0) ++ bv (dg k n)).toArray
theorem tx_size (n k : Nat) (h : k ≤ 20) : (tx n k).size = 20 := by simp [tx, bv_length, dg_length]; omega
theorem tx_zero (n : Nat) : tx n 0 = #[.int .u8 0, .int .u8 0, .int .u8 0, .int .u8 0, .int .u8 0, .int .u8 0, .int .u8 0, .int .u8 0, .int .u8 0, .int .u8 0, .int .u8 0, .int .u8 0, .int .u8 0, .int .u8 0, .int .u8 0, .int .u8 0, .int .u8 0, .int .u8 0, .int .u8 0, .int .u8 0] := by
  simp [tx, dg, bv]
theorem tx_succ (n k : Nat) (h : k < 20) : (tx n k).setIfInBounds (19 - k) (.int .u8 (48 + (n / 10 ^ k % 10 : Nat))) = tx n (k + 1) := by
  unfold tx
  rw [List.setIfInBounds_toArray, dg_front]
  congr 1
  have e : 20 - k = 19 - k + 1 := by omega
  rw [e, List.replicate_succ', List.append_assoc, List.set_append_right _ _ (by simp)]
  have h1 : (UInt8.ofNat (48 + n / 10 ^ k % 10)).toNat = 48 + n / 10 ^ k % 10 := by simp; omega
  have e2 : 20 - (k + 1) = 19 - k := by omega
  simp only [List.length_replicate, Nat.sub_self, List.singleton_append, List.set_cons_zero, bv, List.map_cons, h1, e2]
  simp
theorem dg_drop (k m n : Nat) : (dg (k + m) n).drop m = dg k n := by
  induction m with
  | zero => rfl
  | succ m ih => rw [← Nat.add_assoc, dg_front]; simpa using ih
theorem tx_all (n : Nat) : tx n 20 = (bv (dg 20 n)).toArray := by simp [tx]
theorem dec_of (n : Nat) (h : nd n ≤ 20) : (dg 20 n).drop (20 - nd n) = dec n := by
  have := dg_drop (nd n) (20 - nd n) n
  rwa [show nd n + (20 - nd n) = 20 by omega] at this
def fst20 (n k : Nat) : Nat := 20 - max 1 (min k (nd n))
theorem fst_zero (n k : Nat) (h : n / 10 ^ k = 0) : fst20 n (k + 1) = fst20 n k := by
  unfold fst20
  have := nd_pos n
  by_cases hk : k = 0
  · subst hk
    have : n = 0 := by simpa using h
    subst this
    rw [nd_small 0 (by omega)]
    omega
  · have := (nd_iff k n (by omega)).1 h
    omega
theorem fst_pos (n k : Nat) (hk : k < 20) (h : n / 10 ^ k ≠ 0) : fst20 n (k + 1) = 19 - k := by
  unfold fst20
  have := nd_pos n
  by_cases hk : k = 0
  · subst hk; omega
  · have h2 : ¬ nd n ≤ k := fun h' => h ((nd_iff k n (by omega)).2 h')
    omega
theorem tx_step (n k m : Nat) (h : k < 20) (hm : m = n / 10 ^ k) : (tx n k).setIfInBounds (19 - k) (.int .u8 (48 + (m : Int) % 10)) = tx n (k + 1) := by
  rw [← tx_succ n k h, hm]; norm_cast
theorem fst_end (n : Nat) (h : nd n ≤ 20) : fst20 n 20 = 20 - nd n := by have := nd_pos n; unfold fst20; omega
theorem tx_at (n k : Nat) (h : k < 20) : ∃ v, (tx n k)[19 - k]? = some v := ⟨_, Array.getElem?_eq_getElem (by rw [tx_size n k (by omega)]; omega)⟩
end Go.Proofs.Ytonadchibakaeaa
