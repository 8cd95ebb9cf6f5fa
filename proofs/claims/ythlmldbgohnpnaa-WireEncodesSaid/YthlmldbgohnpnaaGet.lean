/- num.Get and the document's Get by contract. -/
import Derived.Test.YthlmldbgohnpnaaRows
import Derived.Test.YthlmldbgohnpnaaWords
import Derived.WalkKit
import Derived.WalkSpells
import Derived.WalkLawsBesides
import Derived.BigQuiet
import Derived.Deep.QuietTactic
import Derived.Lib.Hide
import Derived.Handy
import Derived.Laws.BitsAllLaws
namespace Go.Proofs.Ythlmldbgohnpnaa
set_option linter.unusedVariables false
set_option linter.unusedSimpArgs false
open Go.RowKit
def getF (n : Nat) (l : List UInt8) : Nat := l.foldl (fun n c => 256 * n + c.toNat) n
def getB (l : List UInt8) : Nat := getF 0 l
theorem getB_snoc (l : List UInt8) (c : UInt8) : getB (l ++ [c]) = 256 * getB l + c.toNat := by simp [getB, getF, List.foldl_append]
theorem getB_take (l : List UInt8) (k : Nat) (h : k < l.length) : getB (l.take (k + 1)) = 256 * getB (l.take k) + (l[k]).toNat := by
  rw [List.take_succ_eq_append_getElem h, getB_snoc]
theorem getF_lt (n : Nat) (l : List UInt8) : getF n l + 1 ≤ (n + 1) * 256 ^ l.length := by
  induction l generalizing n with
  | nil => simp [getF]
  | cons c l ih =>
    have := ih (256 * n + c.toNat)
    have h1 : c.toNat < 256 := c.toNat_lt
    simp only [getF, List.foldl_cons, List.length_cons] at this ⊢
    refine Nat.le_trans this ?_
    rw [Nat.pow_succ, Nat.mul_comm (256 ^ l.length) 256, ← Nat.mul_assoc]
    exact Nat.mul_le_mul_right _ (by omega)
theorem getB_lt (l : List UInt8) : getB l < 256 ^ l.length := by have := getF_lt 0 l; simp [getB] at this ⊢; omega
theorem getB_lt7 (l : List UInt8) (k : Nat) (h : k ≤ 7) : getB (l.take k) ≤ 72057594037927935 := by
  have h1 := getB_lt (l.take k)
  have h2 : (256 : Nat) ^ (l.take k).length ≤ 256 ^ 7 := Nat.pow_le_pow_right (by omega) (by rw [List.length_take]; omega)
  have h3 : (256 : Nat) ^ 7 = 72057594037927936 := by decide
  omega
theorem or256 (m c : Nat) (hm : m ≤ 72057594037927935) (hc : c < 256) : bits .or .u64 ((m : Int) * 256) (c : Int) = ((256 * m + c : Nat) : Int) := by
  have e : ((m : Int) * 256) = ((m * 256 : Nat) : Int) := by omega
  rw [e, u64_or_nat _ _ (by omega) (by omega), nat_join 8 (m * 256) c (by omega) (by omega)]
  omega
set_option maxHeartbeats 400000 in
theorem refget_any (A : Option Addr) (n c : Nat) (xs : List UInt8) (w : World) (ha : RB w A n xs) (hn : n ≤ 8) :
    Calls Try.prog 21 #[.slice A n c] w fun e w' => e = .returned (.int .u64 (getB xs : Nat)) ∧ w = w' := by
  have HX := Lib.hid ha.len
  go_enter Try.func21, Try.ntmps21
  go_wp2
  go_loop [3, 4] (fun v i => ∃ k m : Nat, k ≤ n ∧ i = .int .i64 k ∧ v = .int .u64 m ∧ Hid (m = getB (xs.take k))) (fun _ i => n - (intOf i).toNat)
  case atStart => exact ⟨0, 0, Nat.zero_le _, rfl, rfl, rfl⟩
  case round =>
    obtain ⟨k, m, hk, rfl, rfl, HS⟩ := hrel
    by_cases hlt : k < n
    · obtain ⟨ad, rfl, hab, hac⟩ := ha.at k hlt
      have hm := getB_lt7 xs k (by omega)
      rw [← HS.out] at hm
      have HG := Lib.hid (getB_take xs k (by rw [HX.out]; exact hlt))
      have hc : (xs[k]'(by rw [HX.out]; exact hlt)).toNat < 256 := UInt8.toNat_lt _
      go_wp2
      go_round
      case rel => exact ⟨k + 1, 256 * m + (xs[k]'(by rw [HX.out]; exact hlt)).toNat, by omega, by go_num, by go_num, by rw [HG.out, HS.out]; rfl⟩
      case measure => simp [intOf]; omega
    · go_wp2
      go_ret
      exact ⟨by rw [HS.out, List.take_of_length_le (by rw [HX.out]; omega)]; rfl, rfl⟩
set_option maxHeartbeats 400000 in
theorem get_any (A : Option Addr) (n c : Nat) (xs : List UInt8) (w : World) (ha : RB w A n xs) (h1 : 1 ≤ n) (hn : n ≤ 8) :
    Calls Try.prog 39 #[.slice A n c] w fun e w' => e = .returned (.tuple #[.int .u64 (getB xs : Nat), .int .i64 0]) ∧ w = w' := by
  have HX := Lib.hid ha.len
  go_enter Try.func39, Try.ntmps39
  go_wp2
  go_loop [4, 17] (fun v i => ∃ k m : Nat, k ≤ n ∧ i = .int .i64 k ∧ v = .int .u64 m ∧ Hid (m = getB (xs.take k))) (fun _ i => n - (intOf i).toNat)
  case atStart => exact ⟨0, 0, Nat.zero_le _, rfl, rfl, rfl⟩
  case round =>
    obtain ⟨k, m, hk, rfl, rfl, HS⟩ := hrel
    by_cases hlt : k < n
    · obtain ⟨ad, rfl, hab, hac⟩ := ha.at k hlt
      have hm := getB_lt7 xs k (by omega)
      rw [← HS.out] at hm
      have HG := Lib.hid (getB_take xs k (by rw [HX.out]; exact hlt))
      have hc : (xs[k]'(by rw [HX.out]; exact hlt)).toNat < 256 := UInt8.toNat_lt _
      go_wp2
      go_round
      case rel => exact ⟨k + 1, 256 * m + (xs[k]'(by rw [HX.out]; exact hlt)).toNat, by omega, by go_num, by rw [or256 m _ hm hc], by rw [HG.out, HS.out]; rfl⟩
      case measure => simp [intOf]; omega
    · go_wp2
      go_ret2
      exact ⟨by rw [HS.out, List.take_of_length_le (by rw [HX.out]; omega)]; rfl, rfl⟩
set_option maxHeartbeats 400000 in
theorem get_bad (A : Option Addr) (n c : Nat) (w : World) (h : n < 1 ∨ 8 < n) (hn : n ≤ maxLen) :
    Calls Try.prog 39 #[.slice A n c] w fun e w' => e = .returned (.tuple #[.int .u64 0, .int .i64 1]) ∧ w = w' := by
  unfold maxLen at hn
  rcases h with h | h
  · go_enter Try.func39, Try.ntmps39
    go_wp2
    go_ret2
    exact ⟨rfl, rfl⟩
  · have h1 : ¬ n < 1 := by omega
    go_enter Try.func39, Try.ntmps39
    go_wp2
    go_ret2
    exact ⟨rfl, rfl⟩
end Go.Proofs.Ythlmldbgohnpnaa
