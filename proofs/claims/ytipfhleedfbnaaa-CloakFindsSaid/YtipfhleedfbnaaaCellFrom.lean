/- cell.FromCode by contract. -/
import Derived.Test.YtipfhleedfbnaaaCellCode
import Derived.Deep.RegionHeld3
import Derived.StillTailTactics
namespace Go.Proofs.Ytipfhleedfbnaaa
set_option linter.unusedVariables false
set_option linter.unusedSimpArgs false
open Go.RowKit
theorem from_step (k c : Nat) (hk : k < 16) (hc : c < 4294967296) : ∃ d d0 d1 : Nat, d < 4 ∧ bits .and .u64 ((c : Int) / 2 ^ (2 * k)) 3 = (d : Int) ∧ bits .and .i64 (d : Int) 1 = (d0 : Int) ∧ (d : Int) / 2 = (d1 : Int) ∧ d0 < 2 ∧ d1 < 2 ∧
    0 ≤ (d0 : Int) * 2 ^ k ∧ (d0 : Int) * 2 ^ k ≤ 65536 ∧ 0 ≤ (d1 : Int) * 2 ^ k ∧ (d1 : Int) * 2 ^ k ≤ 65536 ∧
    bits .or .i64 ((unx k c : Nat) : Int) ((d0 : Int) * 2 ^ k) = ((unx (k + 1) c : Nat) : Int) ∧ bits .or .i64 ((uny k c : Nat) : Int) ((d1 : Int) * 2 ^ k) = ((uny (k + 1) c : Nat) : Int) := by
  have hp : 2 ^ k ≤ 2 ^ 16 := Nat.pow_le_pow_right (by omega) (by omega)
  have hp0 : 0 < 2 ^ k := Nat.pow_pos (by omega)
  have e4 : (2 : Nat) ^ (2 * k) = 4 ^ k := by rw [Nat.pow_mul]
  have hx := unx_or k c
  have hy := uny_or k c
  have lx := unx_lt k c
  have ly := uny_lt k c
  have hle : c / 4 ^ k ≤ c := Nat.div_le_self _ _
  have e : (c : Int) / 2 ^ (2 * k) = ((c / 4 ^ k : Nat) : Int) := by rw [← e4]; push_cast; rfl
  have eP : (2 : Int) ^ k = ((2 ^ k : Nat) : Int) := by push_cast; rfl
  have h0 : c / 4 ^ k % 4 % 2 = c / 4 ^ k % 2 := by omega
  have h1 : c / 4 ^ k % 4 / 2 = c / 4 ^ k / 2 % 2 := by omega
  have l0 : c / 4 ^ k % 2 < 2 := Nat.mod_lt _ (by omega)
  have l1 : c / 4 ^ k / 2 % 2 < 2 := Nat.mod_lt _ (by omega)
  refine ⟨c / 4 ^ k % 4, c / 4 ^ k % 2, c / 4 ^ k / 2 % 2, Nat.mod_lt _ (by omega), ?_, ?_, ?_, l0, l1, ?_, ?_, ?_, ?_, ?_, ?_⟩
  · rw [e]
    have := u64_and_nat (c / 4 ^ k) 3 (by omega) (by omega)
    have e3 : c / 4 ^ k &&& 3 = c / 4 ^ k % 4 := Nat.and_two_pow_sub_one_eq_mod _ 2
    rw [e3] at this; exact this
  · have := i64_and_nat (c / 4 ^ k % 4) 1 (by omega) (by omega)
    rw [Nat.and_one_is_mod, h0] at this; exact this
  · omega
  all_goals generalize c / 4 ^ k % 2 = d0 at *
  all_goals generalize c / 4 ^ k / 2 % 2 = d1 at *
  all_goals rw [eP]
  all_goals generalize 2 ^ k = P at *
  · exact Int.mul_nonneg (by omega) (by omega)
  · have : d0 * P ≤ 1 * P := Nat.mul_le_mul_right _ (by omega)
    have h9 : ((d0 * P : Nat) : Int) ≤ 65536 := by omega
    rwa [Int.natCast_mul] at h9
  · exact Int.mul_nonneg (by omega) (by omega)
  · have : d1 * P ≤ 1 * P := Nat.mul_le_mul_right _ (by omega)
    have h9 : ((d1 * P : Nat) : Int) ≤ 65536 := by omega
    rwa [Int.natCast_mul] at h9
  · have hm : d0 * P ≤ 1 * P := Nat.mul_le_mul_right _ (by omega)
    have := i64_or_nat (unx k c) (d0 * P) (by omega) (by omega)
    rw [hx, Int.natCast_mul] at this; exact this
  · have hm : d1 * P ≤ 1 * P := Nat.mul_le_mul_right _ (by omega)
    have := i64_or_nat (uny k c) (d1 * P) (by omega) (by omega)
    rw [hy, Int.natCast_mul] at this; exact this
def okF (L c : Int) : Bool := levB L && decide (c.toNat < 4 ^ L.toNat)
def f0 (L c : Int) : Int := if okF L c = true then L else 0
def f1 (L c : Int) : Int := if okF L c = true then ((unx L.toNat c.toNat : Nat) : Int) else 0
def f2 (L c : Int) : Int := if okF L c = true then ((uny L.toNat c.toNat : Nat) : Int) else 0
end Go.Proofs.Ytipfhleedfbnaaa
