/- The document's less, rights, by contract. -/
import Derived.Test.YtjpjkoipmmcigaaTo2
import Derived.Deep.DeepCutAuto
namespace Go.Proofs.Ytjpjkoipmmcigaa
set_option linter.unusedVariables false
set_option linter.unusedSimpArgs false
open Go.RowKit
theorem tless_any (a b : Int) (w : World) : Calls Try.prog 46 #[.int .i64 a, .int .i64 b] w fun e w' => e = .returned (.int .i64 (min a b)) ∧ w = w' := by
  by_cases h : a < b
  · have HM := Lib.hid (show min a b = a by omega)
    go_enter Try.func46, Try.ntmps46
    go_wp2
    go_ret
    exact ⟨by rw [HM.out]; rfl, rfl⟩
  · have HM := Lib.hid (show min a b = b by omega)
    go_enter Try.func46, Try.ntmps46
    go_wp2
    go_ret
    exact ⟨by rw [HM.out]; rfl, rfl⟩
/-- The rights of both, of the first k. -/
def rgt (a b : Nat) : Nat → Nat
  | 0 => 0
  | k + 1 => rgt a b k + if a / 2 ^ k % 2 = 1 ∧ b / 2 ^ k % 2 = 1 then 2 ^ k else 0
theorem rgt_and (a b : Nat) (ha : a ≤ 31) (hb : b ≤ 31) : rgt a b 5 = a &&& b := by
  have h : ∀ n m : Fin 32, rgt n.1 m.1 5 = n.1 &&& m.1 := by decide +kernel
  exact h ⟨a, by omega⟩ ⟨b, by omega⟩
theorem rgt_le (a b k : Nat) : rgt a b k < 2 ^ k := by
  induction k with
  | zero => simp [rgt]
  | succ k ih =>
    rw [rgt, Nat.pow_succ]
    split <;> omega
set_option maxHeartbeats 4000000 in
theorem rights_any (a b : Nat) (ha : a ≤ 31) (hb : b ≤ 31) (w : World) : Calls Try.prog 45 #[.int .i64 a, .int .i64 b] w fun e w' => e = .returned (.int .i64 (a &&& b : Nat)) ∧ w = w' := by
  have HR := Lib.hid (rgt_and a b ha hb)
  go_enter Try.func45, Try.ntmps45
  go_wp2_with fail
  go_loop [5, 6, 7] (fun n bit i => ∃ k p r : Nat, k ≤ 5 ∧ i = .int .i64 k ∧ bit = .int .i64 p ∧ n = .int .i64 r ∧ 1 ≤ p ∧ p ≤ 32 ∧ r < p ∧ Hid (p = 2 ^ k) ∧ Hid (r = rgt a b k)) (fun _ _ i => 5 - (intOf i).toNat)
  case atStart => exact ⟨0, 1, 0, by omega, rfl, rfl, rfl, by omega, by omega, by omega, rfl, rfl⟩
  case round =>
    obtain ⟨k, p, r, hk, rfl, rfl, rfl, hp1, hp2, hrp, HP, HQ⟩ := hrel
    by_cases hlt : k < 5
    · have hp16 : p ≤ 16 := by
        have h1 : 2 ^ k ≤ 2 ^ 4 := Nat.pow_le_pow_right (by omega) (by omega)
        rw [← HP.out] at h1; omega
      have HN := Lib.hid (show rgt a b (k + 1) = r + if a / p % 2 = 1 ∧ b / p % 2 = 1 then p else 0 by rw [rgt, ← HQ.out, ← HP.out])
      have HP2 := Lib.hid (show 2 * p = 2 ^ (k + 1) by rw [Nat.pow_succ, ← HP.out]; omega)
      have hpz : ¬ (p : Int) = 0 := by omega
      have HDA := Lib.hid (show ((a : Int) / (p : Int)) = ((a / p : Nat) : Int) by simp)
      have HDB := Lib.hid (show ((b : Int) / (p : Int)) = ((b / p : Nat) : Int) by simp)
      have hqa : (a : Int) / (p : Int) ≤ 31 := by rw [HDA.out]; have := Nat.le_trans (Nat.div_le_self a p) ha; omega
      have hqb : (b : Int) / (p : Int) ≤ 31 := by rw [HDB.out]; have := Nat.le_trans (Nat.div_le_self b p) hb; omega
      have hqa0 : 0 ≤ (a : Int) / (p : Int) := by rw [HDA.out]; exact Int.natCast_nonneg _
      have hqb0 : 0 ≤ (b : Int) / (p : Int) := by rw [HDB.out]; exact Int.natCast_nonneg _
      by_cases h1 : a / p % 2 = 1
      · by_cases h2 : b / p % 2 = 1
        · have HN2 := Lib.hid (show r + p = rgt a b (k + 1) by rw [HN.out, if_pos ⟨h1, h2⟩])
          have ea : (((a : Int) / (p : Int) % 2) == 1) = true := by rw [HDA.out]; generalize a / p = qq at h1; simp; omega
          have eb : (((b : Int) / (p : Int) % 2) == 1) = true := by rw [HDB.out]; generalize b / p = qq at h2; simp; omega
          clear h1 h2
          go_wp2
          go_round
          case rel => exact ⟨k + 1, 2 * p, r + p, by omega, by go_num, by go_num, by go_num, by omega, by omega, by omega, HP2, HN2⟩
          case measure => simp [intOf]; omega
        · have HN2 := Lib.hid (show r = rgt a b (k + 1) by rw [HN.out, if_neg (fun h => h2 h.2)]; omega)
          have ea : (((a : Int) / (p : Int) % 2) == 1) = true := by rw [HDA.out]; generalize a / p = qq at h1; simp; omega
          have eb : (((b : Int) / (p : Int) % 2) == 1) = false := by rw [HDB.out]; generalize b / p = qq at h2; simp; omega
          clear h1 h2
          go_wp2
          go_round
          case rel => exact ⟨k + 1, 2 * p, r, by omega, by go_num, by go_num, rfl, by omega, by omega, by omega, HP2, HN2⟩
          case measure => simp [intOf]; omega
      · have HN2 := Lib.hid (show r = rgt a b (k + 1) by rw [HN.out, if_neg (fun h => h1 h.1)]; omega)
        have ea : (((a : Int) / (p : Int) % 2) == 1) = false := by rw [HDA.out]; generalize a / p = qq at h1; simp; omega
        clear h1
        go_wp2
        go_round
        case rel => exact ⟨k + 1, 2 * p, r, by omega, by go_num, by go_num, rfl, by omega, by omega, by omega, HP2, HN2⟩
        case measure => simp [intOf]; omega
    · obtain rfl : k = 5 := by omega
      have HE := Lib.hid (show r = a &&& b by rw [HQ.out, HR.out])
      go_wp2
      go_ret
      exact ⟨by rw [← HE.out]; rfl, rfl⟩
end Go.Proofs.Ytjpjkoipmmcigaa
