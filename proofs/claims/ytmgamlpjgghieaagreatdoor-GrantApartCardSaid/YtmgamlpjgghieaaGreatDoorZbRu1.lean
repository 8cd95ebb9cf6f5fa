/- rules: numbers in sums, by contract. -/
import Derived.Test.YtmgamlpjgghieaaGreatDoorZbGeomM
namespace Go.Proofs.YtmgamlpjgghieaaGreatDoor
set_option linter.unusedVariables false
set_option linter.unusedSimpArgs false
open Go.RowKit
def withinB (n m : Int) : Bool := decide (0 ≤ n) && decide (n ≤ m)
theorem within_any (n m : Int) (w : World) : Calls Tryz.prog 69 #[.int .i64 n, .int .i64 m] w fun e w' => e = .returned (.bool (withinB n m)) ∧ w = w' := by
  unfold withinB
  by_cases h : 0 ≤ n
  · go_enter Tryz.func69, Tryz.ntmps69
    go_wp2_with fail
    go_ret
    exact ⟨by simp [h], rfl⟩
  · go_enter Tryz.func69, Tryz.ntmps69
    go_wp2_with fail
    go_ret
    exact ⟨by simp; omega, rfl⟩
theorem all7_any (w : World) : Calls Tryz.prog 70 #[.int .i64 7] w fun e w' => e = .returned (.int .i64 255) ∧ w = w' := by
  go_enter Tryz.func70, Tryz.ntmps70
  go_wp2_with fail
  go_ret
  exact ⟨rfl, rfl⟩
theorem and_one : ∀ m : Nat, m < 256 → (bits BinOp.and IntKind.i64 (m : Int) 1 == 1) = decide ((m : Int) % 2 = 1) := by decide +kernel
/-- Whether a number is one of a sum's. -/
def inB (s n : Int) : Bool := decide (s / 2 ^ n.toNat % 2 = 1)
def amongB (s n : Int) : Bool := withinB n 7 && inB s n
theorem among_any (s n : Int) (hs : 0 ≤ s ∧ s ≤ 255) (w : World) : Calls Tryz.prog 60 #[.int .i64 s, .int .i64 n, .int .i64 7] w fun e w' => e = .returned (.bool (amongB s n)) ∧ w = w' := by
  have HW := Lib.hid (within_any n 7 w)
  by_cases h : withinB n 7 = true
  · have h2 := h
    unfold withinB at h2
    simp only [Bool.and_eq_true, decide_eq_true_eq] at h2
    have HA := Lib.hid (show amongB s n = inB s n by unfold amongB; rw [h]; rfl)
    rw [h] at HW
    obtain ⟨k, rfl⟩ : ∃ k : Nat, n = (k : Int) := ⟨n.toNat, by omega⟩
    have hk : k = 0 ∨ k = 1 ∨ k = 2 ∨ k = 3 ∨ k = 4 ∨ k = 5 ∨ k = 6 ∨ k = 7 := by omega
    go_enter Tryz.func60, Tryz.ntmps60
    go_wp2_with fail
    refine HW.out.mono ?_
    rintro e w1 ⟨rfl, hw⟩
    subst hw
    go_wp2_with fail
    go_ret
    refine ⟨?_, rfl⟩
    rw [HA.out]
    unfold inB
    have h0 : 0 ≤ s / 2 ^ k := Int.ediv_nonneg hs.1 (Int.pow_nonneg (by decide))
    have h9 : s / 2 ^ k ≤ 255 := Int.le_trans (Int.ediv_le_self _ hs.1) hs.2
    have e : (bits BinOp.and IntKind.i64 (s / 2 ^ k) 1 == 1) = decide (s / 2 ^ k % 2 = 1) := by
      obtain ⟨m, hm⟩ : ∃ m : Nat, s / 2 ^ k = (m : Int) := ⟨(s / 2 ^ k).toNat, by omega⟩
      rw [hm]
      exact and_one m (by omega)
    show Ending.returned (Value.bool (bits BinOp.and IntKind.i64 (s / 2 ^ k) 1 == 1)) = _
    rw [e]
    rfl
  · have h1 : withinB n 7 = false := by simpa using h
    have HA := Lib.hid (show amongB s n = false by unfold amongB; rw [h1]; rfl)
    rw [h1] at HW
    go_enter Tryz.func60, Tryz.ntmps60
    go_wp2_with fail
    refine HW.out.mono ?_
    rintro e w1 ⟨rfl, hw⟩
    subst hw
    go_wp2_with fail
    go_ret
    exact ⟨by rw [HA.out]; rfl, rfl⟩
end Go.Proofs.YtmgamlpjgghieaaGreatDoor
