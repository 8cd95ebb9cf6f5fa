/- What must come of fixed calls (law.go's known). -/
import Derived.Test.YtonadchibakaeaaSe2
namespace Go.Proofs.Ytonadchibakaeaa
set_option linter.unusedVariables false
set_option linter.unusedSimpArgs false
open Go.RowKit
theorem kf1 (A : Option Addr) (c : Nat) (w : World) (hA : RU w A 3 [5, 7, 7]) : Calls Try.prog 10 #[.slice A 3 c, .int .u64 7] w fun e w' => e = .returned (.tuple #[.int .i64 1, .int .i64 24]) ∧ Below w.heap.size w w' := by
  have h := find_any [5, 7, 7] A 3 c 7 (by omega) w hA (by omega)
  have e1 : fnd [5, 7, 7] 7 = 1 := by decide
  rw [e1] at h
  exact h
theorem kf2 (A : Option Addr) (c : Nat) (w : World) (hA : RU w A 3 [5, 7, 0]) : Calls Try.prog 10 #[.slice A 3 c, .int .u64 0] w fun e w' => e = .returned (.tuple #[.int .i64 (-1), .int .i64 24]) ∧ Below w.heap.size w w' := by
  have h := find_any [5, 7, 0] A 3 c 0 (by omega) w hA (by omega)
  have e1 : fnd [5, 7, 0] 0 = -1 := by decide
  rw [e1] at h
  exact h
theorem km (w : World) : Calls Try.prog 13 #[.int .u64 255] w fun e w' => e = .returned (.string ⟨#[48, 48, 42, 42, 42, 42, 42, 42, 42, 42, 42, 42, 42, 42, 42, 42]⟩) ∧ Below w.heap.size w w' := by
  have h := mask_any 255 (by omega) w
  have e1 : maskB 255 = ⟨#[48, 48, 42, 42, 42, 42, 42, 42, 42, 42, 42, 42, 42, 42, 42, 42]⟩ := by decide +kernel
  rw [e1] at h
  exact h
set_option maxHeartbeats 1000000 in
theorem sknown_any (w : World) : Calls Try.prog 9 #[] w fun e w' => e = .returned (.bool true) ∧ Below w.heap.size w w' := by
  go_enter Try.func9, Try.ntmps9
  go_wp2_with fail
  refine (kf1 _ _ _ (by exact RU_new w _ [5, 7, 7] (by decide) (by decide))).mono ?_
  rintro e w1 ⟨rfl, hb1⟩
  go_wp2_with fail
  refine (kf2 _ _ _ (by exact RU_new w1 _ [5, 7, 0] (by decide) (by decide))).mono ?_
  rintro e w2 ⟨rfl, hb2⟩
  have HB := Lib.hid (show Below w.heap.size w w2 from below_trans (((Below.refl w.heap.size w).alloc (Nat.le_refl _) _).trans (hb1.mono (by simp))) (((Below.refl w1.heap.size w1).alloc (Nat.le_refl _) _).trans (hb2.mono (by simp))))
  clear hb1 hb2
  go_wp2_with fail
  refine (km _).mono ?_
  rintro e w3 ⟨rfl, hb3⟩
  go_wp2
  go_ret
  exact ⟨rfl, below_trans HB.out hb3⟩
end Go.Proofs.Ytonadchibakaeaa
