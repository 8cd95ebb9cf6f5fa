/- num.Plus by contract. -/
import Derived.Test.YtdnjhaplofakbaaRows
import Derived.WalkKit
import Derived.ProofKit
import Derived.OpenShut
namespace Go.Proofs.Ytdnjhaplofakbaa
set_option linter.unusedVariables false
set_option linter.unusedSimpArgs false
open Go.RowKit
def plusS (a b m : Int) : Int := if m < a then m else if m - a < b then m else a + b
set_option maxHeartbeats 400000 in
theorem plus_any (a b m : Int) (ha : 0 ≤ a) (hb : 0 ≤ b) (hm : 0 ≤ m) (ha' : a ≤ 18446744073709551615) (hb' : b ≤ 18446744073709551615) (hm' : m ≤ 18446744073709551615) (w : World) :
    Calls Try.prog 24 #[.int .u64 a, .int .u64 b, .int .u64 m] w fun e w' => e = .returned (.int .u64 (plusS a b m)) ∧ w = w' := by
  by_cases h1 : m < a
  · have HP : Hid (plusS a b m = m) := if_pos h1
    go_enter Try.func24, Try.ntmps24
    go_wp2
    go_ret
    exact ⟨by rw [HP.out]; rfl, rfl⟩
  · by_cases h2 : m - a < b
    · have HP : Hid (plusS a b m = m) := by unfold plusS; rw [if_neg h1, if_pos h2]; rfl
      go_enter Try.func24, Try.ntmps24
      go_wp2
      go_ret
      exact ⟨by rw [HP.out]; rfl, rfl⟩
    · have HP : Hid (plusS a b m = a + b) := by unfold plusS; rw [if_neg h1, if_neg h2]; rfl
      go_enter Try.func24, Try.ntmps24
      go_wp2
      go_ret
      exact ⟨by rw [HP.out]; rfl, rfl⟩
end Go.Proofs.Ytdnjhaplofakbaa
