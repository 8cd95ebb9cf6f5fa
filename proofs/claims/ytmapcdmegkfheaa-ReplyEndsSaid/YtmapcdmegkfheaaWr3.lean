/- wire: numbers, by contract. -/
import Derived.Test.YtmapcdmegkfheaaWr2
import Derived.IntWalk
namespace Go.Proofs.Ytmapcdmegkfheaa
set_option linter.unusedVariables false
set_option linter.unusedSimpArgs false
open Go.RowKit
theorem wrapU (x : Int) : IntKind.u64.wrap x = (toU x : Int) := by unfold toU IntKind.wrap; simp [IntKind.bits, IntKind.signed]; omega
theorem wrapI {n : Nat} (h : n ≤ 18446744073709551615) : IntKind.i64.wrap (n : Int) = toI n := by unfold toI IntKind.wrap; simp [IntKind.bits, IntKind.signed]; split <;> split <;> omega
end Go.Proofs.Ytmapcdmegkfheaa
