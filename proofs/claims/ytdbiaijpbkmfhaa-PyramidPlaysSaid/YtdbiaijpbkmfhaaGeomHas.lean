/- geom: what has what, by contract. -/
import Derived.Test.YtdbiaijpbkmfhaaGeom
namespace Go.Proofs.Ytdbiaijpbkmfhaa
set_option linter.unusedVariables false
set_option linter.unusedSimpArgs false
open Go.RowKit
def inrB (a b c d x y : Int) : Bool := decide (a ≤ x ∧ x ≤ c ∧ b ≤ y ∧ y ≤ d)
theorem inrB_iff (a b c d x y : Int) : inrB a b c d x y = true ↔ (a ≤ x ∧ x ≤ c ∧ b ≤ y ∧ y ≤ d) := by simp only [inrB, decide_eq_true_eq]
end Go.Proofs.Ytdbiaijpbkmfhaa
