/- geom.Hull, Meets, Area, Nearest, Apart by contract. -/
import Derived.Test.YtdbiaijpbkmfhaaGeomMeet
namespace Go.Proofs.Ytdbiaijpbkmfhaa
set_option linter.unusedVariables false
set_option linter.unusedSimpArgs false
open Go.RowKit
attribute [local go_sem high] run_max2 run_min2
theorem mul_bd (x y : Int) (hx : 0 ≤ x) (hx' : x ≤ 65536) (hy : 0 ≤ y) (hy' : y ≤ 65536) : 0 ≤ x * y ∧ x * y ≤ 4294967296 := by
  have h1 : 0 ≤ x * y := Int.mul_nonneg hx hy
  have h2 : x * y ≤ 65536 * 65536 := Int.mul_le_mul hx' hy' hy (by omega)
  omega
end Go.Proofs.Ytdbiaijpbkmfhaa
