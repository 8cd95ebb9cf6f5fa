/- geom by contract, one form for all arguments: what a layer above geom needs without the document's geom. -/
import Derived.Test.YtipfhleedfbnaaaGeomArea
namespace Go.Proofs.Ytipfhleedfbnaaa
set_option linter.unusedVariables false
set_option linter.unusedSimpArgs false
open Go.RowKit
def okM (a b c d a1 b1 c1 d1 : Int) : Bool := rightB a b c d && (rightB a1 b1 c1 d1 && rightB (max a a1) (max b b1) (min c c1) (min d d1))
def m0 (a b c d a1 b1 c1 d1 : Int) : Int := if okM a b c d a1 b1 c1 d1 = true then max a a1 else 0
def m1 (a b c d a1 b1 c1 d1 : Int) : Int := if okM a b c d a1 b1 c1 d1 = true then max b b1 else 0
def m2 (a b c d a1 b1 c1 d1 : Int) : Int := if okM a b c d a1 b1 c1 d1 = true then min c c1 else 0
def m3 (a b c d a1 b1 c1 d1 : Int) : Int := if okM a b c d a1 b1 c1 d1 = true then min d d1 else 0
def areaU (a b c d : Int) : Int := if rightB a b c d = true then (c - a + 1) * (d - b + 1) else 0
theorem bcase (b : Bool) : b = true ∨ b = false := by cases b <;> simp
theorem area_u (a b c d : Int) (w : World) : Calls Try.prog 28 #[.agg #[.int .i64 a, .int .i64 b, .int .i64 c, .int .i64 d]] w fun e w' => e = .returned (.int .u64 (areaU a b c d)) ∧ Below w.heap.size w w' := by
  rcases bcase (rightB a b c d) with h1 | h1
  · have := area_yes a b c d h1 w
    simpa [areaU, h1] using this
  · have := area_no a b c d h1 w
    simpa [areaU, h1] using this
end Go.Proofs.Ytipfhleedfbnaaa
