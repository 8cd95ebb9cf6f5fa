/- geom by contract, one form for all arguments: what a layer above geom needs without the document's geom. -/
import Derived.Test.YtdbiaijpbkmfhaaGeomArea
namespace Go.Proofs.Ytdbiaijpbkmfhaa
set_option linter.unusedVariables false
set_option linter.unusedSimpArgs false
open Go.RowKit
def okM (a b c d a1 b1 c1 d1 : Int) : Bool := rightB a b c d && (rightB a1 b1 c1 d1 && rightB (max a a1) (max b b1) (min c c1) (min d d1))
def m0 (a b c d a1 b1 c1 d1 : Int) : Int := if okM a b c d a1 b1 c1 d1 = true then max a a1 else 0
def m1 (a b c d a1 b1 c1 d1 : Int) : Int := if okM a b c d a1 b1 c1 d1 = true then max b b1 else 0
def m2 (a b c d a1 b1 c1 d1 : Int) : Int := if okM a b c d a1 b1 c1 d1 = true then min c c1 else 0
def m3 (a b c d a1 b1 c1 d1 : Int) : Int := if okM a b c d a1 b1 c1 d1 = true then min d d1 else 0
def areaU (a b c d : Int) : Int := if rightB a b c d = true then (c - a + 1) * (d - b + 1) else 0
theorem bcase (b : Bool) : b = true ∨ b = false := by cases b <;> simp
end Go.Proofs.Ytdbiaijpbkmfhaa
