/- geom.Meet, Meets, Hull by contract. -/
import Derived.Test.YtdbiaijpbkmfhaaGeomFar
namespace Go.Proofs.Ytdbiaijpbkmfhaa
set_option linter.unusedVariables false
set_option linter.unusedSimpArgs false
open Go.RowKit
attribute [local go_sem high] run_max2 run_min2
end Go.Proofs.Ytdbiaijpbkmfhaa
