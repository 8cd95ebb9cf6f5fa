/- geom.Corners by contract. -/
import Derived.Test.YtdbiaijpbkmfhaaGeomArea
namespace Go.Proofs.Ytdbiaijpbkmfhaa
set_option linter.unusedVariables false
set_option linter.unusedSimpArgs false
open Go.RowKit
end Go.Proofs.Ytdbiaijpbkmfhaa
