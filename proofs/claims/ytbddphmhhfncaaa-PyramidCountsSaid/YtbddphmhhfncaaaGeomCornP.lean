/- geom.Corners by contract. -/
import Derived.Test.YtbddphmhhfncaaaGeomArea
namespace Go.Proofs.Ytbddphmhhfncaaa
set_option linter.unusedVariables false
set_option linter.unusedSimpArgs false
open Go.RowKit
end Go.Proofs.Ytbddphmhhfncaaa
