/- geom.Corners by contract. -/
import Derived.Test.YtipfhleedfbnaaaGeomArea
namespace Go.Proofs.Ytipfhleedfbnaaa
set_option linter.unusedVariables false
set_option linter.unusedSimpArgs false
open Go.RowKit
end Go.Proofs.Ytipfhleedfbnaaa
