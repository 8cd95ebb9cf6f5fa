/- cell.Box by contract. -/
import Derived.Test.YtdbiaijpbkmfhaaCellRight
import Derived.Deep.RegionHeld3
import Derived.Deep.RegionWith
import Derived.IntWalk
namespace Go.Proofs.Ytdbiaijpbkmfhaa
set_option linter.unusedVariables false
set_option linter.unusedSimpArgs false
open Go.RowKit
end Go.Proofs.Ytdbiaijpbkmfhaa
