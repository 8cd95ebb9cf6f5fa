/- cell.Box by contract. -/
import Derived.Test.YtbddphmhhfncaaaCellRight
import Derived.Deep.RegionHeld3
import Derived.Deep.RegionWith
import Derived.IntWalk
namespace Go.Proofs.Ytbddphmhhfncaaa
set_option linter.unusedVariables false
set_option linter.unusedSimpArgs false
open Go.RowKit
end Go.Proofs.Ytbddphmhhfncaaa
