/- policy: tiers, after, by contract. -/
import Derived.Test.YtmgamlpjgghieaaGreatDoorZbPo2
namespace Go.Proofs.YtmgamlpjgghieaaGreatDoor
set_option linter.unusedVariables false
set_option linter.unusedSimpArgs false
open Go.RowKit
end Go.Proofs.YtmgamlpjgghieaaGreatDoor
