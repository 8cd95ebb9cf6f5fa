/- geom.Corners by contract. -/
import Derived.Test.YtjikbcaapmfhoaaGeomArea
namespace Go.Proofs.Ytjikbcaapmfhoaa
set_option linter.unusedVariables false
set_option linter.unusedSimpArgs false
open Go.RowKit
end Go.Proofs.Ytjikbcaapmfhoaa
