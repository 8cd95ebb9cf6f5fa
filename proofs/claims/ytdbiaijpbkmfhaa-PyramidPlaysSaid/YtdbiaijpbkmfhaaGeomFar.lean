/- geom: how far apart, areas, by contract. -/
import Derived.Test.YtdbiaijpbkmfhaaGeomHas
import Derived.Deep.RegionHeld3
import Derived.Deep.RegionWith
namespace Go.Proofs.Ytdbiaijpbkmfhaa
set_option linter.unusedVariables false
set_option linter.unusedSimpArgs false
open Go.RowKit
def gapI (a b : Int) : Int := if a ≤ b then b - a else a - b
theorem gapI_le (a b : Int) (h : a ≤ b) : gapI a b = b - a := if_pos h
theorem gapI_gt (a b : Int) (h : ¬ a ≤ b) : gapI a b = a - b := if_neg h
theorem gapI_bd (a b : Int) (ha : 0 ≤ a) (ha' : a ≤ 65535) (hb : 0 ≤ b) (hb' : b ≤ 65535) : 0 ≤ gapI a b ∧ gapI a b ≤ 65535 := by unfold gapI; split <;> omega
theorem ret_int {k : IntKind} {a b : Int} (h : a = b) : Ending.returned (.int k a) = .returned (.int k b) := by rw [h]
theorem run_max2 {P : Program} (w : World) (ts : Array TypeId) (t : TypeId) (k k' : IntKind) (x y : Int) : (Builtin.max_ ts t #[.int k x, .int k' y]).run P w = .ok (.int k (max x y)) w := by
  rw [run_max_int2]
  have : (if y > x then y else x) = max x y := by omega
  rw [this]
theorem run_min2 {P : Program} (w : World) (ts : Array TypeId) (t : TypeId) (k k' : IntKind) (x y : Int) : (Builtin.min_ ts t #[.int k x, .int k' y]).run P w = .ok (.int k (min x y)) w := by
  rw [run_min_int2]
  have : (if y < x then y else x) = min x y := by omega
  rw [this]
end Go.Proofs.Ytdbiaijpbkmfhaa
