/- Texts: PoV. -/
import Derived.Test.YtkpmeelbjldcoaaGreatDoorZbPo5
import Derived.Test.YtkpmeelbjldcoaaGreatDoorZbLxVars
namespace Go.Proofs.YtkpmeelbjldcoaaGreatDoor
set_option linter.unusedVariables false
set_option linter.unusedSimpArgs false
open Go.RowKit
theorem gHeads : Tryz.prog.globalNamed "paravent/policy.heads" = some 0 := by kernel_rfl
theorem gtHeads : (Tryz.prog.globals[0]?).map (·.type) = some 136 := by kernel_rfl
theorem hs_of_laid {W : World} (h : laidMet Tryz.prog laidL W) : Hs W := by
  have hw : Lib.VarReads Tryz.prog W "paravent/policy.heads" (.agg (headsL.map fun b => .lit (.string b))) := Lib.laidMet.reads h (by simp [laidL, Rows.laid_paravent_policy_heads, headsL, wRole, wLabel, wRegion, wAllow, wCap, wCloak])
  exact ⟨strs_of gHeads gtHeads Tryz.underlying136 hw rfl⟩
theorem Hs.lt {W : World} (h : Hs W) : 0 < W.heap.size := World.block_lt_of_cell? W _ (h.h 0 (by decide))
end Go.Proofs.YtkpmeelbjldcoaaGreatDoor
