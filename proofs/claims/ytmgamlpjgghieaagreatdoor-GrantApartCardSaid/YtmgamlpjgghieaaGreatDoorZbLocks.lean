/- The numbers of a lock's functions and types at this seat, and that it bears them. -/
import Derived.Test.YtmgamlpjgghieaaGreatDoorRows
import Derived.Conc.MuLone
import Derived.KernelRfl
namespace Go.Proofs.YtmgamlpjgghieaaGreatDoor
abbrev muLink : Go.Conc.Locks.MuLink := { lock := 56, unlock := 57, ilock := 72, iunlock := 73, lockSlow := 83, unlockSlow := 86, disable := 79, enable := 81, acquire := 82, relMerge := 84, cas32 := 80, add32 := 85, tMutex := 73, tIMutex := 71, tPMutex := 105, tPIMutex := 115, tPI32 := 117, tUP := 119, tNoCopy := 68, tU32 := 69 }
theorem muLib : Go.Conc.Locks.MuLib Tryz.prog muLink := by
  constructor <;> first | kernel_rfl | (intro w; kernel_rfl)
end Go.Proofs.YtmgamlpjgghieaaGreatDoor
