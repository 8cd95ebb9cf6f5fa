/- policy: the texts of a who and of tiers; numbers are put, by contract. -/
import Derived.Test.YtmgamlpjgghieaaGreatDoorZbPo8
import Derived.Lib.ItoaLen
namespace Go.Proofs.YtmgamlpjgghieaaGreatDoor
set_option linter.unusedVariables false
set_option linter.unusedSimpArgs false
open Go.RowKit
def I64 (n : Int) : Prop := -9223372036854775808 ≤ n ∧ n ≤ 9223372036854775807
theorem bs_app (a b : Bs) : bs a ++ bs b = bs (a ++ b) := by
  apply ByteArray.ext
  simp [bs, ByteArray.data_append]
theorem itoa_size {n : Int} (h : I64 n) : (bs (Lib.itoa n)).size ≤ 21 := by rw [bs_size]; exact Lib.itoa_length_le n h.1 h.2
theorem nil_isEmpty : (bs []).toList.isEmpty = true := by rw [List.isEmpty_iff, ByteArray.toList_eq]; rfl
def txWho (w : Wh) (s : Bs) : Bs := if w.any = true then s else if w.nm = [] then Lib.itoa w.n else w.nm
def txTiers (lo hi : Int) : Bs := if lo = 0 ∧ hi = 7 then wAny else if lo = hi then Lib.itoa lo else Lib.itoa lo ++ (mUp ++ Lib.itoa hi)
end Go.Proofs.YtmgamlpjgghieaaGreatDoor
