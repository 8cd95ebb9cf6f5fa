/- policy: place, takes, takesKind, name, number, by contract. -/
import Derived.Test.YtmgamlpjgghieaaGreatDoorZbPo0
import Derived.BigQuiet
namespace Go.Proofs.YtmgamlpjgghieaaGreatDoor
set_option linter.unusedVariables false
set_option linter.unusedSimpArgs false
open Go.RowKit
abbrev tkV (x : Tk) : Value := .agg #[.int .i64 x.k, .string (bs x.t), .int .i64 x.n, .int .i64 x.p.1, .int .i64 x.p.2]
abbrev ptr (r : Nat) : Value := .pointer (some ⟨r, 0, none⟩)
theorem bs_ne {a b : Bs} (h : a ≠ b) : ((bs a).toList == (bs b).toList) = false := by
  refine beq_eq_false_iff_ne.2 fun e => h (bs_inj (toList_inj e))
theorem But.alloc {r : Nat} {w w' : World} (h : But r w w') (o : Obj) : But r w (w'.alloc o) := h.trans (But.of_below ((Below.refl _ _).alloc (Nat.le_refl _) _))
end Go.Proofs.YtmgamlpjgghieaaGreatDoor
