/- cell.Home by contract. -/
import Derived.Test.YtdbiaijpbkmfhaaCellSnap
import Derived.Test.YtdbiaijpbkmfhaaGeomCornP
import Derived.Deep.LoopGhost
import Derived.Outline
import Derived.RegionTactic
namespace Go.Proofs.Ytdbiaijpbkmfhaa
set_option linter.unusedVariables false
set_option linter.unusedSimpArgs false
open Go.RowKit
theorem smB_iff (a b c d : Int) (l : Nat) : smB a b c d l = true ↔ (c / 2 ^ (16 - l) = a / 2 ^ (16 - l) ∧ d / 2 ^ (16 - l) = b / 2 ^ (16 - l)) := by
  simp only [smB, decide_eq_true_eq]; exact ⟨fun h => ⟨h.1.symm, h.2.symm⟩, fun h => ⟨h.1.symm, h.2.symm⟩⟩
theorem sm_zero (a b c d : Int) (h : rightB a b c d = true) : smB a b c d 0 = true := by
  have hr := (rightB_iff _ _ _ _).1 h
  rw [smB_iff]
  have e : (2 : Int) ^ (16 - 0) = 65536 := by decide
  rw [e]; omega
theorem div_16 (a : Int) (h0 : 0 ≤ a) (h1 : a ≤ 65535) : a / 2 ^ (16 - (0 - 1)) = 0 := by
  rw [show (2 : Int) ^ (16 - (0 - 1)) = 65536 by decide]; omega
/-- What stands at the head of round k. -/
def HomeR (a b c d : Int) (w : World) (gC gH : Nat) (k : Nat) (wr : World) : Prop :=
  k ≤ 17 ∧ (∀ j, j < k → smB a b c d j = true) ∧ Below w.heap.size w wr ∧ Blk wr w.heap.size 67 #[.int .i64 a, .int .i64 b, .int .i64 c, .int .i64 d] ∧ Blk wr (w.heap.size + 1) 24 #[.int .i64 0, .int .i64 0, .int .i64 0] ∧ Blk wr gC 29 #[.int .i64 a, .int .i64 b, .int .i64 c, .int .i64 b, .int .i64 a, .int .i64 d, .int .i64 c, .int .i64 d] ∧ Blk wr gH 24 #[.int .i64 (((k - 1 : Nat) : Int)), .int .i64 (a / 2 ^ (16 - (k - 1))), .int .i64 (b / 2 ^ (16 - (k - 1)))] ∧ w.heap.size + 1 < gH
def h0 (a b c d : Int) : Int := if rightB a b c d = true then (hlv a b c d 16 : Int) else 0
def h1 (a b c d : Int) : Int := if rightB a b c d = true then a / 2 ^ (16 - hlv a b c d 16) else 0
def h2 (a b c d : Int) : Int := if rightB a b c d = true then b / 2 ^ (16 - hlv a b c d 16) else 0
end Go.Proofs.Ytdbiaijpbkmfhaa
