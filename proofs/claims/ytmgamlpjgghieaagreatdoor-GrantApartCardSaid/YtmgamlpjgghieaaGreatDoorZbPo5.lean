/- policy: head, body, by contract. -/
import Derived.Test.YtmgamlpjgghieaaGreatDoorZbPo4
namespace Go.Proofs.YtmgamlpjgghieaaGreatDoor
set_option linter.unusedVariables false
set_option linter.unusedSimpArgs false
open Go.RowKit
theorem headF_some {L : List Tk} {k : Nat} (hk : k < 7) (h : takesB (headsL.getD k []) L = true) (hn : ∀ j, j < k → takesB (headsL.getD j []) L = false) : headF L = some k := by
  unfold headF
  rw [List.find?_range_eq_some]
  exact ⟨h, List.mem_range.2 hk, fun j hj => by have := hn j hj; simp only [this]; rfl⟩
theorem headF_none {L : List Tk} (hn : ∀ j, j < 7 → takesB (headsL.getD j []) L = false) : headF L = none := by
  unfold headF
  rw [List.find?_eq_none]
  intro j hj
  have := hn j (List.mem_range.1 hj)
  simp only [this]; decide

theorem bx_after {s : Bs} {M : PM} (h : ∀ q, (M q).2.2.bx = q.2.bx) (q : PS) : (afterM s M q).2.2.bx = q.2.bx := by
  by_cases hT : takesB s q.1 = true
  · simp [afterM, andM, takesM, hT, h]
  · simp [afterM, andM, takesM, hT]
theorem bx_tiers (q : PS) : (tiersM q).2.2.bx = q.2.bx := by unfold tiersM; (repeat' split) <;> rfl
theorem kindL_le (k : Int) (L : List Tk) : (kindL k L).length ≤ L.length := by unfold kindL; split <;> simp
end Go.Proofs.YtmgamlpjgghieaaGreatDoor
