/- policy: same declarations are the same, by contract. -/
import Derived.Test.YtmgamlpjgghieaaGreatDoorZbPo12
namespace Go.Proofs.YtmgamlpjgghieaaGreatDoor
set_option linter.unusedVariables false
set_option linter.unusedSimpArgs false
open Go.RowKit
theorem ERd.cell {α : Type} {E : El α} {w : World} {A : Option Addr} {n c : Nat} {L : List α} (h : ERd E w (.slice A n c) L) {i : Nat} {x : α} (hx : L[i]? = some x) : ∃ g o, A = some ⟨g, o, none⟩ ∧ ∀ j u, (E.enc x)[j]? = some u → w.cell? ⟨g, o + i * E.k + j, none⟩ = some u := by
  obtain ⟨A', c', e, _, _, h3⟩ := h
  injection e with e1 e2 e3
  subst e1
  exact h3 i x hx
end Go.Proofs.YtmgamlpjgghieaaGreatDoor
