/- lex: the document's Same, places off. -/
import Derived.Test.YtileecbccmfpdaaGreatDoorLrSame
namespace Go.Proofs.YtileecbccmfpdaaGreatDoor
set_option linter.unusedVariables false
set_option linter.unusedSimpArgs false
open Go.RowKit
/-- Texts, something between two. -/
def jnX (b : Bs) : List Tk → Bs
  | [] => []
  | [x] => x.t
  | x :: y :: L => x.t ++ (b ++ jnX b (y :: L))
theorem jn_snoc (b : Bs) (x : Tk) : ∀ (L : List Tk), L ≠ [] → jnX b (L ++ [x]) = jnX b L ++ (b ++ x.t) := by
  intro L
  induction L with
  | nil => intro h; exact absurd rfl h
  | cons y L ih =>
    intro _
    cases L with
    | nil => simp [jnX]
    | cons z L =>
      have := ih (by simp)
      simp only [List.cons_append] at this ⊢
      rw [jnX, this, jnX]
      simp
end Go.Proofs.YtileecbccmfpdaaGreatDoor
