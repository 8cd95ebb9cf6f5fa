/- token: Right, Meet, by contract. -/
import Derived.Test.YtmlmndaflgfdkaaTo0
namespace Go.Proofs.Ytmlmndaflgfdkaa
set_option linter.unusedVariables false
set_option linter.unusedSimpArgs false
open Go.RowKit

set_option maxHeartbeats 2000000 in
theorem rightT_any (g : Gt) (w : World) :
    Calls Try.prog 25 #[g.V] w fun e w' => e = .returned (.bool (rightG g)) ∧ Below w.heap.size w w' := by
  obtain ⟨ops, zoom, x0, y0, x1, y1, void, til⟩ := g
  simp only [Gt.V]
  cases void with
  | true =>
    go_enter Try.func25, Try.ntmps25
    go_wp2
    all_goals
      go_ret
      refine ⟨ret_bool ?_, by go_grown⟩
      rw [Bool.eq_iff_iff]
      simp [rightG, numsB] at *
      omega
  | false =>
    go_enter Try.func25, Try.ntmps25
    go_wp2_with (go_at_call 43; refine (right_any _ _ _ _ _).mono ?_; rintro e w1 ⟨rfl, hb⟩)
    all_goals
      go_ret
      refine ⟨ret_bool ?_, by first | (go_grown; done) | exact below_trans (by go_grown) hb⟩
      rw [Bool.eq_iff_iff]
      simp [rightG, numsB] at *
      omega
end Go.Proofs.Ytmlmndaflgfdkaa
