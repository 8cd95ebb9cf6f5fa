/- cell: levels, and which cells may be, by contract. -/
import Derived.Test.YtdbiaijpbkmfhaaGeomHas
import Derived.Test.YtdbiaijpbkmfhaaCellMath
namespace Go.Proofs.Ytdbiaijpbkmfhaa
set_option linter.unusedVariables false
set_option linter.unusedSimpArgs false
open Go.RowKit
def levB (L : Int) : Bool := decide (0 ≤ L ∧ L ≤ 16)
theorem levB_iff (L : Int) : levB L = true ↔ (0 ≤ L ∧ L ≤ 16) := by simp only [levB, decide_eq_true_eq]
set_option maxHeartbeats 400000 in
theorem islevel_any (L : Int) (w : World) :
    Calls Try.prog 52 #[.int .i64 L] w fun e w' => e = .returned (.bool (levB L)) ∧ w = w' := by
  go_enter Try.func52, Try.ntmps52
  go_wp2
  all_goals
    go_ret
    refine ⟨ret_bool ?_, rfl⟩
    rw [Bool.eq_iff_iff]; simp only [levB_iff, decide_eq_true_eq, Bool.false_eq_true, false_iff, true_iff, iff_true, Bool.not_eq_true] at *; omega
theorem okC_no (L x y : Int) (h : levB L = false) : okC L x y = false := by
  rw [Bool.eq_false_iff, ne_eq, okC_iff]; simp only [levB, decide_eq_false_iff_not] at h; omega
set_option maxHeartbeats 1000000 in
theorem cright_any (L x y : Int) (w : World) :
    Calls Try.prog 46 #[.agg #[.int .i64 L, .int .i64 x, .int .i64 y]] w fun e w' => e = .returned (.bool (okC L x y)) ∧ Below w.heap.size w w' := by
  rcases Bool.eq_false_or_eq_true (levB L) with h | h
  · obtain ⟨l, hl, rfl⟩ := lev L ((levB_iff L).1 h).1 ((levB_iff L).1 h).2
    have hm : min l 64 = l := by omega
    have ho := okC_iff (l : Int) x y
    simp only [Int.toNat_natCast] at ho
    have p0 := pow_pos' l
    have p1 := pow_le16 l hl
    generalize hp : (2 : Int) ^ l = p at ho p0 p1
    have HO := Lib.hid ho
    clear ho
    go_enter Try.func46, Try.ntmps46
    go_wp2_with ((go_at_call 52; refine (islevel_any _ _).mono ?_; rintro e w1 ⟨rfl, rfl⟩))
    all_goals
      go_ret
      refine ⟨ret_bool ?_, by go_grown⟩
      have ho := HO.out
      rw [Bool.eq_iff_iff]; simp only [decide_eq_true_eq, Bool.false_eq_true, false_iff, true_iff, iff_true, Bool.not_eq_true, ho] at *; omega
  · have HN := Lib.hid (okC_no L x y h)
    go_enter Try.func46, Try.ntmps46
    go_wp2_with ((go_at_call 52; refine (islevel_any _ _).mono ?_; rintro e w1 ⟨rfl, rfl⟩))
    all_goals
      go_ret
      exact ⟨ret_bool HN.out.symm, by go_grown⟩
end Go.Proofs.Ytdbiaijpbkmfhaa
