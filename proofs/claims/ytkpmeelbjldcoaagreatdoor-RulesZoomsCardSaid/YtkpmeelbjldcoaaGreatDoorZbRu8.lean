/- Texts: Ru8. -/
import Derived.Test.YtkpmeelbjldcoaaGreatDoorZbRu6
import Derived.Test.YtkpmeelbjldcoaaGreatDoorZbPo15
namespace Go.Proofs.YtkpmeelbjldcoaaGreatDoor
set_option linter.unusedVariables false
set_option linter.unusedSimpArgs false
open Go.RowKit
abbrev fauV (e : Int) (p : Pl) : Value := .agg #[.int .i64 e, .int .i64 p.1, .int .i64 p.2]
def fauP (e : Int) (p : Pl) : Value := if e = 0 then fauV 0 (0, 0) else fauV e p
set_option maxRecDepth 100000 in
theorem fault_any (e : Int) (p : Pl) (w : World) : Calls Tryz.prog 54 #[.int .i64 e, .agg #[.int .i64 p.1, .int .i64 p.2]] w fun r w' => r = .returned (fauP e p) ∧ Below w.heap.size w w' := by
  have HE := Lib.hid (show e = 0 → fauP e p = fauV 0 (0, 0) from fun h => if_pos h)
  have HN := Lib.hid (show e ≠ 0 → fauP e p = fauV e p from fun h => if_neg h)
  have HB : Hid (∀ x y : Array Value, Below w.heap.size w ((w.alloc (.cells x 27)).alloc (.cells y 29))) := Lib.hid fun x y => ((Below.refl _ _).alloc (Nat.le_refl _) _).alloc (by simp) _
  by_cases h : e = 0
  · have H2 := Lib.hid (HE.out h)
    subst h
    go_enter Tryz.func54, Tryz.ntmps54
    go_wp2_with fail
    refine bodyPost_ret (v := fauV 0 (0, 0)) ?_ rfl ⟨by rw [H2.out], HB.out _ _⟩
    simp [results, Tryz.results54, go_sem, *]
  · have H2 := Lib.hid (HN.out h)
    have hb : (e == 0) = false := beq_eq_false_iff_ne.2 h
    clear h HE HN
    go_enter Tryz.func54, Tryz.ntmps54
    go_wp2_with fail
    refine bodyPost_ret (v := fauV e p) ?_ rfl ⟨by rw [H2.out], HB.out _ _⟩
    simp [results, Tryz.results54, go_sem, *]
end Go.Proofs.YtkpmeelbjldcoaaGreatDoor
