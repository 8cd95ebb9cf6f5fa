/- Texts: RuW1. -/
import Derived.Test.YtkpmeelbjldcoaaGreatDoorZbRu6
namespace Go.Proofs.YtkpmeelbjldcoaaGreatDoor
set_option linter.unusedVariables false
set_option linter.unusedSimpArgs false
open Go.RowKit
abbrev wV (ro ti la x y : Int) : Value := .agg #[.int .i64 ro, .int .i64 ti, .int .i64 la, .int .i64 x, .int .i64 y]
set_option maxRecDepth 100000 in
theorem lzoom_any (w : World) (v : Value) (acc : List (Rc × RV)) (ro ti la x y : Int) (h : RRd w v acc) :
    Calls Tryz.prog 23 #[v, wV ro ti la x y] w fun e w' => e = .returned (.int .i64 (zoomN acc ro ti la x y)) ∧ Below w.heap.size w w' := by
  obtain ⟨A1, c1, rfl, -, -, -⟩ := id h.1
  have HA := Lib.hid (show Below w.heap.size w (w.alloc (.cells #[.int .i64 ro, .int .i64 ti, .int .i64 la, .int .i64 x, .int .i64 y] 47)) from (Below.refl _ _).alloc (Nat.le_refl _) _)
  have HZ := Lib.hid (zoom_any _ _ acc ro ti la x y (h.below HA.out))
  clear h
  simp only [wV]
  go_enter Tryz.func23, Tryz.ntmps23
  go_wp2_with fail
  refine HZ.out.mono ?_
  rintro e w1 ⟨rfl, hb⟩
  have HB := Lib.hid (HA.out.trans (hb.mono HA.out.size))
  clear hb
  go_wp2_with fail
  go_ret
  exact ⟨rfl, HB.out⟩
end Go.Proofs.YtkpmeelbjldcoaaGreatDoor
