/- pyramid: one that is not there; the fixed calls. -/
import Derived.Test.YtipfhleedfbnaaaPy7
namespace Go.Proofs.Ytipfhleedfbnaaa
set_option linter.unusedVariables false
set_option linter.unusedSimpArgs false
open Go.RowKit
set_option maxRecDepth 100000 in
set_option maxHeartbeats 2000000 in
theorem count_nil (L cx cy : Int) (w : World) :
    Calls Try.prog 16 #[.pointer none, .agg #[.int .i64 L, .int .i64 cx, .int .i64 cy]] w fun e w' => e = .returned (.int .i64 0) ∧ Below w.heap.size w w' := by
  have HCD := Lib.hid (code_u L cx cy)
  generalize codU L cx cy = cc at *
  generalize okC L cx cy = ob at *
  have hA : Below w.heap.size w (w.alloc (.cells #[.int .i64 L, .int .i64 cx, .int .i64 cy] 35)) := (Below.refl _ _).alloc (Nat.le_refl _) _
  go_enter Try.func16, Try.ntmps16
  go_wp2_with fail
  refine (HCD.out _).mono ?_
  rintro e w2 ⟨rfl, hb2⟩
  have HB2 := Lib.hid (below_trans hA hb2)
  clear hA hb2
  go_wp2
  go_ret
  exact ⟨rfl, HB2.out⟩
set_option maxHeartbeats 2000000 in
theorem add_nil (p : Pn) (w : World) :
    Calls Try.prog 11 #[.pointer none, .agg #[.int .i64 p.1, .int .i64 p.2]] w fun e w' => e = .returned (.bool false) ∧ Below w.heap.size w w' := by
  go_enter Try.func11, Try.ntmps11
  go_wp2
  go_ret
  exact ⟨rfl, by go_grown⟩
end Go.Proofs.Ytipfhleedfbnaaa
