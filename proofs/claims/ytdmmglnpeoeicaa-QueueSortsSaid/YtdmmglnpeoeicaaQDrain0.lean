/- queue: Drain of a queue without entries; the law's head. -/
import Derived.Test.YtdmmglnpeoeicaaQKnown
namespace Go.Proofs.Ytdmmglnpeoeicaa
set_option linter.unusedVariables false
set_option linter.unusedSimpArgs false
open Go.RowKit
set_option maxHeartbeats 1000000 in
theorem qdrain_none (a : Option Addr) (most : Int) (w : World) (h : NoneAt w a) (hm : -9223372036854775808 ≤ most ∧ most ≤ 9223372036854775807) : Calls Try.prog 16 #[.pointer a, .int .i64 most] w fun e w' => e = .returned (.slice none 0 0) ∧ Below w.heap.size w w' := by
  have HN := Lib.hid h; clear h
  by_cases h0 : 0 < most
  · have HP := Lib.hid (qpop_none a w HN.out)
    go_enter Try.func16, Try.ntmps16
    go_wp2
    refine wp_loop_rounds 1 ?_
    rw [rounds_succ]
    go_wp2_with fail
    refine HP.out.mono ?_
    rintro e w1 ⟨he, hb⟩
    unfold enV at he
    subst he
    have hz := hb.size
    go_wp2
    go_ret
    exact ⟨rfl, by go_grown⟩
  · go_enter Try.func16, Try.ntmps16
    go_wp2
    refine wp_loop_rounds 1 ?_
    rw [rounds_succ]
    go_wp2
    go_ret
    exact ⟨rfl, Below.refl _ _⟩
end Go.Proofs.Ytdmmglnpeoeicaa
