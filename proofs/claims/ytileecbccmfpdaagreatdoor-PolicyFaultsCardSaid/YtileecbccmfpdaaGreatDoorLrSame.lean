/- lex: the document's Same, of equal rows. -/
import Derived.Test.YtileecbccmfpdaaGreatDoorLx11
import Derived.BigQuiet
import Derived.Deep.QuietTactic
namespace Go.Proofs.YtileecbccmfpdaaGreatDoor
set_option linter.unusedVariables false
set_option linter.unusedSimpArgs false
open Go.RowKit
theorem tz_few (n : Nat) : ∀ (l : Bs) (p : Pl), (tz n l p).1.length ≤ n := by
  induction n with
  | zero => intro l p; simp [tz]
  | succ n ih =>
    intro l p
    by_cases hl : l = []
    · subst hl; simp [tz_nil]
    · by_cases he : tkE l = 0
      · rw [tz_ok hl he]
        unfold app
        split
        · simp
        · simp only [List.length_append, List.length_singleton]
          have := ih (skp false (l.drop (tkA l).length) (advs p (tkA l))).1 (skp false (l.drop (tkA l).length) (advs p (tkA l))).2
          omega
      · rw [tz_err hl (by omega) he]; simp
theorem toks_few (l : Bs) : (toks l).1.length ≤ 1000000 := by
  unfold toks
  split
  · simp
  · have := tz_few (l.length + 1) (skp false l (1, 1)).1 (skp false l (1, 1)).2
    omega
theorem ne_posV (a b : Int) (w : World) : (Op.equalIn 10000 25 (.agg #[.int .i64 a, .int .i64 b]) (.agg #[.int .i64 a, .int .i64 b])).run Tryz.prog w = .ok true w := by
  have u3 := Tryz.underlying3
  have a3 := Tryz.isAgg3
  have z3 := Tryz.sizeOf3
  have hS : Tryz.prog.underlying 25 = some (.struct (Tryz.prog.fieldsOf 25)) := by kernel_rfl
  have hp : Tryz.prog.stoodInHeld 25 = false := by kernel_rfl
  rw [show (10000 : Nat) = 9999 + 1 from rfl, run_equalIn_agg w 9999 25 _ _ hS hp]
  simp only [Program.fieldsOf, Tryz.underlying25]
  go_simp
attribute [local go_sem] ne_posV
end Go.Proofs.YtileecbccmfpdaaGreatDoor
