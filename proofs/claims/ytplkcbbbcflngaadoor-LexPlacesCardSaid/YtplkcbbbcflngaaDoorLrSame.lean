/- lex: the document's Same, of equal rows. -/
import Derived.Test.YtplkcbbbcflngaaDoorLx11
import Derived.BigQuiet
import Derived.Deep.QuietTactic
namespace Go.Proofs.YtplkcbbbcflngaaDoor
set_option linter.unusedVariables false
set_option linter.unusedSimpArgs false
open Go.RowKit
theorem tz_few (n : Nat) : ∀ (l : Bs) (p : Pl), (tz n l p).1.length ≤ n := by
  induction n with
  | zero => intro l p; simp [tz]
  | succ n ih =>
    intro l p
    by_cases hl : l = []
    · subst hl; simp [tz_nil]
    · by_cases he : tkE l = 0
      · rw [tz_ok hl he]
        unfold app
        split
        · simp
        · simp only [List.length_append, List.length_singleton]
          have := ih (skp false (l.drop (tkA l).length) (advs p (tkA l))).1 (skp false (l.drop (tkA l).length) (advs p (tkA l))).2
          omega
      · rw [tz_err hl (by omega) he]; simp
theorem toks_few (l : Bs) : (toks l).1.length ≤ 1000000 := by
  unfold toks
  split
  · simp
  · have := tz_few (l.length + 1) (skp false l (1, 1)).1 (skp false l (1, 1)).2
    omega
theorem ne_posV (a b : Int) (w : World) : (Op.equalIn 10000 25 (.agg #[.int .i64 a, .int .i64 b]) (.agg #[.int .i64 a, .int .i64 b])).run Tryd.prog w = .ok true w := by
  have u3 := Tryd.underlying3
  have a3 := Tryd.isAgg3
  have z3 := Tryd.sizeOf3
  have hS : Tryd.prog.underlying 25 = some (.struct (Tryd.prog.fieldsOf 25)) := by kernel_rfl
  have hp : Tryd.prog.stoodInHeld 25 = false := by kernel_rfl
  rw [show (10000 : Nat) = 9999 + 1 from rfl, run_equalIn_agg w 9999 25 _ _ hS hp]
  simp only [Program.fieldsOf, Tryd.underlying25]
  go_simp
attribute [local go_sem] ne_posV
set_option maxRecDepth 100000 in
set_option maxHeartbeats 4000000 in
theorem same_any (A B : Option Addr) (ca cb : Nat) (L : List Tk) (w : World) (ha : EOwn elT w (.slice A L.length ca) L) (hb : EOwn elT w (.slice B L.length cb) L) (hl : L.length ≤ 1000000) : Calls Tryd.prog 10 #[.slice A L.length ca, .slice B L.length cb, .bool true] w fun e w' => e = .returned (.bool true) ∧ Below w.heap.size w w' := by
  have HA := Lib.hid ha
  have HB := Lib.hid hb
  clear ha hb
  go_enter Tryd.func10, Tryd.ntmps10
  go_wp2_with fail
  go_loopw [7] (fun i wr => ∃ j : Nat, j ≤ L.length ∧ i = .int .i64 j ∧ Hid (Below w.heap.size w wr)) (fun i _ => L.length - (intOf i).toNat)
  case atStart => exact ⟨0, by omega, rfl, Lib.hid (Below.refl _ _)⟩
  case round =>
    rename_i wr
    obtain ⟨j, hj, rfl, HR⟩ := hrel
    have HA2 := Lib.hid (HA.out.below HR.out)
    have HB2 := Lib.hid (HB.out.below HR.out)
    by_cases hlt : j < L.length
    · have hji : (j : Int) < (L.length : Int) := by omega
      have hj0 : (0 : Int) ≤ (j : Int) := by omega
      obtain ⟨x, hx⟩ : ∃ x, L[j]? = some x := ⟨L[j], List.getElem?_eq_getElem hlt⟩
      obtain ⟨_, g, rfl, hc⟩ := EOwn.cell elT_ok HA2.out hx
      obtain ⟨_, g2, rfl, hd⟩ := EOwn.cell elT_ok HB2.out hx
      have c0 : wr.cell? ⟨g, j * 5, none⟩ = some (.int .i64 x.k) := by simpa [elT] using hc 0 _ rfl
      have c1 : wr.cell? ⟨g, j * 5 + 1, none⟩ = some (.string (bs x.t)) := by simpa [elT] using hc 1 _ rfl
      have c2 : wr.cell? ⟨g, j * 5 + 2, none⟩ = some (.int .i64 x.n) := by simpa [elT] using hc 2 _ rfl
      have c3 : wr.cell? ⟨g, j * 5 + 3, none⟩ = some (.int .i64 x.p.1) := by simpa [elT] using hc 3 _ rfl
      have c4 : wr.cell? ⟨g, j * 5 + 4, none⟩ = some (.int .i64 x.p.2) := by simpa [elT] using hc 4 _ rfl
      have d0 : wr.cell? ⟨g2, j * 5, none⟩ = some (.int .i64 x.k) := by simpa [elT] using hd 0 _ rfl
      have d1 : wr.cell? ⟨g2, j * 5 + 1, none⟩ = some (.string (bs x.t)) := by simpa [elT] using hd 1 _ rfl
      have d2 : wr.cell? ⟨g2, j * 5 + 2, none⟩ = some (.int .i64 x.n) := by simpa [elT] using hd 2 _ rfl
      have d3 : wr.cell? ⟨g2, j * 5 + 3, none⟩ = some (.int .i64 x.p.1) := by simpa [elT] using hd 3 _ rfl
      have d4 : wr.cell? ⟨g2, j * 5 + 4, none⟩ = some (.int .i64 x.p.2) := by simpa [elT] using hd 4 _ rfl
      clear hc hd hx
      have e1 : (x.k != x.k) = false := by simp
      have e2 : (x.n != x.n) = false := by simp
      have e3 : ((bs x.t).toList == (bs x.t).toList) = true := by simp
      go_wp2_with fail
      go_quiet (fail)
      go_wp2_with fail
      go_roundw
      case rel => exact ⟨j + 1, by omega, by go_num, Lib.hid ⟨HR.out.os, HR.out.tape, HR.out.output, HR.out.size, HR.out.block⟩⟩
      case measure => simp [intOf]; omega
    · obtain rfl : j = L.length := by omega
      go_wp2
      go_ret
      exact ⟨rfl, HR.out⟩
end Go.Proofs.YtplkcbbbcflngaaDoor
