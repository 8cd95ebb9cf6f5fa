/- pyramid: eachLevel with Remove's closure; New, Count, Level, Cells, Total. -/
import Derived.Test.YtipfhleedfbnaaaPy5
import Derived.Test.YtipfhleedfbnaaaCellMath3
import Derived.Test.YtipfhleedfbnaaaCellFrom
namespace Go.Proofs.Ytipfhleedfbnaaa
set_option linter.unusedVariables false
set_option linter.unusedSimpArgs false
open Go.RowKit
theorem nil_look (c : Int) (w : World) : (Instr.lookup 55 (Value.map none) (.int .u64 c) false).run Try.prog w = .ok (.int .i64 0) w := by kernel_rfl
theorem nil_len (ty : TypeId) (w : World) : (Builtin.len_ #[55] ty #[Value.map none]).run Try.prog w = .ok (.int .i64 0) w := by kernel_rfl
theorem PyR.value {w : World} {y : Nat} {cs : Array Value} {P : Nat → List Pn} {B : Nat} (h : PyR w y cs P B) (l : Nat) (hl : l < 17) :
    ∃ v, w.cell? ⟨y, l, none⟩ = some (Value.map v) ∧ ∀ w' : World, w'.heap = w.heap →
      (∀ c : Int, (Lit.int .u64 c).wf = true → (Instr.lookup 55 (Value.map v) (.int .u64 c) false).run Try.prog w' = .ok (.int .i64 (cnt (P l) l c : Int)) w') ∧
      ∀ ty, (Builtin.len_ #[55] ty #[Value.map v]).run Try.prog w' = .ok (.int .i64 (nd ((P l).map (codeAt l)) : Int)) w' := by
  obtain ⟨v, hv, hL⟩ := h.hl l hl
  have hc : w.cell? ⟨y, l, none⟩ = some v := by rw [h.hq.cell]; exact hv
  rcases hL with ⟨rfl, hP⟩ | ⟨m, n, rfl, hn, hm⟩
  · refine ⟨none, hc, fun w' _ => ⟨fun c hwf => ?_, fun ty => ?_⟩⟩
    · rw [hP]; exact nil_look c w'
    · rw [hP]; exact nil_len ty w'
  · refine ⟨some m, hc, fun w' hh => ?_⟩
    have hm := hm.keep (w' := w') (by rw [hh])
    refine ⟨fun c hwf => ?_, fun ty => hm.len ty⟩
    have := hm.look c hwf
    rw [cH_get] at this
    exact this
/-- The codes in the grid of a level. -/
theorem codU_wf (L x y : Int) : (Lit.int .u64 (codU L x y)).wf = true := by
  have : 0 ≤ codU L x y ∧ codU L x y < 4294967296 := by
    by_cases h : okC L x y = true
    · exact codU_bd L x y h
    · rw [codU, if_neg h]; omega
  simp [Lit.wf, IntKind.min, IntKind.max, IntKind.bits, IntKind.signed, *]
  omega
/-- How many points of S a cell has. -/
def cntC (S : List Pn) (L x y : Int) : Nat := if okC L x y = true then cnt S L.toNat (codU L x y) else 0
def levN (S : List Pn) (L : Int) : Nat := if levB L = true then nd (S.map (codeAt L.toNat)) else 0
set_option maxRecDepth 100000 in
set_option maxHeartbeats 2000000 in
theorem count_any (y : Nat) (cs : Array Value) (S : List Pn) (B : Nat) (L cx cy : Int) (w : World) (h : PyR w y cs (fun _ => S) B) :
    Calls Try.prog 16 #[.pointer (some ⟨y, 0, none⟩), .agg #[.int .i64 L, .int .i64 cx, .int .i64 cy]] w fun e w' => e = .returned (.int .i64 (cntC S L cx cy : Int)) ∧ Below w.heap.size w w' := by
  have HPY := Lib.hid h; clear h
  have HCD := Lib.hid (code_u L cx cy)
  by_cases ho : okC L cx cy = true
  · have g := okC_16 _ _ _ ho
    obtain ⟨l, rfl⟩ := Int.eq_ofNat_of_zero_le g.1
    have hl : l < 17 := by omega
    have hl1 : (l : Int) < 17 := by omega
    have hl2 : (0 : Int) ≤ (l : Int) := by omega
    have hcc : cntC S (l : Int) cx cy = cnt S l (codU (l : Int) cx cy) := by rw [cntC, if_pos ho]; rfl
    have hwf := codU_wf (l : Int) cx cy
    rw [hcc]
    rw [ho] at HCD
    generalize codU (l : Int) cx cy = cc at *
    clear ho g hcc
    go_enter Try.func16, Try.ntmps16
    have hA : Below w.heap.size w (w.alloc (.cells #[.int .i64 (l : Int), .int .i64 cx, .int .i64 cy] 35)) := (Below.refl _ _).alloc (Nat.le_refl _) _
    go_wp2_with fail
    refine (HCD.out _).mono ?_
    rintro e w2 ⟨rfl, hb2⟩
    have HB2 := Lib.hid (below_trans hA hb2)
    have HC := Lib.hid ((Blk.new w 35 #[.int .i64 (l : Int), .int .i64 cx, .int .i64 cy]).thru0 hb2)
    have c0 := HC.out.cell 0
    simp only [List.getElem?_toArray, List.getElem?_cons_zero] at c0
    obtain ⟨v, y0, hval⟩ := (HPY.out.below HB2.out).value l hl
    have hlk := (hval w2 rfl).1 cc hwf
    have hlk2 := (hval w2.drew rfl).1 cc hwf
    clear hval
    generalize hcn : (cnt S l cc : Int) = num at *
    clear hA hb2
    go_wp2
    go_region
    go_wp2
    go_ret
    exact ⟨by rw [hcn]; rfl, HB2.out.os, HB2.out.tape, HB2.out.output, HB2.out.size, HB2.out.block⟩
  · have hn : okC L cx cy = false := by simpa using ho
    have hcc : cntC S L cx cy = 0 := by rw [cntC, if_neg ho]
    rw [hn] at HCD
    rw [hcc]
    clear ho hcc hn
    generalize codU L cx cy = cc at *
    go_enter Try.func16, Try.ntmps16
    have hA : Below w.heap.size w (w.alloc (.cells #[.int .i64 L, .int .i64 cx, .int .i64 cy] 35)) := (Below.refl _ _).alloc (Nat.le_refl _) _
    go_wp2_with fail
    refine (HCD.out _).mono ?_
    rintro e w2 ⟨rfl, hb2⟩
    have HB2 := Lib.hid (below_trans hA hb2)
    clear hA hb2
    go_wp2
    go_ret
    exact ⟨rfl, HB2.out⟩
end Go.Proofs.Ytipfhleedfbnaaa
