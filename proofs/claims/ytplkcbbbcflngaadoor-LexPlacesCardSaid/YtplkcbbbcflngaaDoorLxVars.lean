/- lex: what the rows say of the package variables, as the calls want it. -/
import Derived.Test.YtplkcbbbcflngaaDoorLx6
import Derived.Lib.LaidU8
import Derived.Lay
import Derived.LaidLaws
namespace Go.Proofs.YtplkcbbbcflngaaDoor
set_option linter.unusedVariables false
set_option linter.unusedSimpArgs false
open Go.RowKit
def laidL : List (String × DataW Unit) := [("math/bits.deBruijn32tab", Rows.laid_math_bits_deBruijn32tab), ("math/bits.deBruijn64tab", Rows.laid_math_bits_deBruijn64tab), ("internal/strconv.uint64pow10", Rows.laid_internal_strconv_uint64pow10), ("strconv.ErrRange", Rows.laid_strconv_ErrRange), ("strconv.ErrSyntax", Rows.laid_strconv_ErrSyntax), ("paravent/lex.words", Rows.laid_paravent_lex_words), ("paravent/lex.marks", Rows.laid_paravent_lex_marks)]
theorem gWords : Tryd.prog.globalNamed "paravent/lex.words" = some 0 := by kernel_rfl
theorem gMarks : Tryd.prog.globalNamed "paravent/lex.marks" = some 1 := by kernel_rfl
theorem gSyn : Tryd.prog.globalNamed "strconv.ErrSyntax" = some 3 := by kernel_rfl
theorem gRng : Tryd.prog.globalNamed "strconv.ErrRange" = some 4 := by kernel_rfl
theorem gtWords : (Tryd.prog.globals[0]?).map (·.type) = some 47 := by kernel_rfl
theorem gtMarks : (Tryd.prog.globals[1]?).map (·.type) = some 63 := by kernel_rfl
theorem gtSyn : (Tryd.prog.globals[3]?).map (·.type) = some 59 := by kernel_rfl
theorem gtRng : (Tryd.prog.globals[4]?).map (·.type) = some 59 := by kernel_rfl
theorem cells9 : Tryd.prog.cellsOf 9 = 1 := by kernel_rfl
/-- An array of strings that reads as these texts holds them. -/
theorem strs_of {W : World} {name : String} {g n : Nat} {t : TypeId} {M : List Bs} (hg : Tryd.prog.globalNamed name = some g) (hty : (Tryd.prog.globals[g]?).map (·.type) = some t) (ht : Tryd.prog.underlying t = some (.array n 9))
    (h : Lib.VarReads Tryd.prog W name (.agg (M.map fun b => .lit (.string b)))) (hn : M.length = n) : ∀ i, i < n → W.cell? ⟨g, i, none⟩ = some (.string (bs (M.getD i []))) := by
  obtain ⟨g', t', cs, fuel, p, h1, h2, h3, h4⟩ := h
  obtain rfl := Option.some.inj (hg.symm.trans h1)
  obtain rfl := Option.some.inj (hty.symm.trans h2)
  intro i hi
  obtain ⟨f', d, q, hd, hr⟩ := Lib.array_elem ht h4 i hi
  rw [cells9] at hr
  obtain ⟨s, hc, hx, _⟩ := DataW.trod_string Tryd.underlying9 hr
  simp only [Prod.mk.injEq] at hx
  have hM : M[i]? = some s.data.toList := by
    rw [List.getElem?_map, Option.map_eq_some_iff] at hd
    obtain ⟨b, hb, e⟩ := hd
    rw [hx.1] at e
    simp at e
    rw [hb, e]
  have hcs : cs[i]? = some (.string s) := by
    have := congrArg (·[0]?) hc
    simpa [List.getElem?_take, List.getElem?_drop] using this
  rw [World.var?_cell hg h3 i, hcs, List.getD, hM]
  simp [bs_self]
theorem iface_var {W : World} {name nm : String} {g : Nat} {d : DataW Unit} (hg : Tryd.prog.globalNamed name = some g) (hty : (Tryd.prog.globals[g]?).map (·.type) = some 59) (h : Lib.VarReads Tryd.prog W name (.iface nm d)) : ∃ te pe, W.cell? ⟨g, 0, none⟩ = some (.iface te pe) := by
  obtain ⟨g', t', cs, fuel, p, h1, h2, h3, h4⟩ := h
  obtain rfl := Option.some.inj (hg.symm.trans h1)
  obtain rfl := Option.some.inj (hty.symm.trans h2)
  obtain ⟨f', u, v, hc, _⟩ := iface_of_trod Tryd.underlying59 h4
  refine ⟨u, v, ?_⟩
  rw [World.var?_cell hg h3 0, ← Array.getElem?_toList, hc]
  rfl
theorem vs_of_laid {W : World} (h : laidMet Tryd.prog laidL W) : Vs W := by
  have hw : Lib.VarReads Tryd.prog W "paravent/lex.words" (.agg (wordsL.map fun b => .lit (.string b))) := Lib.laidMet.reads h (by simp [laidL, Rows.laid_paravent_lex_words, wordsL])
  have hm : Lib.VarReads Tryd.prog W "paravent/lex.marks" (.agg (marksL.map fun b => .lit (.string b))) := Lib.laidMet.reads h (by simp [laidL, Rows.laid_paravent_lex_marks, marksL])
  have hs : Lib.VarReads Tryd.prog W "strconv.ErrSyntax" Rows.laid_strconv_ErrSyntax := Lib.laidMet.reads h (by simp [laidL])
  have hr : Lib.VarReads Tryd.prog W "strconv.ErrRange" Rows.laid_strconv_ErrRange := Lib.laidMet.reads h (by simp [laidL])
  have hp : Lib.VarReads Tryd.prog W "internal/strconv.uint64pow10" (Lib.tabData .u64 Lib.pow10Tab) := Lib.laidMet.reads h (by
    have e : (Rows.laid_internal_strconv_uint64pow10 : DataW Unit) = Lib.tabData .u64 Lib.pow10Tab := by kernel_rfl
    rw [← e]; simp [laidL])
  refine ⟨strs_of gWords gtWords Tryd.underlying47 hw rfl, strs_of gMarks gtMarks Tryd.underlying63 hm rfl, iface_var gSyn gtSyn hs, iface_var gRng gtRng hr, ?_⟩
  obtain ⟨g', t', cs, fuel, p, h1, h2, h3, h4⟩ := hp
  have hg : Tryd.prog.globalNamed "internal/strconv.uint64pow10" = some 5 := by kernel_rfl
  have hty : (Tryd.prog.globals[5]?).map (·.type) = some 96 := by kernel_rfl
  obtain rfl := Option.some.inj (hg.symm.trans h1)
  obtain rfl := Option.some.inj (hty.symm.trans h2)
  unfold Lib.TabIs
  rw [h3, ← Lib.cells_of_tab Tryd.underlying96 Tryd.underlying78 (by kernel_rfl) (by kernel_rfl) h4]
end Go.Proofs.YtplkcbbbcflngaaDoor
