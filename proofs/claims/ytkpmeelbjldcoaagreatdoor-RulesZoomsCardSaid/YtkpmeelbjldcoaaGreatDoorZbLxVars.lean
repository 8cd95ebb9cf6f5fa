/- Texts: LxVars. -/
import Derived.Test.YtkpmeelbjldcoaaGreatDoorZbLx6
import Derived.Lib.LaidU8
import Derived.Lay
import Derived.LaidLaws
namespace Go.Proofs.YtkpmeelbjldcoaaGreatDoor
set_option linter.unusedVariables false
set_option linter.unusedSimpArgs false
open Go.RowKit
def laidL : List (String × DataW Unit) := [("math/bits.deBruijn32tab", Rows.laid_math_bits_deBruijn32tab), ("math/bits.deBruijn64tab", Rows.laid_math_bits_deBruijn64tab), ("internal/strconv.uint64pow10", Rows.laid_internal_strconv_uint64pow10), ("strconv.ErrRange", Rows.laid_strconv_ErrRange), ("strconv.ErrSyntax", Rows.laid_strconv_ErrSyntax), ("paravent/lex.words", Rows.laid_paravent_lex_words), ("paravent/lex.marks", Rows.laid_paravent_lex_marks), ("paravent/policy.heads", Rows.laid_paravent_policy_heads)]
theorem gWords : Tryz.prog.globalNamed "paravent/lex.words" = some 3 := by kernel_rfl
theorem gMarks : Tryz.prog.globalNamed "paravent/lex.marks" = some 1 := by kernel_rfl
theorem gSyn : Tryz.prog.globalNamed "strconv.ErrSyntax" = some 4 := by kernel_rfl
theorem gRng : Tryz.prog.globalNamed "strconv.ErrRange" = some 5 := by kernel_rfl
theorem gtWords : (Tryz.prog.globals[3]?).map (·.type) = some 185 := by kernel_rfl
theorem gtMarks : (Tryz.prog.globals[1]?).map (·.type) = some 176 := by kernel_rfl
theorem gtSyn : (Tryz.prog.globals[4]?).map (·.type) = some 96 := by kernel_rfl
theorem gtRng : (Tryz.prog.globals[5]?).map (·.type) = some 96 := by kernel_rfl
theorem cells9 : Tryz.prog.cellsOf 9 = 1 := by kernel_rfl
/-- An array of strings that reads as these texts holds them. -/
theorem strs_of {W : World} {name : String} {g n : Nat} {t : TypeId} {M : List Bs} (hg : Tryz.prog.globalNamed name = some g) (hty : (Tryz.prog.globals[g]?).map (·.type) = some t) (ht : Tryz.prog.underlying t = some (.array n 9))
    (h : Lib.VarReads Tryz.prog W name (.agg (M.map fun b => .lit (.string b)))) (hn : M.length = n) : ∀ i, i < n → W.cell? ⟨g, i, none⟩ = some (.string (bs (M.getD i []))) := by
  obtain ⟨g', t', cs, fuel, p, h1, h2, h3, h4⟩ := h
  obtain rfl := Option.some.inj (hg.symm.trans h1)
  obtain rfl := Option.some.inj (hty.symm.trans h2)
  intro i hi
  obtain ⟨f', d, q, hd, hr⟩ := Lib.array_elem ht h4 i hi
  rw [cells9] at hr
  obtain ⟨s, hc, hx, _⟩ := DataW.trod_string Tryz.underlying9 hr
  simp only [Prod.mk.injEq] at hx
  have hM : M[i]? = some s.data.toList := by
    rw [List.getElem?_map, Option.map_eq_some_iff] at hd
    obtain ⟨b, hb, e⟩ := hd
    rw [hx.1] at e
    simp at e
    rw [hb, e]
  have hcs : cs[i]? = some (.string s) := by
    have := congrArg (·[0]?) hc
    simpa [List.getElem?_take, List.getElem?_drop] using this
  rw [World.var?_cell hg h3 i, hcs, List.getD, hM]
  simp [bs_self]
theorem iface_var {W : World} {name nm : String} {g : Nat} {d : DataW Unit} (hg : Tryz.prog.globalNamed name = some g) (hty : (Tryz.prog.globals[g]?).map (·.type) = some 96) (h : Lib.VarReads Tryz.prog W name (.iface nm d)) : ∃ te pe, W.cell? ⟨g, 0, none⟩ = some (.iface te pe) := by
  obtain ⟨g', t', cs, fuel, p, h1, h2, h3, h4⟩ := h
  obtain rfl := Option.some.inj (hg.symm.trans h1)
  obtain rfl := Option.some.inj (hty.symm.trans h2)
  obtain ⟨f', u, v, hc, _⟩ := iface_of_trod Tryz.underlying96 h4
  refine ⟨u, v, ?_⟩
  rw [World.var?_cell hg h3 0, ← Array.getElem?_toList, hc]
  rfl
theorem vs_of_laid {W : World} (h : laidMet Tryz.prog laidL W) : Vs W := by
  have hw : Lib.VarReads Tryz.prog W "paravent/lex.words" (.agg (wordsL.map fun b => .lit (.string b))) := Lib.laidMet.reads h (by simp [laidL, Rows.laid_paravent_lex_words, wordsL])
  have hm : Lib.VarReads Tryz.prog W "paravent/lex.marks" (.agg (marksL.map fun b => .lit (.string b))) := Lib.laidMet.reads h (by simp [laidL, Rows.laid_paravent_lex_marks, marksL])
  have hs : Lib.VarReads Tryz.prog W "strconv.ErrSyntax" Rows.laid_strconv_ErrSyntax := Lib.laidMet.reads h (by simp [laidL])
  have hr : Lib.VarReads Tryz.prog W "strconv.ErrRange" Rows.laid_strconv_ErrRange := Lib.laidMet.reads h (by simp [laidL])
  have hp : Lib.VarReads Tryz.prog W "internal/strconv.uint64pow10" (Lib.tabData .u64 Lib.pow10Tab) := Lib.laidMet.reads h (by
    have e : (Rows.laid_internal_strconv_uint64pow10 : DataW Unit) = Lib.tabData .u64 Lib.pow10Tab := by kernel_rfl
    rw [← e]; simp [laidL])
  refine ⟨strs_of gWords gtWords Tryz.underlying185 hw rfl, strs_of gMarks gtMarks Tryz.underlying176 hm rfl, iface_var gSyn gtSyn hs, iface_var gRng gtRng hr, ?_⟩
  obtain ⟨g', t', cs, fuel, p, h1, h2, h3, h4⟩ := hp
  have hg : Tryz.prog.globalNamed "internal/strconv.uint64pow10" = some 6 := by kernel_rfl
  have hty : (Tryz.prog.globals[6]?).map (·.type) = some 212 := by kernel_rfl
  obtain rfl := Option.some.inj (hg.symm.trans h1)
  obtain rfl := Option.some.inj (hty.symm.trans h2)
  unfold Lib.TabIs
  rw [h3, ← Lib.cells_of_tab Tryz.underlying212 Tryz.underlying200 (by kernel_rfl) (by kernel_rfl) h4]
end Go.Proofs.YtkpmeelbjldcoaaGreatDoor
