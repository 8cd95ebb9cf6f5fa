/- token: tickets that came in. -/
import Derived.Test.YtmlmndaflgfdkaaTo23
namespace Go.Proofs.Ytmlmndaflgfdkaa
set_option linter.unusedVariables false
set_option linter.unusedSimpArgs false
open Go.RowKit Go.ChangeShapes Go.WideShapes Go.Deep
/-- The ten cells of a ticket. -/
def okT (cs : List Value) : Prop := ∃ k : Tk, (k.sec ≤ 18446744073709551615 ∧ k.par ≤ 18446744073709551615) ∧ cs[0]? = some (.int .u64 k.sec) ∧ cs[1]? = some (.int .u64 k.par) ∧ cs[2]? = some (.int .i64 k.g.ops) ∧ cs[3]? = some (.int .i64 k.g.zoom) ∧ cs[4]? = some (.int .i64 k.g.x0) ∧ cs[5]? = some (.int .i64 k.g.y0) ∧ cs[6]? = some (.int .i64 k.g.x1) ∧ cs[7]? = some (.int .i64 k.g.y1) ∧ cs[8]? = some (.bool k.g.void) ∧ cs[9]? = some (.int .i64 k.g.til)
theorem okT_of {H : Type} {enc : TypeId × Value → H} {w : World} {base : Nat} {spare : Nat → Bool} {held : Bool} (fuel : Nat) (cs : List Value) (y : DataW H × List MemPlace) (h : DataW.trod enc Try.prog w base spare held fuel 35 cs = some y) : okT cs := by
  obtain ⟨a0, h0, w0⟩ := leaf_int (o := 0) (u := 26) (k := .u64) (by kernel_rfl) Try.underlying26 h
  obtain ⟨a1, h1, w1⟩ := leaf_int (o := 1) (u := 26) (k := .u64) (by kernel_rfl) Try.underlying26 h
  obtain ⟨a2, h2, w2⟩ := leaf_int (o := 2) (u := 3) (k := .i64) (by kernel_rfl) Try.underlying3 h
  obtain ⟨a3, h3, w3⟩ := leaf_int (o := 3) (u := 3) (k := .i64) (by kernel_rfl) Try.underlying3 h
  obtain ⟨a4, h4, w4⟩ := leaf_int (o := 4) (u := 3) (k := .i64) (by kernel_rfl) Try.underlying3 h
  obtain ⟨a5, h5, w5⟩ := leaf_int (o := 5) (u := 3) (k := .i64) (by kernel_rfl) Try.underlying3 h
  obtain ⟨a6, h6, w6⟩ := leaf_int (o := 6) (u := 3) (k := .i64) (by kernel_rfl) Try.underlying3 h
  obtain ⟨a7, h7, w7⟩ := leaf_int (o := 7) (u := 3) (k := .i64) (by kernel_rfl) Try.underlying3 h
  obtain ⟨a8, h8⟩ := leaf_bool (o := 8) (u := 4) (by kernel_rfl) Try.underlying4 h
  obtain ⟨a9, h9, w9⟩ := leaf_int (o := 9) (u := 3) (k := .i64) (by kernel_rfl) Try.underlying3 h
  have bs := bounds_u64 w0
  have bd := bounds_u64 w1
  obtain ⟨s', rfl⟩ := Int.eq_ofNat_of_zero_le bs.1
  obtain ⟨d', rfl⟩ := Int.eq_ofNat_of_zero_le bd.1
  exact ⟨⟨s', d', ⟨a2, a3, a4, a5, a6, a7, a8, a9⟩⟩, ⟨(show s' ≤ 18446744073709551615 by omega), (show d' ≤ 18446744073709551615 by omega)⟩, h0, h1, h2, h3, h4, h5, h6, h7, h8, h9⟩
def okTW (_ : World) : List Value → Prop := okT
theorem okTP {H : Type} {enc : TypeId × Value → H} {w : World} {base : Nat} {spare : Nat → Bool} {held : Bool} (fuel : Nat) (cs : List Value) (y : DataW H × List MemPlace) (h : DataW.trod enc Try.prog w base spare held fuel 35 cs = some y) (_ : ∀ m ∈ y.1.weights Try.prog 35, m ≤ reachBytes) : okTW w cs := okT_of fuel cs y h
theorem tks_of {w : World} {a : Option Addr} {len cap : Nat} (h : IsSl w 10 okT a len cap) : ∃ L : List Tk, ERd elT w (.slice a len cap) L ∧ L.length = len ∧ SecOk L := by
  have hq : ∀ i, i < len → ∃ b : Tk, (b.sec ≤ 18446744073709551615 ∧ b.par ≤ 18446744073709551615) ∧ ∃ g o, a = some ⟨g, o, none⟩ ∧ ∀ j u, (elT.enc b)[j]? = some u → w.cell? ⟨g, o + i * 10 + j, none⟩ = some u := by
    intro i hi
    obtain ⟨xb, xo, cs, rfl, hl, hcell, b, hI, h0, h1, h2, h3, h4, h5, h6, h7, h8, h9⟩ := h.at2 i hi (by decide)
    refine ⟨b, hI, xb, xo, rfl, fun j u hu => ?_⟩
    have hj : cs[j]? = some u := by
      match j, hu with
      | 0, hu => simp [elT] at hu; rw [h0, hu]
      | 1, hu => simp [elT] at hu; rw [h1, hu]
      | 2, hu => simp [elT] at hu; rw [h2, hu]
      | 3, hu => simp [elT] at hu; rw [h3, hu]
      | 4, hu => simp [elT] at hu; rw [h4, hu]
      | 5, hu => simp [elT] at hu; rw [h5, hu]
      | 6, hu => simp [elT] at hu; rw [h6, hu]
      | 7, hu => simp [elT] at hu; rw [h7, hu]
      | 8, hu => simp [elT] at hu; rw [h8, hu]
      | 9, hu => simp [elT] at hu; rw [h9, hu]
      | j + 10, hu => simp [elT] at hu
    have := hcell j u hj
    rwa [← Nat.add_assoc] at this
  obtain ⟨L, h1, h2⟩ := list_of len hq
  obtain ⟨l1, l2⟩ := h.le
  refine ⟨L, ⟨a, cap, by rw [h1], by omega, l2, fun i x hx => ?_⟩, h1, fun o ho => ?_⟩
  · obtain ⟨_, g, o, e, hc⟩ := h2 i x hx
    exact ⟨g, o, e, fun j u hu => hc j u hu⟩
  · obtain ⟨i, hi, rfl⟩ := List.getElem_of_mem ho
    exact (h2 i _ (List.getElem?_eq_getElem hi)).1
end Go.Proofs.Ytmlmndaflgfdkaa
