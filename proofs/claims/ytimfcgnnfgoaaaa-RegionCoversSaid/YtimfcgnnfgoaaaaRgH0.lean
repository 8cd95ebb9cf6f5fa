/- region: regions and points that came in. -/
import Derived.Test.YtimfcgnnfgoaaaaSl
import Derived.Test.YtimfcgnnfgoaaaaRgA
namespace Go.Proofs.Ytimfcgnnfgoaaaa
set_option linter.unusedVariables false
set_option linter.unusedSimpArgs false
open Go.RowKit Go.ChangeShapes Go.WideShapes Go.Deep
def Bx.I (r : Bx) : Prop := (-9223372036854775808 ≤ r.x0 ∧ r.x0 ≤ 9223372036854775807) ∧ (-9223372036854775808 ≤ r.y0 ∧ r.y0 ≤ 9223372036854775807) ∧ (-9223372036854775808 ≤ r.x1 ∧ r.x1 ≤ 9223372036854775807) ∧ (-9223372036854775808 ≤ r.y1 ∧ r.y1 ≤ 9223372036854775807)
/-- The four cells of a rectangle. -/
def okBx (cs : List Value) : Prop := ∃ e : Bx, e.I ∧ cs[0]? = some (.int .i64 e.x0) ∧ cs[1]? = some (.int .i64 e.y0) ∧ cs[2]? = some (.int .i64 e.x1) ∧ cs[3]? = some (.int .i64 e.y1)
def okBxW (_ : World) : List Value → Prop := okBx
theorem okBxP {H : Type} {enc : TypeId × Value → H} {w : World} {base : Nat} {spare : Nat → Bool} {held : Bool} (fuel : Nat) (cs : List Value) (y : DataW H × List MemPlace) (h : DataW.trod enc Try.prog w base spare held fuel 39 cs = some y) (_ : ∀ m ∈ y.1.weights Try.prog 39, m ≤ reachBytes) : okBxW w cs := by
  obtain ⟨a0, h0, w0⟩ := leaf_int (o := 0) (u := 3) (k := .i64) (by kernel_rfl) Try.underlying3 h
  obtain ⟨a1, h1, w1⟩ := leaf_int (o := 1) (u := 3) (k := .i64) (by kernel_rfl) Try.underlying3 h
  obtain ⟨a2, h2, w2⟩ := leaf_int (o := 2) (u := 3) (k := .i64) (by kernel_rfl) Try.underlying3 h
  obtain ⟨a3, h3, w3⟩ := leaf_int (o := 3) (u := 3) (k := .i64) (by kernel_rfl) Try.underlying3 h
  exact ⟨⟨a0, a1, a2, a3⟩, ⟨bounds_i64 w0, bounds_i64 w1, bounds_i64 w2, bounds_i64 w3⟩, h0, h1, h2, h3⟩
theorem list_of {α : Type} (n : Nat) {Q : Nat → α → Prop} (h : ∀ i, i < n → ∃ x, Q i x) : ∃ l : List α, l.length = n ∧ ∀ i x, l[i]? = some x → Q i x := by
  induction n with
  | zero => exact ⟨[], rfl, fun i x hx => by simp at hx⟩
  | succ n ih =>
    obtain ⟨l, h1, h2⟩ := ih fun i hi => h i (by omega)
    obtain ⟨y, hy⟩ := h n (by omega)
    refine ⟨l ++ [y], by simp [h1], fun i x hx => ?_⟩
    by_cases hi : i < l.length
    · rw [List.getElem?_append_left hi] at hx
      exact h2 i x hx
    · rw [List.getElem?_append_right (by omega)] at hx
      have h0 : i - l.length = 0 := by
        by_cases h0 : i - l.length = 0
        · exact h0
        · obtain ⟨m, hm⟩ : ∃ m, i - l.length = m + 1 := ⟨i - l.length - 1, by omega⟩
          rw [hm] at hx; simp at hx
      rw [h0] at hx
      simp at hx
      subst hx
      have : i = n := by omega
      subst this
      exact hy
theorem bxs_of {w : World} {a : Option Addr} {len cap : Nat} (h : IsSl w 4 okBx a len cap) : ∃ L : List Bx, ERd elR w (.slice a len cap) L ∧ L.length = len := by
  have hq : ∀ i, i < len → ∃ b : Bx, ∃ g o, a = some ⟨g, o, none⟩ ∧ ∀ j u, (elR.enc b)[j]? = some u → w.cell? ⟨g, o + i * elR.k + j, none⟩ = some u := by
    intro i hi
    obtain ⟨xb, xo, cs, rfl, hl, hcell, b, hI, h0, h1, h2, h3⟩ := h.at2 i hi (by decide)
    refine ⟨b, xb, xo, rfl, fun j u hu => ?_⟩
    have hc : cs[j]? = some u := by
      match j, hu with
      | 0, hu => simp [elR] at hu; rw [h0, hu]
      | 1, hu => simp [elR] at hu; rw [h1, hu]
      | 2, hu => simp [elR] at hu; rw [h2, hu]
      | 3, hu => simp [elR] at hu; rw [h3, hu]
      | j + 4, hu => simp [elR] at hu
    have := hcell j u hc
    rwa [← Nat.add_assoc] at this
  obtain ⟨L, h1, h2⟩ := list_of len hq
  obtain ⟨l1, l2⟩ := h.le
  refine ⟨L, ⟨a, cap, by rw [h1], by omega, l2, fun i x hx => ?_⟩, h1⟩
  obtain ⟨g, o, e, hc⟩ := h2 i x hx
  exact ⟨g, o, e, fun j u hu => hc j u hu⟩
end Go.Proofs.Ytimfcgnnfgoaaaa
