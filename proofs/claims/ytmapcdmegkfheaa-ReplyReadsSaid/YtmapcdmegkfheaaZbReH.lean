/- reply: answers that came in. -/
import Derived.Test.YtmapcdmegkfheaaZbRe12
import Derived.Test.YtmapcdmegkfheaaZbSl
namespace Go.Proofs.Ytmapcdmegkfheaa
set_option linter.unusedVariables false
set_option linter.unusedSimpArgs false
open Go.RowKit Go.ChangeShapes Go.WideShapes Go.Deep
section
variable {H : Type} {enc : TypeId × Value → H} {P : Program} {w : World} {base : Nat} {spare : Nat → Bool} {held : Bool}
theorem leaf_sl {t u e : TypeId} {K o fuel : Nat} {cs : List Value} {ok : List Value → Prop} {x : DataW H × List MemPlace} (hl : leafAt P 9 t o = some u) (hk : P.underlying u = some (.slice e)) (hC : P.cellsOf e = K)
    (hok : ∀ fuel cs (y : DataW H × List MemPlace), DataW.trod enc P w base spare held fuel e cs = some y → (∀ m ∈ y.1.weights P e, m ≤ reachBytes) → ok cs) (h : DataW.trod enc P w base spare held fuel t cs = some x) (hsz : ∀ m ∈ x.1.weights P t, m ≤ reachBytes) :
    ∃ A L C, cs[o]? = some (.slice A L C) ∧ IsSl w K ok A L C := by
  obtain ⟨fuel', ps, y, hy, hwt, hv⟩ := leaf_of 9 t o u fuel cs x hl h
  have hsz2 : ∀ m ∈ y.1.weights P u, m ≤ reachBytes := fun m hm => hsz m (hwt m hm)
  rcases open_slice hk hy with ⟨hcs, _⟩ | ⟨b, len', cap', m, n, D, Pl, hcs, _⟩
  · subst hcs
    exact ⟨none, 0, 0, by simpa using hv 0 _ rfl, .inl ⟨rfl, rfl, rfl⟩⟩
  · subst hcs
    exact ⟨_, _, _, by simpa using hv 0 _ rfl, isSl_of hk hC hok hy hsz2⟩
end
theorem list_of {α : Type} (n : Nat) {Q : Nat → α → Prop} (h : ∀ i, i < n → ∃ x, Q i x) : ∃ l : List α, l.length = n ∧ ∀ i x, l[i]? = some x → Q i x := by
  induction n with
  | zero => exact ⟨[], rfl, fun i x hx => by simp at hx⟩
  | succ n ih =>
    obtain ⟨l, h1, h2⟩ := ih fun i hi => h i (by omega)
    obtain ⟨y, hy⟩ := h n (by omega)
    refine ⟨l ++ [y], by simp [h1], fun i x hx => ?_⟩
    by_cases hi : i < l.length
    · rw [List.getElem?_append_left hi] at hx
      exact h2 i x hx
    · rw [List.getElem?_append_right (by omega)] at hx
      have h0 : i - l.length = 0 := by
        by_cases h0 : i - l.length = 0
        · exact h0
        · obtain ⟨m, hm⟩ : ∃ m, i - l.length = m + 1 := ⟨i - l.length - 1, by omega⟩
          rw [hm] at hx; simp at hx
      rw [h0] at hx
      simp at hx
      subst hx
      have : i = n := by omega
      subst this
      exact hy
theorem rows_of {α : Type} {E : El α} (hp : 0 < E.k) {ok : List Value → Prop} (hok : ∀ cs : List Value, ok cs → cs.length = E.k → ∃ b : α, ∀ (j : Nat) (u : Value), (E.enc b)[j]? = some u → cs[j]? = some u) {w : World} {a : Option Addr} {len cap : Nat} (h : IsSl w E.k ok a len cap) : ∃ L : List α, ERd E w (.slice a len cap) L ∧ L.length = len := by
  have hq : ∀ i, i < len → ∃ b : α, ∃ g o, a = some ⟨g, o, none⟩ ∧ ∀ j u, (E.enc b)[j]? = some u → w.cell? ⟨g, o + i * E.k + j, none⟩ = some u := by
    intro i hi
    obtain ⟨xb, xo, cs, rfl, hl, hcell, hc⟩ := h.at2 i hi hp
    obtain ⟨b, hb⟩ := hok cs hc hl
    refine ⟨b, xb, xo, rfl, fun j u hu => ?_⟩
    have := hcell j u (hb j u hu)
    rwa [← Nat.add_assoc] at this
  obtain ⟨L, h1, h2⟩ := list_of len hq
  obtain ⟨l1, l2⟩ := h.le
  refine ⟨L, ⟨a, cap, by rw [h1], by omega, l2, fun i x hx => ?_⟩, h1⟩
  obtain ⟨g, o, e, hc⟩ := h2 i x hx
  exact ⟨g, o, e, fun j u hu => hc j u hu⟩
def okE (cs : List Value) : Prop := ∃ e : Evt, cs[0]? = some (.int .i64 e.usr) ∧ cs[1]? = some (.int .i64 e.op) ∧ cs[2]? = some (.int .i64 e.st) ∧ cs[3]? = some (.int .i64 e.tick)
def okS (cs : List Value) : Prop := ∃ e : Snt, cs[0]? = some (.int .i64 e.id) ∧ cs[1]? = some (.int .i64 e.lev) ∧ cs[2]? = some (.int .i64 e.b0) ∧ cs[3]? = some (.int .i64 e.b1) ∧ cs[4]? = some (.int .i64 e.b2) ∧ cs[5]? = some (.int .i64 e.b3)
theorem okE_of {H : Type} {enc : TypeId × Value → H} {w : World} {base : Nat} {spare : Nat → Bool} {held : Bool} (fuel : Nat) (cs : List Value) (y : DataW H × List MemPlace) (h : DataW.trod enc Try.prog w base spare held fuel 62 cs = some y) (_ : ∀ m ∈ y.1.weights Try.prog 62, m ≤ reachBytes) : okE cs := by
  obtain ⟨a0, h0, w0⟩ := leaf_int (o := 0) (u := 3) (k := .i64) (by kernel_rfl) Try.underlying3 h
  obtain ⟨a1, h1, w1⟩ := leaf_int (o := 1) (u := 3) (k := .i64) (by kernel_rfl) Try.underlying3 h
  obtain ⟨a2, h2, w2⟩ := leaf_int (o := 2) (u := 3) (k := .i64) (by kernel_rfl) Try.underlying3 h
  obtain ⟨a3, h3, w3⟩ := leaf_int (o := 3) (u := 3) (k := .i64) (by kernel_rfl) Try.underlying3 h
  exact ⟨⟨a0, a1, a2, a3⟩, h0, h1, h2, h3⟩
theorem okS_of {H : Type} {enc : TypeId × Value → H} {w : World} {base : Nat} {spare : Nat → Bool} {held : Bool} (fuel : Nat) (cs : List Value) (y : DataW H × List MemPlace) (h : DataW.trod enc Try.prog w base spare held fuel 59 cs = some y) (_ : ∀ m ∈ y.1.weights Try.prog 59, m ≤ reachBytes) : okS cs := by
  obtain ⟨a0, h0, w0⟩ := leaf_int (o := 0) (u := 3) (k := .i64) (by kernel_rfl) Try.underlying3 h
  obtain ⟨a1, h1, w1⟩ := leaf_int (o := 1) (u := 3) (k := .i64) (by kernel_rfl) Try.underlying3 h
  obtain ⟨a2, h2, w2⟩ := leaf_int (o := 2) (u := 3) (k := .i64) (by kernel_rfl) Try.underlying3 h
  obtain ⟨a3, h3, w3⟩ := leaf_int (o := 3) (u := 3) (k := .i64) (by kernel_rfl) Try.underlying3 h
  obtain ⟨a4, h4, w4⟩ := leaf_int (o := 4) (u := 3) (k := .i64) (by kernel_rfl) Try.underlying3 h
  obtain ⟨a5, h5, w5⟩ := leaf_int (o := 5) (u := 3) (k := .i64) (by kernel_rfl) Try.underlying3 h
  exact ⟨⟨a0, a1, a2, a3, a4, a5⟩, h0, h1, h2, h3, h4, h5⟩
theorem evts_of {w : World} {a : Option Addr} {len cap : Nat} (h : IsSl w 4 okE a len cap) : ∃ L : List Evt, ERd elOE w (.slice a len cap) L ∧ L.length = len :=
  rows_of (E := elOE) (by decide) (fun cs ⟨e, h0, h1, h2, h3⟩ _ => ⟨e, fun j u hu => by
    match j with
    | 0 => simp [elOE] at hu; subst hu; exact h0
    | 1 => simp [elOE] at hu; subst hu; exact h1
    | 2 => simp [elOE] at hu; subst hu; exact h2
    | 3 => simp [elOE] at hu; subst hu; exact h3
    | j + 4 => simp [elOE] at hu⟩) h
theorem snts_of {w : World} {a : Option Addr} {len cap : Nat} (h : IsSl w 6 okS a len cap) : ∃ L : List Snt, ERd elOS w (.slice a len cap) L ∧ L.length = len :=
  rows_of (E := elOS) (by decide) (fun cs ⟨e, h0, h1, h2, h3, h4, h5⟩ _ => ⟨e, fun j u hu => by
    match j with
    | 0 => simp [elOS] at hu; subst hu; exact h0
    | 1 => simp [elOS] at hu; subst hu; exact h1
    | 2 => simp [elOS] at hu; subst hu; exact h2
    | 3 => simp [elOS] at hu; subst hu; exact h3
    | 4 => simp [elOS] at hu; subst hu; exact h4
    | 5 => simp [elOS] at hu; subst hu; exact h5
    | j + 6 => simp [elOS] at hu⟩) h
abbrev An.V (a : An) : Value := .agg a.cs
abbrev wAn : Value := .agg #[.int .i64 0, .int .u64 0, .int .i64 0, .int .i64 0, .int .i64 0, .int .i64 0, .int .i64 0, .int .i64 0, .int .i64 0, .int .i64 0, .slice none 0 0, .slice none 0 0]
def i64k (n : Int) : Prop := -9223372036854775808 ≤ n ∧ n ≤ 9223372036854775807
/-- An answer that came in. -/
structure AnI (w : World) (a : An) (L : List Snt) (M : List Evt) : Prop where
  r : AnR w a L M
  sec : a.sec ≤ 18446744073709551615
  st : i64k a.st
  rid : i64k a.rid
  rx : i64k a.rx
  ry : i64k a.ry
  lab : i64k a.lab
  b0 : i64k a.b0
  b1 : i64k a.b1
  b2 : i64k a.b2
  b3 : i64k a.b3
theorem ans_of {H : Type} {enc : TypeId × Value → H} {w : World} {base : Nat} {spare : Nat → Bool} {held : Bool} {fuel : Nat} {cs : Array Value} {y : DataW H × List MemPlace} (h : DataW.trod enc Try.prog w base spare held fuel 38 cs.toList = some y) (hs : cs.size = 12) (hsz : ∀ m ∈ y.1.weights Try.prog 38, m ≤ reachBytes) : ∃ (a : An) (L : List Snt) (M : List Evt), Value.agg cs = a.V ∧ AnI w a L M := by
  obtain ⟨a0, h0, w0⟩ := leaf_int (o := 0) (u := 3) (k := .i64) (by kernel_rfl) Try.underlying3 h
  obtain ⟨b1, h1, w1⟩ := leaf_int (o := 1) (u := 28) (k := .u64) (by kernel_rfl) Try.underlying28 h
  have g1 := bounds_u64 w1
  obtain ⟨a1, rfl⟩ := Int.eq_ofNat_of_zero_le g1.1
  obtain ⟨a2, h2, w2⟩ := leaf_int (o := 2) (u := 3) (k := .i64) (by kernel_rfl) Try.underlying3 h
  obtain ⟨a3, h3, w3⟩ := leaf_int (o := 3) (u := 3) (k := .i64) (by kernel_rfl) Try.underlying3 h
  obtain ⟨a4, h4, w4⟩ := leaf_int (o := 4) (u := 3) (k := .i64) (by kernel_rfl) Try.underlying3 h
  obtain ⟨a5, h5, w5⟩ := leaf_int (o := 5) (u := 3) (k := .i64) (by kernel_rfl) Try.underlying3 h
  obtain ⟨a6, h6, w6⟩ := leaf_int (o := 6) (u := 3) (k := .i64) (by kernel_rfl) Try.underlying3 h
  obtain ⟨a7, h7, w7⟩ := leaf_int (o := 7) (u := 3) (k := .i64) (by kernel_rfl) Try.underlying3 h
  obtain ⟨a8, h8, w8⟩ := leaf_int (o := 8) (u := 3) (k := .i64) (by kernel_rfl) Try.underlying3 h
  obtain ⟨a9, h9, w9⟩ := leaf_int (o := 9) (u := 3) (k := .i64) (by kernel_rfl) Try.underlying3 h
  obtain ⟨A1, n1, c1, h10, s10⟩ := leaf_sl (o := 10) (u := 35) (e := 59) (K := 6) (ok := okS) (by kernel_rfl) Try.underlying35 (by kernel_rfl) okS_of h hsz
  obtain ⟨A2, n2, c2, h11, s11⟩ := leaf_sl (o := 11) (u := 36) (e := 62) (K := 4) (ok := okE) (by kernel_rfl) Try.underlying36 (by kernel_rfl) okE_of h hsz
  obtain ⟨L, hL, hl⟩ := snts_of s10
  obtain ⟨M, hM, hm⟩ := evts_of s11
  obtain ⟨_, _, _, q1, q2⟩ := hL.shape
  obtain ⟨_, _, _, q3, q4⟩ := hM.shape
  unfold maxLen at q2 q4
  refine ⟨⟨a0, a1, a2, a3, a4, a5, a6, a7, a8, a9, A1, n1, c1, A2, n2, c2⟩, L, M, ?_, ⟨⟨hL, hM, hl, hm, by omega, by omega⟩, by show a1 ≤ _; omega, bounds_i64 w0, bounds_i64 w2, bounds_i64 w3, bounds_i64 w4, bounds_i64 w5, bounds_i64 w6, bounds_i64 w7, bounds_i64 w8, bounds_i64 w9⟩⟩
  obtain ⟨l⟩ := cs
  match l, hs with
  | [x0, x1, x2, x3, x4, x5, x6, x7, x8, x9, x10, x11], _ =>
    simp at h0 h1 h2 h3 h4 h5 h6 h7 h8 h9 h10 h11
    simp [An.cs, *]
end Go.Proofs.Ytmapcdmegkfheaa
