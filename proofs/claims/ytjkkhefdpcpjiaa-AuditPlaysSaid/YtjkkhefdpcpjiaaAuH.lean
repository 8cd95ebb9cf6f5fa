/- Events and operations that came in. -/
import Derived.Test.YtjkkhefdpcpjiaaSl
import Derived.Test.YtjkkhefdpcpjiaaAu0
namespace Go.Proofs.Ytjkkhefdpcpjiaa
set_option linter.unusedVariables false
set_option linter.unusedSimpArgs false
open Go.RowKit Go.ChangeShapes Go.WideShapes Go.Deep
structure Ev.I (e : Ev) : Prop where
  user : -9223372036854775808 ≤ e.user ∧ e.user ≤ 9223372036854775807
  op : -9223372036854775808 ≤ e.op ∧ e.op ≤ 9223372036854775807
  st : -9223372036854775808 ≤ e.st ∧ e.st ≤ 9223372036854775807
  tick : -9223372036854775808 ≤ e.tick ∧ e.tick ≤ 9223372036854775807
abbrev wEv : Value := .agg #[.int .i64 0, .int .i64 0, .int .i64 0, .int .i64 0]
/-- The four cells of an event. -/
def okEv (cs : List Value) : Prop := ∃ e : Ev, e.I ∧ cs[0]? = some (.int .i64 e.user) ∧ cs[1]? = some (.int .i64 e.op) ∧ cs[2]? = some (.int .i64 e.st) ∧ cs[3]? = some (.int .i64 e.tick)
theorem okEv_of {H : Type} {enc : TypeId × Value → H} {w : World} {base : Nat} {spare : Nat → Bool} {held : Bool} (fuel : Nat) (cs : List Value) (y : DataW H × List MemPlace) (h : DataW.trod enc Try.prog w base spare held fuel 27 cs = some y) : okEv cs := by
  obtain ⟨a0, h0, w0⟩ := leaf_int (o := 0) (u := 3) (k := .i64) (by kernel_rfl) Try.underlying3 h
  obtain ⟨a1, h1, w1⟩ := leaf_int (o := 1) (u := 3) (k := .i64) (by kernel_rfl) Try.underlying3 h
  obtain ⟨a2, h2, w2⟩ := leaf_int (o := 2) (u := 3) (k := .i64) (by kernel_rfl) Try.underlying3 h
  obtain ⟨a3, h3, w3⟩ := leaf_int (o := 3) (u := 3) (k := .i64) (by kernel_rfl) Try.underlying3 h
  exact ⟨⟨a0, a1, a2, a3⟩, ⟨bounds_i64 w0, bounds_i64 w1, bounds_i64 w2, bounds_i64 w3⟩, h0, h1, h2, h3⟩
def okEvW (_ : World) : List Value → Prop := okEv
theorem okEvP {H : Type} {enc : TypeId × Value → H} {w : World} {base : Nat} {spare : Nat → Bool} {held : Bool} (fuel : Nat) (cs : List Value) (y : DataW H × List MemPlace) (h : DataW.trod enc Try.prog w base spare held fuel 27 cs = some y) (_ : ∀ m ∈ y.1.weights Try.prog 27, m ≤ reachBytes) : okEvW w cs := okEv_of fuel cs y h
theorem ev_of {H : Type} {enc : TypeId × Value → H} {w : World} {base : Nat} {spare : Nat → Bool} {held : Bool} {fuel : Nat} {cs : Array Value} {y : DataW H × List MemPlace} (h : DataW.trod enc Try.prog w base spare held fuel 27 cs.toList = some y) (hs : cs.size = 4) : ∃ e : Ev, Value.agg cs = e.V ∧ e.I := by
  obtain ⟨e, hI, h0, h1, h2, h3⟩ := okEv_of _ _ _ h
  refine ⟨e, ?_, hI⟩
  obtain ⟨l⟩ := cs
  match l, hs with
  | [x0, x1, x2, x3], _ =>
    simp at h0 h1 h2 h3
    simp [*]
/-- Something that is done with a trail. -/
structure Oa where
  kind : Int
  e : Ev
  n : Int
structure Oa.I (o : Oa) : Prop where
  kind : -9223372036854775808 ≤ o.kind ∧ o.kind ≤ 9223372036854775807
  e : o.e.I
  n : -9223372036854775808 ≤ o.n ∧ o.n ≤ 9223372036854775807
abbrev wOa : Value := .agg #[.int .i64 0, .int .i64 0, .int .i64 0, .int .i64 0, .int .i64 0, .int .i64 0]
def okOa (cs : List Value) : Prop := ∃ o : Oa, o.I ∧ cs[0]? = some (.int .i64 o.kind) ∧ cs[1]? = some (.int .i64 o.e.user) ∧ cs[2]? = some (.int .i64 o.e.op) ∧ cs[3]? = some (.int .i64 o.e.st) ∧ cs[4]? = some (.int .i64 o.e.tick) ∧ cs[5]? = some (.int .i64 o.n)
def okOaW (_ : World) : List Value → Prop := okOa
theorem okOaP {H : Type} {enc : TypeId × Value → H} {w : World} {base : Nat} {spare : Nat → Bool} {held : Bool} (fuel : Nat) (cs : List Value) (y : DataW H × List MemPlace) (h : DataW.trod enc Try.prog w base spare held fuel 29 cs = some y) (_ : ∀ m ∈ y.1.weights Try.prog 29, m ≤ reachBytes) : okOaW w cs := by
  obtain ⟨k, hk, wk⟩ := leaf_int (o := 0) (u := 3) (k := .i64) (by kernel_rfl) Try.underlying3 h
  obtain ⟨a0, h0, w0⟩ := leaf_int (o := 1) (u := 3) (k := .i64) (by kernel_rfl) Try.underlying3 h
  obtain ⟨a1, h1, w1⟩ := leaf_int (o := 2) (u := 3) (k := .i64) (by kernel_rfl) Try.underlying3 h
  obtain ⟨a2, h2, w2⟩ := leaf_int (o := 3) (u := 3) (k := .i64) (by kernel_rfl) Try.underlying3 h
  obtain ⟨a3, h3, w3⟩ := leaf_int (o := 4) (u := 3) (k := .i64) (by kernel_rfl) Try.underlying3 h
  obtain ⟨n, hn, wn⟩ := leaf_int (o := 5) (u := 3) (k := .i64) (by kernel_rfl) Try.underlying3 h
  exact ⟨⟨k, ⟨a0, a1, a2, a3⟩, n⟩, ⟨bounds_i64 wk, ⟨bounds_i64 w0, bounds_i64 w1, bounds_i64 w2, bounds_i64 w3⟩, bounds_i64 wn⟩, hk, h0, h1, h2, h3, hn⟩
def elOa : El Oa := { T := 29, k := 6, by_ := 48, z := wOa, enc := fun o => [.int .i64 o.kind, .int .i64 o.e.user, .int .i64 o.e.op, .int .i64 o.e.st, .int .i64 o.e.tick, .int .i64 o.n] }
theorem list_of {α : Type} (n : Nat) {Q : Nat → α → Prop} (h : ∀ i, i < n → ∃ x, Q i x) : ∃ l : List α, l.length = n ∧ ∀ i x, l[i]? = some x → Q i x := by
  induction n with
  | zero => exact ⟨[], rfl, fun i x hx => by simp at hx⟩
  | succ n ih =>
    obtain ⟨l, h1, h2⟩ := ih fun i hi => h i (by omega)
    obtain ⟨y, hy⟩ := h n (by omega)
    refine ⟨l ++ [y], by simp [h1], fun i x hx => ?_⟩
    by_cases hi : i < l.length
    · rw [List.getElem?_append_left hi] at hx
      exact h2 i x hx
    · rw [List.getElem?_append_right (by omega)] at hx
      have h0 : i - l.length = 0 := by
        by_cases h0 : i - l.length = 0
        · exact h0
        · obtain ⟨m, hm⟩ : ∃ m, i - l.length = m + 1 := ⟨i - l.length - 1, by omega⟩
          rw [hm] at hx; simp at hx
      rw [h0] at hx
      simp at hx
      subst hx
      have : i = n := by omega
      subst this
      exact hy
theorem rows_of {α : Type} {E : El α} (hp : 0 < E.k) {ok : List Value → Prop} {I : α → Prop} (hok : ∀ cs : List Value, ok cs → cs.length = E.k → ∃ b : α, I b ∧ ∀ (j : Nat) (u : Value), (E.enc b)[j]? = some u → cs[j]? = some u) {w : World} {a : Option Addr} {len cap : Nat} (h : IsSl w E.k ok a len cap) : ∃ L : List α, ERd E w (.slice a len cap) L ∧ L.length = len ∧ ∀ o ∈ L, I o := by
  have hq : ∀ i, i < len → ∃ b : α, I b ∧ ∃ g o, a = some ⟨g, o, none⟩ ∧ ∀ j u, (E.enc b)[j]? = some u → w.cell? ⟨g, o + i * E.k + j, none⟩ = some u := by
    intro i hi
    obtain ⟨xb, xo, cs, rfl, hl, hcell, hc⟩ := h.at2 i hi hp
    obtain ⟨b, hI, hb⟩ := hok cs hc hl
    refine ⟨b, hI, xb, xo, rfl, fun j u hu => ?_⟩
    have := hcell j u (hb j u hu)
    rwa [← Nat.add_assoc] at this
  obtain ⟨L, h1, h2⟩ := list_of len hq
  obtain ⟨l1, l2⟩ := h.le
  refine ⟨L, ⟨a, cap, by rw [h1], by omega, l2, fun i x hx => ?_⟩, h1, fun o ho => ?_⟩
  · obtain ⟨_, g, o, e, hc⟩ := h2 i x hx
    exact ⟨g, o, e, fun j u hu => hc j u hu⟩
  · obtain ⟨i, hi, rfl⟩ := List.getElem_of_mem ho
    exact (h2 i _ (List.getElem?_eq_getElem hi)).1
theorem evs_of {w : World} {a : Option Addr} {len cap : Nat} (h : IsSl w 4 okEv a len cap) : ∃ L : List Ev, ERd elE w (.slice a len cap) L ∧ L.length = len ∧ ∀ o ∈ L, o.I :=
  rows_of (E := elE) (by decide) (fun cs ⟨e, hI, h0, h1, h2, h3⟩ _ => ⟨e, hI, fun j u hu => by
    match j, hu with
    | 0, hu => simp [elE] at hu; rw [h0, hu]
    | 1, hu => simp [elE] at hu; rw [h1, hu]
    | 2, hu => simp [elE] at hu; rw [h2, hu]
    | 3, hu => simp [elE] at hu; rw [h3, hu]
    | j + 4, hu => simp [elE] at hu⟩) h
theorem oas_of {w : World} {a : Option Addr} {len cap : Nat} (h : IsSl w 6 okOa a len cap) : ∃ L : List Oa, ERd elOa w (.slice a len cap) L ∧ L.length = len ∧ ∀ o ∈ L, o.I :=
  rows_of (E := elOa) (by decide) (fun cs ⟨e, hI, h0, h1, h2, h3, h4, h5⟩ _ => ⟨e, hI, fun j u hu => by
    match j, hu with
    | 0, hu => simp [elOa] at hu; rw [h0, hu]
    | 1, hu => simp [elOa] at hu; rw [h1, hu]
    | 2, hu => simp [elOa] at hu; rw [h2, hu]
    | 3, hu => simp [elOa] at hu; rw [h3, hu]
    | 4, hu => simp [elOa] at hu; rw [h4, hu]
    | 5, hu => simp [elOa] at hu; rw [h5, hu]
    | j + 6, hu => simp [elOa] at hu⟩) h
end Go.Proofs.Ytjkkhefdpcpjiaa
