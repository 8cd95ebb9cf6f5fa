/- Grants, operations and tickets that came in. -/
import Derived.Test.YtmlmndaflgfdkaaSl
import Derived.Test.YtmlmndaflgfdkaaTo0
namespace Go.Proofs.Ytmlmndaflgfdkaa
set_option linter.unusedVariables false
set_option linter.unusedSimpArgs false
open Go.RowKit Go.ChangeShapes Go.WideShapes Go.Deep
section
variable {H : Type} {enc : TypeId × Value → H} {P : Program} {w : World} {base : Nat} {spare : Nat → Bool} {held : Bool}
theorem leaf_bool {t u : TypeId} {o fuel : Nat} {cs : List Value} {x : DataW H × List MemPlace} (hl : leafAt P 9 t o = some u) (hk : P.underlying u = some .bool) (h : DataW.trod enc P w base spare held fuel t cs = some x) : ∃ b : Bool, cs[o]? = some (.bool b) := by
  obtain ⟨_, ps, y, hy, _, hv⟩ := leaf_of 9 t o u fuel cs x hl h
  obtain ⟨b, rfl, _⟩ := DataW.trod_bool hk hy
  exact ⟨b, by simpa using hv 0 _ rfl⟩
end
theorem Gt.I.mk' {g : Gt} (h0 : (Lit.int .i64 g.ops).wf = true) (h1 : (Lit.int .i64 g.zoom).wf = true) (h2 : (Lit.int .i64 g.x0).wf = true) (h3 : (Lit.int .i64 g.y0).wf = true) (h4 : (Lit.int .i64 g.x1).wf = true) (h5 : (Lit.int .i64 g.y1).wf = true) (h7 : (Lit.int .i64 g.til).wf = true) : g.I :=
  ⟨bounds_i64 h0, bounds_i64 h1, bounds_i64 h2, bounds_i64 h3, bounds_i64 h4, bounds_i64 h5, bounds_i64 h7⟩
theorem agg_eight {cs : Array Value} {a b c d e f g h : Value} (hs : cs.size = 8) (h0 : cs.toList[0]? = some a) (h1 : cs.toList[1]? = some b) (h2 : cs.toList[2]? = some c) (h3 : cs.toList[3]? = some d) (h4 : cs.toList[4]? = some e) (h5 : cs.toList[5]? = some f) (h6 : cs.toList[6]? = some g) (h7 : cs.toList[7]? = some h) : Value.agg cs = .agg #[a, b, c, d, e, f, g, h] := by
  obtain ⟨l⟩ := cs
  match l, hs with
  | [x0, x1, x2, x3, x4, x5, x6, x7], _ =>
    simp at h0 h1 h2 h3 h4 h5 h6 h7
    simp [*]
theorem grant_of {H : Type} {enc : TypeId × Value → H} {w : World} {base : Nat} {spare : Nat → Bool} {held : Bool} {fuel : Nat} {cs : Array Value} {y : DataW H × List MemPlace} (h : DataW.trod enc Try.prog w base spare held fuel 30 cs.toList = some y) (hs : cs.size = 8) : ∃ g : Gt, Value.agg cs = g.V ∧ g.I := by
  obtain ⟨a0, h0, w0⟩ := leaf_int (o := 0) (u := 3) (k := .i64) (by kernel_rfl) Try.underlying3 h
  obtain ⟨a1, h1, w1⟩ := leaf_int (o := 1) (u := 3) (k := .i64) (by kernel_rfl) Try.underlying3 h
  obtain ⟨a2, h2, w2⟩ := leaf_int (o := 2) (u := 3) (k := .i64) (by kernel_rfl) Try.underlying3 h
  obtain ⟨a3, h3, w3⟩ := leaf_int (o := 3) (u := 3) (k := .i64) (by kernel_rfl) Try.underlying3 h
  obtain ⟨a4, h4, w4⟩ := leaf_int (o := 4) (u := 3) (k := .i64) (by kernel_rfl) Try.underlying3 h
  obtain ⟨a5, h5, w5⟩ := leaf_int (o := 5) (u := 3) (k := .i64) (by kernel_rfl) Try.underlying3 h
  obtain ⟨a6, h6⟩ := leaf_bool (o := 6) (u := 4) (by kernel_rfl) Try.underlying4 h
  obtain ⟨a7, h7, w7⟩ := leaf_int (o := 7) (u := 3) (k := .i64) (by kernel_rfl) Try.underlying3 h
  exact ⟨⟨a0, a1, a2, a3, a4, a5, a6, a7⟩, agg_eight hs h0 h1 h2 h3 h4 h5 h6 h7, Gt.I.mk' w0 w1 w2 w3 w4 w5 w7⟩
/-- Something that is done. -/
structure Ot where
  kind : Int
  src : Nat
  draw : Nat
  g : Gt
  now : Int
abbrev Ot.V (o : Ot) : Value := .agg #[.int .i64 o.kind, .int .u64 o.src, .int .u64 o.draw, .int .i64 o.g.ops, .int .i64 o.g.zoom, .int .i64 o.g.x0, .int .i64 o.g.y0, .int .i64 o.g.x1, .int .i64 o.g.y1, .bool o.g.void, .int .i64 o.g.til, .int .i64 o.now]
structure Ot.I (o : Ot) : Prop where
  kind : -9223372036854775808 ≤ o.kind ∧ o.kind ≤ 9223372036854775807
  src : o.src ≤ 18446744073709551615
  draw : o.draw ≤ 18446744073709551615
  g : o.g.I
  now : -9223372036854775808 ≤ o.now ∧ o.now ≤ 9223372036854775807
abbrev wOp : Value := .agg #[.int .i64 0, .int .u64 0, .int .u64 0, .int .i64 0, .int .i64 0, .int .i64 0, .int .i64 0, .int .i64 0, .int .i64 0, .bool false, .int .i64 0, .int .i64 0]
abbrev wGr : Value := .agg #[.int .i64 0, .int .i64 0, .int .i64 0, .int .i64 0, .int .i64 0, .int .i64 0, .bool false, .int .i64 0]
/-- The twelve cells of an operation. -/
def okOp (cs : List Value) : Prop := ∃ o : Ot, o.I ∧ cs[0]? = some (.int .i64 o.kind) ∧ cs[1]? = some (.int .u64 o.src) ∧ cs[2]? = some (.int .u64 o.draw) ∧ cs[3]? = some (.int .i64 o.g.ops) ∧ cs[4]? = some (.int .i64 o.g.zoom) ∧ cs[5]? = some (.int .i64 o.g.x0) ∧ cs[6]? = some (.int .i64 o.g.y0) ∧ cs[7]? = some (.int .i64 o.g.x1) ∧ cs[8]? = some (.int .i64 o.g.y1) ∧ cs[9]? = some (.bool o.g.void) ∧ cs[10]? = some (.int .i64 o.g.til) ∧ cs[11]? = some (.int .i64 o.now)
theorem okOp_of {H : Type} {enc : TypeId × Value → H} {w : World} {base : Nat} {spare : Nat → Bool} {held : Bool} (fuel : Nat) (cs : List Value) (y : DataW H × List MemPlace) (h : DataW.trod enc Try.prog w base spare held fuel 32 cs = some y) : okOp cs := by
  obtain ⟨k, hk, wk⟩ := leaf_int (o := 0) (u := 3) (k := .i64) (by kernel_rfl) Try.underlying3 h
  obtain ⟨s, hs, ws⟩ := leaf_int (o := 1) (u := 26) (k := .u64) (by kernel_rfl) Try.underlying26 h
  obtain ⟨d, hd, wd⟩ := leaf_int (o := 2) (u := 26) (k := .u64) (by kernel_rfl) Try.underlying26 h
  obtain ⟨a0, h0, w0⟩ := leaf_int (o := 3) (u := 3) (k := .i64) (by kernel_rfl) Try.underlying3 h
  obtain ⟨a1, h1, w1⟩ := leaf_int (o := 4) (u := 3) (k := .i64) (by kernel_rfl) Try.underlying3 h
  obtain ⟨a2, h2, w2⟩ := leaf_int (o := 5) (u := 3) (k := .i64) (by kernel_rfl) Try.underlying3 h
  obtain ⟨a3, h3, w3⟩ := leaf_int (o := 6) (u := 3) (k := .i64) (by kernel_rfl) Try.underlying3 h
  obtain ⟨a4, h4, w4⟩ := leaf_int (o := 7) (u := 3) (k := .i64) (by kernel_rfl) Try.underlying3 h
  obtain ⟨a5, h5, w5⟩ := leaf_int (o := 8) (u := 3) (k := .i64) (by kernel_rfl) Try.underlying3 h
  obtain ⟨a6, h6⟩ := leaf_bool (o := 9) (u := 4) (by kernel_rfl) Try.underlying4 h
  obtain ⟨a7, h7, w7⟩ := leaf_int (o := 10) (u := 3) (k := .i64) (by kernel_rfl) Try.underlying3 h
  obtain ⟨n, hn, wn⟩ := leaf_int (o := 11) (u := 3) (k := .i64) (by kernel_rfl) Try.underlying3 h
  have bs := bounds_u64 ws
  have bd := bounds_u64 wd
  obtain ⟨s', rfl⟩ := Int.eq_ofNat_of_zero_le bs.1
  obtain ⟨d', rfl⟩ := Int.eq_ofNat_of_zero_le bd.1
  exact ⟨⟨k, s', d', ⟨a0, a1, a2, a3, a4, a5, a6, a7⟩, n⟩, ⟨bounds_i64 wk, (show s' ≤ 18446744073709551615 by omega), (show d' ≤ 18446744073709551615 by omega), Gt.I.mk' w0 w1 w2 w3 w4 w5 w7, bounds_i64 wn⟩, hk, hs, hd, h0, h1, h2, h3, h4, h5, h6, h7, hn⟩
theorem op_of {H : Type} {enc : TypeId × Value → H} {w : World} {base : Nat} {spare : Nat → Bool} {held : Bool} {fuel : Nat} {cs : Array Value} {y : DataW H × List MemPlace} (h : DataW.trod enc Try.prog w base spare held fuel 32 cs.toList = some y) (hs : cs.size = 12) : ∃ o : Ot, Value.agg cs = o.V ∧ o.I := by
  obtain ⟨o, hI, h0, h1, h2, h3, h4, h5, h6, h7, h8, h9, h10, h11⟩ := okOp_of _ _ _ h
  refine ⟨o, ?_, hI⟩
  obtain ⟨l⟩ := cs
  match l, hs with
  | [x0, x1, x2, x3, x4, x5, x6, x7, x8, x9, x10, x11], _ =>
    simp at h0 h1 h2 h3 h4 h5 h6 h7 h8 h9 h10 h11
    simp [*]
end Go.Proofs.Ytmlmndaflgfdkaa
