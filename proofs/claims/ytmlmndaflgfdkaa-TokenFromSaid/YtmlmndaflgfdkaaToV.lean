/- token: two tables apart from one another, and an operation beside them. -/
import Derived.Test.YtmlmndaflgfdkaaToU
import Derived.Test.YtmlmndaflgfdkaaTo15
namespace Go.Proofs.Ytmlmndaflgfdkaa
set_option linter.unusedVariables false
set_option linter.unusedSimpArgs false
open Go.RowKit
/-- Two tables, made since B, and a block q below B. -/
structure Two (B q : Nat) (tq : TypeId) (cs : Array Value) (w0 : World) (ya : Nat) (va : Value) (La : List Tk) (yb : Nat) (vb : Value) (Lb : List Tk) (w : World) : Prop where
  a : TB w ya va La
  b : TB w yb vb Lb
  bq : Blk w q tq cs
  qB : q < B
  hB : B = w0.heap.size
  bel : Below w0.heap.size w0 w
  nab : ya ≠ yb
  vay : va.ownBlock ≠ some yb
  vby : vb.ownBlock ≠ some ya
  vv : ∀ i, va.ownBlock = some i → vb.ownBlock ≠ some i
  ga : B ≤ ya
  gb : B ≤ yb
  gva : ∀ i, va.ownBlock = some i → B ≤ i
  gvb : ∀ i, vb.ownBlock = some i → B ≤ i
section
variable {B q : Nat} {tq : TypeId} {cs : Array Value} {w0 w w' : World} {ya yb : Nat} {va vb va' vb' : Value} {La Lb La' Lb' : List Tk}
theorem Two.below (h : Two B q tq cs w0 ya va La yb vb Lb w) (hb : Below w.heap.size w w') : Two B q tq cs w0 ya va La yb vb Lb w' :=
  ⟨h.a.below hb, h.b.below hb, h.bq.thru0 hb, h.qB, h.hB, below_trans h.bel hb, h.nab, h.vay, h.vby, h.vv, h.ga, h.gb, h.gva, h.gvb⟩
theorem Two.swap (h : Two B q tq cs w0 ya va La yb vb Lb w) : Two B q tq cs w0 yb vb Lb ya va La w :=
  ⟨h.b, h.a, h.bq, h.qB, h.hB, h.bel, h.nab.symm, h.vby, h.vay, fun i h1 h2 => h.vv i h2 h1, h.gb, h.ga, h.gvb, h.gva⟩
theorem Two.opA (h : Two B q tq cs w0 ya va La yb vb Lb w) (t : TS ya va w va' La' w') : Two B q tq cs w0 ya va' La' yb vb Lb w' := by
  have hs := h.bel.size
  have hB := h.hB
  have fr : ∀ i, va'.ownBlock = some i → va.ownBlock = some i ∨ w.heap.size ≤ i := t.far
  refine ⟨t.tb, ⟨t.keep h.b.blk h.nab.symm h.vay, t.keepRow h.b.own (fun i hi => ⟨fun e => h.vby (by rw [hi, e]), fun e => h.vv i e hi⟩), h.b.ne⟩, t.keep h.bq (by have := h.qB; have := h.ga; omega) (fun e => by have := h.gva q e; have := h.qB; omega), h.qB, h.hB, below_ts h.bel t (by have := h.ga; omega) (fun i hi => by have := h.gva i hi; omega), h.nab, fun e => ?_, h.vby, fun i h1 h2 => ?_, h.ga, h.gb, fun i hi => ?_, h.gvb⟩
  · rcases fr yb e with h1 | h1
    · exact h.vay h1
    · have := h.b.blk.lt; omega
  · rcases fr i h1 with h3 | h3
    · exact h.vv i h3 h2
    · have := h.b.own.lt h2; omega
  · rcases fr i hi with h1 | h1
    · exact h.gva i h1
    · omega
theorem Two.opB (h : Two B q tq cs w0 ya va La yb vb Lb w) (t : TS yb vb w vb' Lb' w') : Two B q tq cs w0 ya va La yb vb' Lb' w' := (h.swap.opA t).swap
/-- A table that was made behind another one is apart from it. -/
theorem Two.mk' (hq : Blk w0 q tq cs) (h1 : TB w ya va La) (hb : Below w0.heap.size w0 w) (hya : w0.heap.size ≤ ya) (hva : ∀ i, va.ownBlock = some i → w0.heap.size ≤ i) (h2 : TB w' yb vb Lb) (hb2 : Below w.heap.size w w') (hyb : w.heap.size ≤ yb) (hvb : ∀ i, vb.ownBlock = some i → w.heap.size ≤ i) : Two w0.heap.size q tq cs w0 ya va La yb vb Lb w' := by
  have hs := hb.size
  refine ⟨h1.below hb2, h2, (hq.thru0 hb).thru0 hb2, hq.lt, rfl, below_trans hb hb2, fun e => ?_, fun e => ?_, fun e => ?_, fun i e1 e2 => ?_, hya, by omega, hva, fun i hi => by have := hvb i hi; omega⟩
  · have := h1.blk.lt; omega
  · have := h1.own.lt e; omega
  · have := hvb _ e; have := h1.blk.lt; omega
  · have := hvb i e2; have := h1.own.lt e1; omega
end
end Go.Proofs.Ytmlmndaflgfdkaa
