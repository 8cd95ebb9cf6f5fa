/- token: what is carried while a table and the document's row are played with. -/
import Derived.Test.YteepimmnajnhfaaTo31
import Derived.Test.YteepimmnajnhfaaTo30
namespace Go.Proofs.Yteepimmnajnhfaa
set_option linter.unusedVariables false
set_option linter.unusedSimpArgs false
open Go.RowKit
/-- A table and a row, made since w, apart from one another. -/
structure ST (w : World) (y : Nat) (v : Value) (L : List Tk) (hv : Value) (M : List Tk) (wr : World) : Prop where
  bel : Below w.heap.size w wr
  tb : TB wr y v L
  own : EOwn elT wr hv M
  yy : w.heap.size ≤ y
  vv : ∀ i, v.ownBlock = some i → w.heap.size ≤ i
  ap : ∀ i, hv.ownBlock = some i → i ≠ y ∧ v.ownBlock ≠ some i
theorem ST.below {w wr w' : World} {y : Nat} {v hv : Value} {L M : List Tk} (h : ST w y v L hv M wr) (hb : Below wr.heap.size wr w') : ST w y v L hv M w' :=
  ⟨below_trans h.bel hb, h.tb.below hb, h.own.below hb, h.yy, h.vv, h.ap⟩
theorem ST.table {w wr w' : World} {y : Nat} {v v' hv : Value} {L L' M : List Tk} (h : ST w y v L hv M wr) (t : TS y v wr v' L' w') : ST w y v' L' hv M w' :=
  ⟨below_ts h.bel t h.yy h.vv, t.tb, t.keepRow h.own h.ap, h.yy, fun i hi => by
    rcases t.far i hi with h1 | h1
    · exact h.vv i h1
    · exact Nat.le_trans h.bel.size h1, t.farRow h.own h.ap⟩
theorem ST.have_ {w wr w' : World} {y : Nat} {v hv hv' : Value} {L M M' : List Tk} (h : ST w y v L hv M wr) (f : FE elT wr hv' M' w') : ST w y v L hv' M' w' :=
  ⟨below_trans h.bel f.bel, h.tb.below f.bel, f.own, h.yy, h.vv, fun i hi => by
    have h1 := f.far i hi
    have h2 := h.tb.blk.lt
    exact ⟨by omega, fun e => by have := h.tb.own.lt e; omega⟩⟩
/-- A block of one's own beside them. -/
structure BX (y : Nat) (v : Value) (b : Nat) (t : TypeId) (cs : Array Value) (wr : World) : Prop where
  blk : Blk wr b t cs
  ny : b ≠ y
  nv : v.ownBlock ≠ some b
theorem BX.below {wr w' : World} {y b : Nat} {v : Value} {t : TypeId} {cs : Array Value} (h : BX y v b t cs wr) (hb : Below wr.heap.size wr w') : BX y v b t cs w' := ⟨Blk.thru0 h.blk hb, h.ny, h.nv⟩
theorem BX.table {wr w' : World} {y b : Nat} {v v' : Value} {L' : List Tk} {t : TypeId} {cs : Array Value} (h : BX y v b t cs wr) (k : TS y v wr v' L' w') : BX y v' b t cs w' :=
  ⟨k.keep h.blk h.ny h.nv, h.ny, fun e => by
    rcases k.far b e with h1 | h1
    · exact h.nv h1
    · have := h.blk.lt; omega⟩
theorem BX.new {w wr : World} {y : Nat} {v hv : Value} {L M : List Tk} (h : ST w y v L hv M wr) (t : TypeId) (cs : Array Value) : BX y v wr.heap.size t cs (wr.alloc (.cells cs t)) :=
  ⟨Blk.new wr t cs, (by have := h.tb.blk.lt; omega), fun e => by have := h.tb.own.lt e; omega⟩
theorem ST.hne {w wr : World} {y : Nat} {v hv : Value} {L M : List Tk} (h : ST w y v L hv M wr) : hv.ownBlock ≠ some wr.heap.size := fun e => by have := h.own.lt e; omega
theorem ST.put {w wr : World} {y b : Nat} {v hv : Value} {L M : List Tk} (h : ST w y v L hv M wr) (hw : w.heap.size ≤ b) (hy : b ≠ y) (hv' : v.ownBlock ≠ some b) (hh : hv.ownBlock ≠ some b) (o : Nat) (u : Value) : ST w y v L hv M (wr.setCell ⟨b, o, none⟩ u) :=
  ⟨h.bel.setCell (p := ⟨b, o, none⟩) hw u, ⟨h.tb.blk.far (p := ⟨b, o, none⟩) (Ne.symm hy) u, h.tb.own.keep fun i hi e => Below.heap_setCell wr ⟨b, o, none⟩ u i (fun e2 => hv' (by rw [e]; simpa using e2)), h.tb.ne⟩,
   h.own.keep fun i hi e => Below.heap_setCell wr ⟨b, o, none⟩ u i (fun e2 => hh (by rw [e]; simpa using e2)), h.yy, h.vv, h.ap⟩
theorem BX.put {wr : World} {y b b' : Nat} {v : Value} {t : TypeId} {cs : Array Value} (h : BX y v b t cs wr) (hne : b ≠ b') (o : Nat) (u : Value) : BX y v b t cs (wr.setCell ⟨b', o, none⟩ u) := ⟨h.blk.far (p := ⟨b', o, none⟩) hne u, h.ny, h.nv⟩
theorem al {w : World} (o : Obj) : Below w.heap.size w (w.alloc o) := (Below.refl _ _).alloc (Nat.le_refl _) _
end Go.Proofs.Yteepimmnajnhfaa
