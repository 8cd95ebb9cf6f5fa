/- audit: a trail beside two rows of one's own; what is drained is a page. -/
import Derived.Test.YtjkkhefdpcpjiaaAuF
import Derived.Test.YtjkkhefdpcpjiaaAuH
namespace Go.Proofs.Ytjkkhefdpcpjiaa
set_option linter.unusedVariables false
set_option linter.unusedSimpArgs false
open Go.RowKit
theorem elOa_ok : elOa.Ok := ⟨by decide, fun _ => rfl, fun x u hu => by simp only [elOa, List.mem_cons, List.not_mem_nil, or_false] at hu; rcases hu with rfl | rfl | rfl | rfl | rfl | rfl <;> rfl, by kernel_rfl, rfl, by decide⟩
theorem ERd.six {w : World} {A : Option Addr} {n c : Nat} {L : List Oa} (h : ERd elOa w (.slice A n c) L) {i : Nat} {x : Oa} (hi : L[i]? = some x) : ∃ g o, A = some ⟨g, o, none⟩ ∧
    w.cell? ⟨g, o + i * 6, none⟩ = some (.int .i64 x.kind) ∧ w.cell? ⟨g, o + i * 6 + 1, none⟩ = some (.int .i64 x.e.user) ∧ w.cell? ⟨g, o + i * 6 + 2, none⟩ = some (.int .i64 x.e.op) ∧ w.cell? ⟨g, o + i * 6 + 3, none⟩ = some (.int .i64 x.e.st) ∧ w.cell? ⟨g, o + i * 6 + 4, none⟩ = some (.int .i64 x.e.tick) ∧ w.cell? ⟨g, o + i * 6 + 5, none⟩ = some (.int .i64 x.n) := by
  obtain ⟨A', c', e, h1, h2, h3⟩ := h
  injection e with e1 e2 e3
  subst e1
  obtain ⟨g, o, rfl, hc⟩ := h3 i x hi
  exact ⟨g, o, rfl, hc 0 _ rfl, hc 1 _ rfl, hc 2 _ rfl, hc 3 _ rfl, hc 4 _ rfl, hc 5 _ rfl⟩
structure SP (w wr : World) (y : Nat) (v : Value) (H : List Ev) (n p : Nat) (av : Value) (A : List Ev) (gv : Value) (G : List Ev) : Prop where
  bel : Below w.heap.size w wr
  tr : TR wr y v H n p
  hy : w.heap.size ≤ y
  fv : ∀ i, v.ownBlock = some i → w.heap.size ≤ i
  oa : EOwn elE wr av A
  fa : ∀ i, av.ownBlock = some i → w.heap.size ≤ i
  og : EOwn elE wr gv G
  fg : ∀ i, gv.ownBlock = some i → w.heap.size ≤ i
  ya : av.ownBlock ≠ some y
  yg : gv.ownBlock ≠ some y
  va : ∀ i, v.ownBlock = some i → av.ownBlock ≠ some i
  vg : ∀ i, v.ownBlock = some i → gv.ownBlock ≠ some i
  ag : ∀ i, av.ownBlock = some i → gv.ownBlock ≠ some i
section
variable {w wr w' : World} {y n p : Nat} {v av gv : Value} {H A G : List Ev}
theorem SP.below (h : SP w wr y v H n p av A gv G) (hb : Below wr.heap.size wr w') : SP w w' y v H n p av A gv G :=
  ⟨below_trans h.bel hb, h.tr.below hb, h.hy, h.fv, h.oa.below hb, h.fa, h.og.below hb, h.fg, h.ya, h.yg, h.va, h.vg, h.ag⟩
theorem SP.act {v' : Value} {H' : List Ev} {n' p' : Nat} (h : SP w wr y v H n p av A gv G) (a : AS y v wr v' H' n' p' w') : SP w w' y v' H' n' p' av A gv G :=
  ⟨a.ke.bel h.bel h.hy h.fv, a.tr, h.hy, a.farB h.bel.size h.fv,
    a.keepRow h.oa (fun i hi => ⟨fun e => h.ya (by rw [hi, e]), fun e => h.va i e hi⟩), h.fa,
    a.keepRow h.og (fun i hi => ⟨fun e => h.yg (by rw [hi, e]), fun e => h.vg i e hi⟩), h.fg, h.ya, h.yg,
    fun i hi e => a.apart (h.oa.lt e) (fun e2 => h.va i e2 e) hi, fun i hi e => a.apart (h.og.lt e) (fun e2 => h.vg i e2 e) hi, h.ag⟩
theorem TR.keepT {v0 : Value} (h : TR wr y v H n p) (hk : ∀ i, i < wr.heap.size → v0.ownBlock ≠ some i → w'.heap[i]? = wr.heap[i]?) (h1 : v0.ownBlock ≠ some y) (h2 : ∀ i, v.ownBlock = some i → v0.ownBlock ≠ some i) : TR w' y v H n p :=
  ⟨(hk y h.blk.lt h1).trans h.blk, h.own.keep (fun i hi e => hk i hi (h2 i e)), h.ne, h.gone, h.past⟩
theorem push_keep {o : Obj} {v0 v2 : Value} {M : List Ev} (ha : EAppended elE v0 M (wr.alloc o) v2 w') : ∀ i, i < wr.heap.size → v0.ownBlock ≠ some i → w'.heap[i]? = wr.heap[i]? := fun i hi hn =>
  (ha.keep (by simp; omega) hn).trans (((Below.refl wr.heap.size wr).alloc (Nat.le_refl _) o).block i hi)
theorem push_own {o : Obj} {v0 v2 : Value} {M : List Ev} (ha : EAppended elE v0 M (wr.alloc o) v2 w') : ∀ i, v2.ownBlock = some i → v0.ownBlock = some i ∨ wr.heap.size ≤ i := by
  obtain ⟨g, cap, rfl, _, _, hor⟩ := ha
  intro i hi
  have e : g = i := by simpa [Value.ownBlock] using hi
  subst e
  rcases hor with h1 | h1
  · exact .inl h1
  · right; simp at h1; omega
theorem push_bel {o : Obj} {v0 v2 : Value} {M : List Ev} (hb : Below w.heap.size w wr) (hf : ∀ i, v0.ownBlock = some i → w.heap.size ≤ i) (ha : EAppended elE v0 M (wr.alloc o) v2 w') : Below w.heap.size w w' := by
  have hs := hb.size
  have := ha.below (B := w.heap.size) (by simp; omega) hf
  exact (hb.alloc hs o).trans this.1
theorem SP.pushA {o : Obj} {v2 : Value} {x : Ev} (h : SP w wr y v H n p av A gv G) (ha : EAppended elE av (A ++ [x]) (wr.alloc o) v2 w') : SP w w' y v H n p v2 (A ++ [x]) gv G := by
  have hk := push_keep ha
  have ho := push_own ha
  refine ⟨push_bel h.bel h.fa ha, h.tr.keepT hk h.ya h.va, h.hy, h.fv, ha.own, fun i hi => ?_, h.og.keep (fun i hi e => hk i hi (fun e2 => h.ag i e2 e)), h.fg, fun e => ?_, h.yg, fun i hi e => ?_, h.vg, fun i hi e => ?_⟩
  · rcases ho i hi with h1 | h1
    · exact h.fa i h1
    · exact Nat.le_trans h.bel.size h1
  · rcases ho y e with h1 | h1
    · exact h.ya h1
    · have := h.tr.blk.lt; omega
  · rcases ho i e with h1 | h1
    · exact h.va i hi h1
    · have := h.tr.own.lt hi; omega
  · rcases ho i hi with h1 | h1
    · exact h.ag i h1 e
    · have := h.og.lt e; omega
theorem SP.pushG {o : Obj} {v2 : Value} {x : Ev} (h : SP w wr y v H n p av A gv G) (ha : EAppended elE gv (G ++ [x]) (wr.alloc o) v2 w') : SP w w' y v H n p av A v2 (G ++ [x]) := by
  have hk := push_keep ha
  have ho := push_own ha
  refine ⟨push_bel h.bel h.fg ha, h.tr.keepT hk h.yg h.vg, h.hy, h.fv, h.oa.keep (fun i hi e => hk i hi (fun e2 => h.ag i e e2)), h.fa, ha.own, fun i hi => ?_, h.ya, fun e => ?_, h.va, fun i hi e => ?_, fun i hi e => ?_⟩
  · rcases ho i hi with h1 | h1
    · exact h.fg i h1
    · exact Nat.le_trans h.bel.size h1
  · rcases ho y e with h1 | h1
    · exact h.yg h1
    · have := h.tr.blk.lt; omega
  · rcases ho i e with h1 | h1
    · exact h.vg i hi h1
    · have := h.tr.own.lt hi; omega
  · rcases ho i e with h1 | h1
    · exact h.ag i hi h1
    · have := h.oa.lt hi; omega
/-- A further row, kept while another is appended to. -/
theorem row_push {o : Obj} {v0 v2 dv : Value} {M D : List Ev} (hD : EOwn elE wr dv D) (hd : ∀ i, dv.ownBlock = some i → v0.ownBlock ≠ some i) (ha : EAppended elE v0 M (wr.alloc o) v2 w') : EOwn elE w' dv D ∧ ∀ i, dv.ownBlock = some i → v2.ownBlock ≠ some i :=
  ⟨hD.keep (fun i hi e => push_keep ha i hi (hd i e)), fun i hi e => by
    rcases push_own ha i e with h1 | h1
    · exact hd i hi h1
    · have := hD.lt hi; omega⟩
end
/-- What is drained is the first page of what is left. -/
theorem drn_page (R : List Ev) (N : Int) : R.take (drN R.length N) = pageI R 0 N := by
  unfold pageI drN
  by_cases h : N < 0
  · rw [if_pos (.inr h), show (min N (R.length : Int)).toNat = 0 by omega]; rfl
  · rw [if_neg (by omega)]
    unfold pageL
    simp only [Int.toNat_zero, List.drop_zero]
    by_cases h2 : N.toNat ≤ R.length
    · rw [show (min N (R.length : Int)).toNat = N.toNat by omega]
    · rw [List.take_of_length_le (by omega), List.take_of_length_le (by omega)]
/-- What AuditPlays holds between two rounds. -/
def PlA (w : World) (y k : Nat) (v : Value) (av gv : Value) (wr : World) : Prop := ∃ (H : List Ev) (n g : Nat) (A : List Ev), SP w wr y v H n g av A gv (A.take g) ∧ H.drop n = A.drop g ∧ H.length ≤ k ∧ A.length ≤ k ∧ g ≤ A.length
end Go.Proofs.Ytjkkhefdpcpjiaa
