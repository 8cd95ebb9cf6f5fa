/- queue: Top and Pop as one contract for every queue; what the law of plays has at each step. -/
import Derived.Test.YtlohbmbahagjbaaQDrain
import Derived.Test.YtlohbmbahagjbaaSl
import Derived.Deep.DeepCutAuto
namespace Go.Proofs.Ytlohbmbahagjbaa
set_option linter.unusedVariables false
set_option linter.unusedSimpArgs false
open Go.RowKit
theorem quiet0 {P : Program} {f : FuncId} {args : Array Value} {w : World} {v : Value} (h : Calls P f args w fun e w' => e = .returned v ∧ w = w') : Calls P f args w fun e w'' => e = .returned v ∧ ∃ m, w'' = w.drewN m :=
  h.mono fun _ _ ⟨he, hm⟩ => ⟨he, 0, hm.symm⟩
theorem quiet1 {P : Program} {f : FuncId} {args : Array Value} {w : World} {n : Nat} {v : Value} (h : Calls P f args (w.drewN n) fun e w' => e = .returned v ∧ w.drewN n = w') : Calls P f args (w.drewN n) fun e w'' => e = .returned v ∧ ∃ m, w'' = w.drewN m :=
  h.mono fun _ _ ⟨he, hm⟩ => ⟨he, n, hm.symm⟩
/-- The queue at q has the entries S, in order; the document's row (A, n, c) has them; all lies at w's end or beyond. -/
def LRel (w : World) (q : Nat) (S : List En) (A : Option Addr) (n c : Nat) (wr : World) : Prop :=
  ∃ v L, QQ wr q v L ∧ L.Perm S ∧ Srt S ∧ Hv wr A n c S ∧ Below w.heap.size w wr ∧ w.heap.size ≤ q ∧ (∀ i, v.ownBlock = some i → w.heap.size ≤ i) ∧ (∀ i, A.map (·.block) = some i → w.heap.size ≤ i ∧ i ≠ q ∧ v.ownBlock ≠ some i)
theorem LRel.below {w wr X : World} {q n c : Nat} {S : List En} {A : Option Addr} (h : LRel w q S A n c wr) (hb : Below wr.heap.size wr X) : LRel w q S A n c X := by
  obtain ⟨v, L, h1, h2, h3, h4, h5, h6, h7, h8⟩ := h
  exact ⟨v, L, h1.below hb, h2, h3, h4.below hb, below_trans h5 hb, h6, h7, h8⟩
theorem LRel.hv {w wr : World} {q n c : Nat} {S : List En} {A : Option Addr} (h : LRel w q S A n c wr) : Hv wr A n c S := by obtain ⟨v, L, _, _, _, h4, _⟩ := h; exact h4
theorem LRel.under {w wr : World} {q n c : Nat} {S : List En} {A : Option Addr} (h : LRel w q S A n c wr) : Below w.heap.size w wr := by obtain ⟨v, L, _, _, _, _, h5, _⟩ := h; exact h5
theorem LRel.len {w wr : World} {q n c : Nat} {S : List En} {A : Option Addr} (h : LRel w q S A n c wr) : Calls Try.prog 11 #[.pointer (some ⟨q, 0, none⟩)] wr fun e w' => e = .returned (.int .i64 (n : Int)) ∧ wr = w' := by
  obtain ⟨v, L, h1, h2, h3, h4, _⟩ := h
  obtain ⟨B, cap, rfl, _⟩ := h1.2.1.slice
  rw [show (n : Int) = (L.length : Int) by rw [h2.length_eq, h4.1]]
  exact qlen_any q L.length cap B wr h1.1
def nz (S : List En) : Bool := decide (0 < S.length)
theorem LRel.top {w wr : World} {q n c : Nat} {S : List En} {A : Option Addr} (h : LRel w q S A n c wr) (hl : S.length ≤ 1000000) : Calls Try.prog 10 #[.pointer (some ⟨q, 0, none⟩)] wr fun e w' => e = enV (at_ S 0) (nz S) ∧ Below wr.heap.size wr w' := by
  obtain ⟨v, L, h1, h2, h3, h4, _⟩ := h
  by_cases h0 : 0 < S.length
  · have e : nz S = true := by simp [nz, h0]
    rw [e]
    obtain ⟨g, cap, rfl, hg⟩ := h1.row (by rw [h2.length_eq]; exact h0)
    have hd := drop_at h0
    rw [List.drop_zero] at hd
    have ht : at_ L 0 = at_ S 0 := top_same (by rw [← hd]; exact h2) (by rw [← hd]; exact h3) h1.2.2
    rw [← ht]
    have := h2.length_eq
    exact qtop_some q g cap (L.length - 1) L wr hg h1.2.2 (by omega) (by omega)
  · have e : nz S = false := decide_eq_false h0
    rw [e]
    have hS : S = [] := List.eq_nil_of_length_eq_zero (by omega)
    subst hS
    have hL : L = [] := List.eq_nil_of_length_eq_zero (by rw [h2.length_eq]; rfl)
    subst hL
    exact qtop_none _ wr h1.none_
/-- Where the queue has taken its first, and the row has it still. -/
def LPop (w : World) (q : Nat) (S : List En) (A : Option Addr) (n c : Nat) (wr : World) : Prop :=
  ∃ v L, QQ wr q v L ∧ L.Perm (S.drop 1) ∧ Srt S ∧ Hv wr A n c S ∧ Below w.heap.size w wr ∧ w.heap.size ≤ q ∧ (∀ i, v.ownBlock = some i → w.heap.size ≤ i) ∧ (∀ i, A.map (·.block) = some i → w.heap.size ≤ i ∧ i ≠ q ∧ v.ownBlock ≠ some i)
theorem LPop.below {w wr X : World} {q n c : Nat} {S : List En} {A : Option Addr} (h : LPop w q S A n c wr) (hb : Below wr.heap.size wr X) : LPop w q S A n c X := by
  obtain ⟨v, L, h1, h2, h3, h4, h5, h6, h7, h8⟩ := h
  exact ⟨v, L, h1.below hb, h2, h3, h4.below hb, below_trans h5 hb, h6, h7, h8⟩
theorem LPop.hv {w wr : World} {q n c : Nat} {S : List En} {A : Option Addr} (h : LPop w q S A n c wr) : Hv wr A n c S := by obtain ⟨v, L, _, _, _, h4, _⟩ := h; exact h4
theorem map_block' (B : Option Addr) (k : Nat) : (B.map (·.add k)).map (·.block) = B.map (·.block) := by cases B <;> simp [block_of_add]
theorem LPop.cut {w wr : World} {q n c : Nat} {S : List En} {A : Option Addr} (h : LPop w q S A n c wr) (hn : 0 < n) : LRel w q (S.drop 1) (if c = 1 then A else A.map (·.add 3)) (n - 1) (c - 1) wr := by
  obtain ⟨v, L, h1, h2, h3, h4, h5, h6, h7, h8⟩ := h
  refine ⟨v, L, h1, h2, srt_drop h3 1, ?_, h5, h6, h7, fun i hi => h8 i ?_⟩
  · have := h4.cut (k := 1) (by omega)
    simpa using this
  · split at hi
    · exact hi
    · rw [map_block'] at hi; exact hi
theorem LPop.stay {w wr : World} {q n c : Nat} {S : List En} {A : Option Addr} (h : LPop w q S A n c wr) (hn : n = 0) : LRel w q S A n c wr := by
  obtain ⟨v, L, h1, h2, h3, h4, h5⟩ := h
  have hS : S = [] := List.eq_nil_of_length_eq_zero (by rw [h4.1]; exact hn)
  subst hS
  exact ⟨v, L, h1, h2, h3, h4, h5⟩
theorem LRel.pop {w wr : World} {q n c : Nat} {S : List En} {A : Option Addr} (h : LRel w q S A n c wr) (hl : S.length ≤ 1000000) : Calls Try.prog 14 #[.pointer (some ⟨q, 0, none⟩)] wr fun e w' => e = enV (at_ S 0) (nz S) ∧ LPop w q S A n c w' ∧ wr.heap.size ≤ w'.heap.size := by
  obtain ⟨v, L, h1, h2, h3, h4, h5, h6, h7, h8⟩ := h
  by_cases h0 : 0 < S.length
  · have e : nz S = true := by simp [nz, h0]
    rw [e]
    obtain ⟨g, cap, rfl, hg⟩ := h1.row (by rw [h2.length_eq]; exact h0)
    have hd := drop_at h0
    rw [List.drop_zero] at hd
    have ht : at_ L 0 = at_ S 0 := top_same (by rw [← hd]; exact h2) (by rw [← hd]; exact h3) h1.2.2
    have := h2.length_eq
    refine (qpop_some q g cap (L.length - 1) L wr hg h1.2.2 (by omega) (by omega)).mono fun e w' ⟨he, L', g1, g2, g3, g4⟩ => ⟨by rw [← ht]; exact he, ⟨_, L', g1.qq g2, ?_, h3, ?_, turned_below h5 g4 h6 (fun i hi => h7 i hi), h6, fun i hi => h7 i hi, fun i hi => ?_⟩, g4.2.2.2.1⟩
    · exact pop_rest g3 (by rw [← hd]; exact h2) ht
    · exact h4.keep fun i hi hlt => g4.2.2.2.2 i hlt (h8 i hi).2.1 (h8 i hi).2.2
    · exact ⟨(h8 i hi).1, (h8 i hi).2.1, (h8 i hi).2.2⟩
  · have e : nz S = false := decide_eq_false h0
    rw [e]
    have hS : S = [] := List.eq_nil_of_length_eq_zero (by omega)
    subst hS
    have hL : L = [] := List.eq_nil_of_length_eq_zero (by rw [h2.length_eq]; rfl)
    subst hL
    refine (qpop_none _ wr h1.none_).mono fun e w' ⟨he, hb⟩ => ⟨he, ⟨v, [], h1.below hb, h2, h3, h4.below hb, below_trans h5 hb, h6, h7, h8⟩, hb.size⟩
theorem LRel.push {w wr : World} {q n c : Nat} {S : List En} {A : Option Addr} (h : LRel w q S A n c wr) (hl : S.length ≤ 1000000) (x : En) : Calls Try.prog 12 #[.pointer (some ⟨q, 0, none⟩), .agg #[.int .u64 x.1, .int .u64 x.2.1, .int .i64 x.2.2]] wr fun e w' => e = .returned (.bool true) ∧ Hv w' A n c S ∧ Below w.heap.size w w' ∧
    ∃ v L, QQ w' q v L ∧ L.Perm (ins x S) ∧ Srt (ins x S) ∧ w.heap.size ≤ q ∧ (∀ i, v.ownBlock = some i → w.heap.size ≤ i) := by
  obtain ⟨v, L, h1, h2, h3, h4, h5, h6, h7, h8⟩ := h
  refine (qpush_any q v L x wr h1 (by rw [h2.length_eq]; omega)).mono fun e w' ⟨he, v', L', g1, g2, g3, g4⟩ => ⟨he, h4.keep fun i hi hlt => g3.2.2.2.2 i hlt (h8 i hi).2.1 (h8 i hi).2.2, turned_below h5 g3 h6 h7, v', L', g1, ?_, ins_srt x S h3, h6, fun i hi => ?_⟩
  · exact (g2.trans (List.Perm.cons x h2)).trans (ins_perm x S).symm
  · rcases g4 with g4 | g4
    · exact h7 i (g4 ▸ hi)
    · exact Nat.le_trans h5.size (g4 i hi)
theorem lrel_new {w wr : World} {q : Nat} {v : Value} {L S : List En} {A : Option Addr} {n c : Nat} {w0 : World} (h1 : QQ w0 q v L) (h2 : L.Perm S) (h3 : Srt S) (hb : Below w0.heap.size w0 wr) (hw : Below w.heap.size w w0) (h6 : w.heap.size ≤ q) (h7 : ∀ i, v.ownBlock = some i → w.heap.size ≤ i) (ho : QOwn wr (.slice A n c) S) (hA : ∀ i, A.map (·.block) = some i → w0.heap.size ≤ i) : LRel w q S A n c wr :=
  ⟨v, L, h1.below hb, h2, h3, ho.hv, below_trans hw hb, h6, h7, fun i hi => ⟨Nat.le_trans hw.size (hA i hi), fun e => by have := hA i hi; have := h1.1.lt; omega, fun e => by have := hA i hi; have := h1.2.1.lt e; omega⟩⟩
theorem LRel.drain {w wr : World} {q n c : Nat} {S : List En} {A : Option Addr} (h : LRel w q S A n c wr) (hl : S.length ≤ 1000000) (most : Int) (hm : -9223372036854775808 ≤ most ∧ most ≤ 9223372036854775807) : Calls Try.prog 16 #[.pointer (some ⟨q, 0, none⟩), .int .i64 most] wr fun e w' => ∃ B d, e = .returned (.slice B (min most.toNat n) d) ∧ Hv w' B (min most.toNat n) d (S.take (min most.toNat n)) ∧ Hv w' A n c S ∧ wr.heap.size ≤ w'.heap.size ∧ Below w.heap.size w w' ∧
    ∃ v L, QQ w' q v L ∧ L.Perm (S.drop (min most.toNat n)) ∧ Srt S ∧ w.heap.size ≤ q ∧ (∀ i, v.ownBlock = some i → w.heap.size ≤ i) ∧ (∀ i, A.map (·.block) = some i → w.heap.size ≤ i ∧ i ≠ q ∧ v.ownBlock ≠ some i) := by
  obtain ⟨v, L, h1, h2, h3, h4, h5, h6, h7, h8⟩ := h
  rw [← h4.1]
  refine (qdrain_any q v L S most wr h1 h2 h3 hl hm).mono fun e w' ⟨B, d, v', Lr, he, g1, g2, g3, g4, g5, g6⟩ => ⟨B, d, he, g1.hv, ?_, g6.2.2.2.1, turned_below h5 g6 h6 h7, v', Lr, g3, g4, h3, h6, fun i hi => h7 i (g5 ▸ hi), fun i hi => ⟨(h8 i hi).1, (h8 i hi).2.1, by rw [g5]; exact (h8 i hi).2.2⟩⟩
  rw [h4.1]
  exact h4.keep fun i hi hlt => g6.2.2.2.2 i hlt (h8 i hi).2.1 (h8 i hi).2.2
theorem lrel_cut {w w9 : World} {q n c p : Nat} {S : List En} {A : Option Addr} (hA : Hv w9 A n c S) (hw : Below w.heap.size w w9) (hp : p ≤ n)
    (h : ∃ v L, QQ w9 q v L ∧ L.Perm (S.drop p) ∧ Srt S ∧ w.heap.size ≤ q ∧ (∀ i, v.ownBlock = some i → w.heap.size ≤ i) ∧ (∀ i, A.map (·.block) = some i → w.heap.size ≤ i ∧ i ≠ q ∧ v.ownBlock ≠ some i)) : LRel w q (S.drop p) (if c = p then A else A.map (·.add (p * 3))) (n - p) (c - p) w9 := by
  obtain ⟨v, L, h1, h2, h3, h6, h7, h8⟩ := h
  refine ⟨v, L, h1, h2, srt_drop h3 p, hA.cut hp, hw, h6, h7, fun i hi => h8 i ?_⟩
  split at hi
  · exact hi
  · rw [map_block'] at hi; exact hi
theorem Hv.some_ {w : World} {A : Option Addr} {n c : Nat} {S : List En} (h : Hv w A n c S) (hc : c ≠ 0) : ∃ g off, A = some ⟨g, off, none⟩ := by
  rcases h.2.2.2 with ⟨_, h0⟩ | ⟨g, off, cur, h, _⟩
  · exact absurd h0 hc
  · exact ⟨g, off, h⟩
end Go.Proofs.Ytlohbmbahagjbaa
