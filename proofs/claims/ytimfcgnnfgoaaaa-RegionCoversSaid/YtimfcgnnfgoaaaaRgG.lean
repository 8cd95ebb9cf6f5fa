/- region: the runs of a row: what is general. -/
import Derived.Test.YtimfcgnnfgoaaaaRgC
namespace Go.Proofs.Ytimfcgnnfgoaaaa
set_option linter.unusedVariables false
set_option linter.unusedSimpArgs false
open Go.RowKit
/-- Runs under way, beside the two counts. -/
structure RnSt (w : World) (b : Nat) (v : Value) (l : List Rn) (p q : Int) (wr : World) : Prop where
  fe : FE elRn w v l wr
  blk : Blk wr b 94 #[.int .i64 p, .int .i64 q]
  ne : v.ownBlock ≠ some b
  bl : w.heap.size ≤ b
section
variable {w wr W w' : World} {b : Nat} {v : Value} {l : List Rn} {p q : Int}
theorem RnSt.below (h : RnSt w b v l p q wr) (hb : Below wr.heap.size wr W) : RnSt w b v l p q W := ⟨h.fe.below hb, h.blk.thru0 hb, h.ne, h.bl⟩
theorem RnSt.follow {r : Rn} {e : Ending} (h : RnSt w b v l p q W) (k : FollowP W v l r e w') : ∃ v', e = .returned v' ∧ RnSt w b v' (followN l r) p q w' ∧ ∀ g t cs, Blk W g t cs → v.ownBlock ≠ some g → Blk w' g t cs := by
  have hlt := h.blk.lt
  obtain ⟨v', rfl, hf⟩ := h.fe.follow k
  obtain ⟨v2, e2, h1, h2, h3, h4, h5, h6, h7⟩ := k
  cases e2
  have hk : ∀ g t cs, Blk W g t cs → v.ownBlock ≠ some g → Blk w' g t cs := fun g t cs hb hn => (h7 g hb.lt hn).trans hb
  refine ⟨v', rfl, ⟨hf, hk _ _ _ h.blk h.ne, fun e => ?_, h.bl⟩, hk⟩
  rcases h2 with h2 | h2
  · exact h.ne (h2 ▸ e)
  · have := h2 b e; omega
theorem RnSt.set0 (h : RnSt w b v l p q W) (p' : Int) : RnSt w b v l p' q (W.drew.setCell ⟨b, 0, none⟩ (.int .i64 p')) := by
  have hb : Blk (W.drew.setCell ⟨b, 0, none⟩ (.int .i64 p')) b 94 #[.int .i64 p', .int .i64 q] := by
    have := (h.blk.drew).set_ 0 (.int .i64 p')
    simpa using this
  have hk : ∀ i, i ≠ b → (W.drew.setCell ⟨b, 0, none⟩ (.int .i64 p')).heap[i]? = W.heap[i]? := fun i hi => Below.heap_setCell W.drew ⟨b, 0, none⟩ _ _ hi
  refine ⟨⟨h.fe.own.keep fun i _ e => hk i (fun e2 => h.ne (by rw [e, e2])), ⟨h.fe.bel.os, h.fe.bel.tape, h.fe.bel.output, by simpa [World.setCell] using h.fe.bel.size, fun i hi => ?_⟩, h.fe.far⟩, hb, h.ne, h.bl⟩
  have := h.bl
  rw [hk i (by omega)]
  exact h.fe.bel.block i hi
theorem RnSt.set1 (h : RnSt w b v l p q W) (q' : Int) : RnSt w b v l p q' (W.drew.setCell ⟨b, 1, none⟩ (.int .i64 q')) := by
  have hb : Blk (W.drew.setCell ⟨b, 1, none⟩ (.int .i64 q')) b 94 #[.int .i64 p, .int .i64 q'] := by
    have := (h.blk.drew).set_ 1 (.int .i64 q')
    simpa using this
  have hk : ∀ i, i ≠ b → (W.drew.setCell ⟨b, 1, none⟩ (.int .i64 q')).heap[i]? = W.heap[i]? := fun i hi => Below.heap_setCell W.drew ⟨b, 1, none⟩ _ _ hi
  refine ⟨⟨h.fe.own.keep fun i _ e => hk i (fun e2 => h.ne (by rw [e, e2])), ⟨h.fe.bel.os, h.fe.bel.tape, h.fe.bel.output, by simpa [World.setCell] using h.fe.bel.size, fun i hi => ?_⟩, h.fe.far⟩, hb, h.ne, h.bl⟩
  have := h.bl
  rw [hk i (by omega)]
  exact h.fe.bel.block i hi
end
theorem RnSt.set0d {w W : World} {b : Nat} {v : Value} {l : List Rn} {p q : Int} (h : RnSt w b v l p q W) (p' : Int) : RnSt w b v l p' q (W.setCell ⟨b, 0, none⟩ (.int .i64 p')).drew := h.set0 p'
theorem RnSt.set1d {w W : World} {b : Nat} {v : Value} {l : List Rn} {p q : Int} (h : RnSt w b v l p q W) (q' : Int) : RnSt w b v l p q' (W.setCell ⟨b, 1, none⟩ (.int .i64 q')).drew := h.set1 q'
def EnOk (e : En) : Prop := 0 ≤ e.x ∧ e.x ≤ 65536 ∧ 0 ≤ e.f ∧ e.f ≤ e.t ∧ e.t ≤ 65535 ∧ (e.k = 0 ∨ e.k = 1) ∧ (e.s = 1 ∨ e.s = -1)
theorem scan_snoc (C : Bool → Bool → Bool) (row : Int) {E : List En} {j : Nat} (hj : j < E.length) (z : Sc) : scan C row (E.take (j + 1)) z = scan1 C row (scan C row (E.take j) z) E[j] := by
  unfold scan
  rw [List.take_succ_eq_append_getElem hj, List.foldl_append]
  rfl
theorem scan_bd (C : Bool → Bool → Bool) (row : Int) : ∀ (E : List En) (z : Sc), (∀ e ∈ E, EnOk e) → 0 ≤ z.x → z.x ≤ 65536 → (0 ≤ (scan C row E z).x ∧ (scan C row E z).x ≤ 65536) ∧ (z.p - E.length ≤ (scan C row E z).p ∧ (scan C row E z).p ≤ z.p + E.length) ∧ (z.q - E.length ≤ (scan C row E z).q ∧ (scan C row E z).q ≤ z.q + E.length)
  | [], z, _, h1, h2 => by simp [scan, h1, h2]
  | e :: E, z, h, h1, h2 => by
    have he := h e (by simp)
    obtain ⟨g1, g2, -, -, -, g3, g4⟩ := he
    have h3 : scan C row (e :: E) z = scan C row E (scan1 C row z e) := rfl
    have h4 : 0 ≤ (scan1 C row z e).x ∧ (scan1 C row z e).x ≤ 65536 ∧ z.p - 1 ≤ (scan1 C row z e).p ∧ (scan1 C row z e).p ≤ z.p + 1 ∧ z.q - 1 ≤ (scan1 C row z e).q ∧ (scan1 C row z e).q ≤ z.q + 1 := by
      unfold scan1
      split
      · simp only
        rcases g3 with g3 | g3 <;> rcases g4 with g4 | g4 <;> simp [g3, g4] <;> omega
      · omega
    have h5 := scan_bd C row E (scan1 C row z e) (fun d hd => h d (by simp [hd])) h4.1 h4.2.1
    rw [h3, List.length_cons]
    omega
def RunsP (w : World) (C : Bool → Bool → Bool) (row : Int) (E : List En) (e : Ending) (w' : World) : Prop := ∃ v, e = .returned v ∧ FE elRn w v (scanR C row E) w'
/-- The four closures. -/
theorem sc_skip {C : Bool → Bool → Bool} {row : Int} {z : Sc} {e : En} (h : relE e row = false) : scan1 C row z e = z := by unfold scan1; rw [h]; rfl
theorem sc_on {C : Bool → Bool → Bool} {row : Int} {z : Sc} {e : En} (h : relE e row = true) (h2 : z.x < e.x) (h3 : C (decide (0 < z.p)) (decide (0 < z.q)) = true) : scan1 C row z e = ⟨followN z.l ⟨z.x, e.x - 1⟩, e.x, z.p + (if e.k = 0 then e.s else 0), z.q + (if e.k = 0 then 0 else e.s)⟩ := by unfold scan1; rw [if_pos h, if_pos ⟨h2, h3⟩]
theorem sc_off {C : Bool → Bool → Bool} {row : Int} {z : Sc} {e : En} (h : relE e row = true) (h2 : ¬ (z.x < e.x ∧ C (decide (0 < z.p)) (decide (0 < z.q)) = true)) : scan1 C row z e = ⟨z.l, e.x, z.p + (if e.k = 0 then e.s else 0), z.q + (if e.k = 0 then 0 else e.s)⟩ := by unfold scan1; rw [if_pos h, if_neg h2]
end Go.Proofs.Ytimfcgnnfgoaaaa
