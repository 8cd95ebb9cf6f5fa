/- What must come of fixed calls (layer queue). -/
import Derived.Test.YtdmmglnpeoeicaaQQueue
namespace Go.Proofs.Ytdmmglnpeoeicaa
set_option linter.unusedVariables false
set_option linter.unusedSimpArgs false
open Go.RowKit
theorem turned_below {q : Nat} {r : Option Nat} {a w w' : World} (h : Below a.heap.size a w) (ht : Turned q r w w') (hq : a.heap.size ≤ q) (hr : ∀ i, r = some i → a.heap.size ≤ i) : Below a.heap.size a w' :=
  ⟨ht.1.trans h.os, ht.2.1.trans h.tape, ht.2.2.1.trans h.output, Nat.le_trans h.size ht.2.2.2.1, fun i hi => (ht.2.2.2.2 i (Nat.lt_of_lt_of_le hi h.size) (by omega) (fun e => by have := hr i e; omega)).trans (h.block i hi)⟩
theorem QQ.below {w w' : World} {q : Nat} {v : Value} {L : List En} (h : QQ w q v L) (hb : Below w.heap.size w w') : QQ w' q v L := ⟨h.1.below hb h.1.lt, h.2.1.below hb, h.2.2⟩
theorem QQ.row {w : World} {q : Nat} {v : Value} {L : List En} (h : QQ w q v L) (h0 : 0 < L.length) : ∃ g cap, v = .slice (some ⟨g, 0, none⟩) L.length cap ∧ HG w q g cap L := by
  rcases h.2.1 with ⟨_, rfl⟩ | ⟨g, cap, rfl, h3⟩
  · simp at h0
  · exact ⟨g, cap, rfl, h.1, h3⟩
theorem HG.qq {w : World} {q g cap : Nat} {L : List En} (h : HG w q g cap L) (hh : HeapTo L.length L) : QQ w q (.slice (some ⟨g, 0, none⟩) L.length cap) L := ⟨h.1, .inr ⟨g, cap, rfl, h.2⟩, hh⟩
theorem QQ.none_ {w : World} {q : Nat} {v : Value} (h : QQ w q v []) : NoneAt w (some ⟨q, 0, none⟩) := by
  obtain ⟨A, cap, rfl, _⟩ := h.2.1.slice
  exact .inr ⟨q, cap, A, rfl, h.1⟩
/-- The queue at q, made since w0, has the entries S. -/
def QAt (w0 : World) (q : Nat) (S : List En) (w : World) : Prop :=
  ∃ v L, QQ w q v L ∧ L.Perm S ∧ w0.heap.size ≤ q ∧ (∀ i, v.ownBlock = some i → w0.heap.size ≤ i)
theorem QAt.below {w0 w w' : World} {q : Nat} {S : List En} (h : QAt w0 q S w) (hb : Below w.heap.size w w') : QAt w0 q S w' := by
  obtain ⟨v, L, h1, h2, h3, h4⟩ := h
  exact ⟨v, L, h1.below hb, h2, h3, h4⟩
theorem QAt.len {w0 w : World} {q : Nat} {S : List En} (h : QAt w0 q S w) : Calls Try.prog 11 #[.pointer (some ⟨q, 0, none⟩)] w fun e w' => e = .returned (.int .i64 (S.length : Int)) ∧ w = w' := by
  obtain ⟨v, L, h1, h2, _⟩ := h
  obtain ⟨A, cap, rfl, _⟩ := h1.2.1.slice
  rw [← h2.length_eq]
  exact qlen_any q L.length cap A w h1.1
def QStep (w0 : World) (q : Nat) (S : List En) (w w' : World) : Prop :=
  QAt w0 q S w' ∧ Below w0.heap.size w0 w' ∧ w.heap.size ≤ w'.heap.size ∧ ∀ g t cs, t ≠ 48 → t ≠ 29 → Blk w g t cs → Blk w' g t cs
theorem QAt.push {w0 w : World} {q : Nat} {S : List En} (h : QAt w0 q S w) (x : En) (hw : Below w0.heap.size w0 w) (hl : S.length ≤ 4398046511102) :
    Calls Try.prog 12 #[.pointer (some ⟨q, 0, none⟩), .agg #[.int .u64 x.1, .int .u64 x.2.1, .int .i64 x.2.2]] w fun e w' => e = .returned (.bool true) ∧ QStep w0 q (x :: S) w w' := by
  obtain ⟨v, L, h1, h2, h3, h4⟩ := h
  refine (qpush_any q v L x w h1 (by rw [h2.length_eq]; exact hl)).mono fun e w' ⟨he, v', L', g1, g2, g3, g4⟩ => ⟨he, ⟨v', L', g1, g2.trans (List.Perm.cons x h2), h3, fun i hi => ?_⟩, turned_below hw g3 h3 h4, g3.2.2.2.1, fun g t cs ht1 ht2 hb => ?_⟩
  · rcases g4 with g4 | g4
    · exact h4 i (g4 ▸ hi)
    · exact Nat.le_trans hw.size (g4 i hi)
  · refine g3.blk hb (fun e => by subst e; exact Blk.ne_ hb h1.1 ht1 rfl) (fun e => ?_)
    obtain ⟨A, cap, rfl, _⟩ := h1.2.1.slice
    rcases h1.2.1 with ⟨hv, _⟩ | ⟨g', cap', hv, cur, hc, _⟩
    · rw [hv] at e; simp [Value.ownBlock] at e
    · rw [hv] at e; simp [Value.ownBlock] at e; subst e; exact Blk.ne_ hb hc ht2 rfl
theorem qat_new (w : World) : QAt w w.heap.size [] (w.alloc (.cells #[.slice none 0 0] 48)) :=
  ⟨.slice none 0 0, [], ⟨Blk.new _ _ _, QOwn.nil_ _, fun k h0 hk => by simp at hk⟩, List.Perm.refl _, Nat.le_refl _, fun i hi => by simp [Value.ownBlock] at hi⟩
theorem perm_len1 {L : List En} {x : En} {S : List En} (h : L.Perm (x :: S)) : L.length = S.length + 1 := by rw [h.length_eq]; simp
theorem pop_rest {L L' S : List En} {x y : En} (h : (x :: L').Perm L) (hl : L.Perm (y :: S)) (e : x = y) : L'.Perm S := by
  subst e
  exact (h.trans hl).cons_inv
set_option maxRecDepth 100000 in
set_option maxHeartbeats 4000000 in
theorem known_any (w : World) : Calls Try.prog 8 #[] w fun e w' => e = .returned (.bool true) ∧ Below w.heap.size w w' := by
  go_enter Try.func8, Try.ntmps8
  go_wp2_with fail
  refine (qnew_any _).mono ?_
  rintro e w1 ⟨rfl, hw1⟩
  have hq1 : QAt w w.heap.size [] w1 := hw1 ▸ qat_new w
  have hb1 : Below w.heap.size w w1 := by rw [hw1]; go_grown
  clear hw1
  have H1 := hq1.push (2, 0, 1) hb1 (by simp)
  dsimp only at H1
  have HP1 := Lib.hid H1; clear H1 hq1 hb1
  go_wp2_with fail
  refine HP1.out.mono ?_
  rintro e w2 ⟨rfl, hq2, hb2, _, _⟩
  have H2 := hq2.push (1, 5, 9) hb2 (by simp)
  dsimp only at H2
  have HP2 := Lib.hid H2; clear H2 hq2 hb2
  go_wp2_with fail
  refine HP2.out.mono ?_
  rintro e w3 ⟨rfl, hq3, hb3, _, _⟩
  have H3 := hq3.push (1, 5, 8) hb3 (by simp)
  dsimp only at H3
  have HP3 := Lib.hid H3; clear H3 hq3 hb3
  go_wp2_with fail
  refine HP3.out.mono ?_
  rintro e w4 ⟨rfl, ⟨v, L, h1, h2, h3, h4⟩, hb4, _, _⟩
  obtain ⟨g, cap, rfl, hg⟩ := h1.row (by rw [h2.length_eq]; simp)
  have hgb := h4 g rfl
  have hsort : L.Perm [(1, 5, 8), (1, 5, 9), (2, 0, 1)] := h2
  have ht : at_ L 0 = (1, 5, 8) := top_same hsort (by unfold Srt; simp [LtE]) h1.2.2
  have hl : L.length = 2 + 1 := perm_len1 hsort
  have HPOP := Lib.hid (qpop_some (w.heap.size) g cap 2 L w4 hg h1.2.2 hl (by omega))
  have HHT := Lib.hid ht; have HSO := Lib.hid hsort; have HB4 := Lib.hid hb4
  have hgl := hg.2.lt
  have hql := hg.1.lt
  clear h1 h2 h3 h4 hg hsort ht hb4 hl
  go_wp2_with fail
  refine HPOP.out.mono ?_
  rintro e w5 ⟨he, L5, hg5, hh5, hp5, ht5⟩
  rw [HHT.out] at he hp5
  unfold enV at he
  dsimp only at he
  subst he
  have hr5 := pop_rest hp5 HSO.out rfl
  have hb5 := turned_below HB4.out ht5 (Nat.le_refl _) (fun i hi => by injection hi with hi; omega)
  have hz5 := ht5.2.2.2.1
  have hl5 : L5.length = 1 + 1 := perm_len1 hr5
  have ht6 : at_ L5 0 = (1, 5, 9) := top_same hr5 (by unfold Srt; simp [LtE]) hh5
  have hA : Below w5.heap.size w5 (w5.alloc (.cells #[.int .u64 1, .int .u64 5, .int .i64 8] 29)) := (Below.refl _ _).alloc (Nat.le_refl _) _
  have HPOP2 := Lib.hid (qpop_some (w.heap.size) g cap 1 L5 _ (hg5.below hA) hh5 hl5 (by omega))
  have HBA := Lib.hid (below_trans hb5 hA)
  have HKA := Lib.hid (Blk.new w5 29 #[.int .u64 1, .int .u64 5, .int .i64 8])
  have HT6 := Lib.hid ht6; have HR5 := Lib.hid hr5
  clear hg5 hh5 hp5 ht5 hr5 hb5 hl5 ht6 hA HPOP HB4
  go_wp2_with fail
  refine HPOP2.out.mono ?_
  rintro e w6 ⟨he, L6, hg6, hh6, hp6, ht6⟩
  rw [HT6.out] at he hp6
  unfold enV at he
  dsimp only at he
  subst he
  have hr6 := pop_rest hp6 HR5.out rfl
  have hb6 := turned_below HBA.out ht6 (Nat.le_refl _) (fun i hi => by injection hi with hi; omega)
  have ka := ht6.blk HKA.out (by omega) (by simp; omega)
  have hl6 : L6.length = 1 := hr6.length_eq
  have hB : Below w6.heap.size w6 (w6.alloc (.cells #[.int .u64 1, .int .u64 5, .int .i64 9] 29)) := (Below.refl _ _).alloc (Nat.le_refl _) _
  have ka2 := ka.alloc (.cells #[.int .u64 1, .int .u64 5, .int .i64 9] 29)
  have kb2 := Blk.new w6 29 #[.int .u64 1, .int .u64 5, .int .i64 9]
  have a2 := ka2.cell 2
  have b2 := kb2.cell 2
  simp only [List.getElem?_toArray, List.getElem?_cons_zero, List.getElem?_cons_succ] at a2 b2
  have HQ6 := Lib.hid (hg6.1.alloc (.cells #[.int .u64 1, .int .u64 5, .int .i64 9] 29))
  have HB6 := Lib.hid (below_trans hb6 hB)
  have HL6 := Lib.hid hl6
  clear hg6 hh6 hp6 ht6 hr6 hb6 hB ka ka2 kb2 hl6
  go_wp2_with fail
  refine (qlen_any w.heap.size L6.length cap _ _ HQ6.out).mono ?_
  rintro e w7 ⟨rfl, hw7⟩
  subst hw7
  rw [HL6.out]
  go_wp2
  go_ret
  exact ⟨rfl, HB6.out⟩
end Go.Proofs.Ytdmmglnpeoeicaa
