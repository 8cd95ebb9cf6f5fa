/- FramePieces: (P5.4) it does not matter in which pieces bytes come in, if frames are taken as soon as they are there. Conditions: none. -/
import Derived.Test.YtmkehbmegimecaaFrameKnown
import Derived.Test.YtmkehbmegimecaaFrame
import Derived.Lib.SmallJoins
import Derived.Test.YtmkehbmegimecaaSplitP
import Derived.Test.YtmkehbmegimecaaSl
namespace Go.Proofs.Ytmkehbmegimecaa.framePieces
set_option linter.unusedVariables false
set_option linter.unusedSimpArgs false
open Go.ChangeShapes Go.WideShapes Go.ChangeAt Go.RowKit
open Go.ChangeMaps (open_string shut_string)
theorem row_le {w : World} {k : IntKind} {a : Option Addr} {len cap : Nat} {zs : List Int} (h : IsRow k w a len cap zs) : len ≤ cap ∧ cap ≤ maxLen := by
  rcases h with ⟨_, rfl, rfl, _⟩ | ⟨_, _, h, h2, _⟩
  · exact ⟨Nat.le_refl _, by decide⟩
  · exact ⟨h, h2⟩
theorem row_at {w : World} {k : IntKind} {a : Option Addr} {len cap : Nat} {zs : List Int} (h : IsRow k w a len cap zs) {i : Nat} (hi : i < len) : ∃ xb xo, ∃ z : Int, a = some ⟨xb, xo, none⟩ ∧ w.cell? ⟨xb, xo + i, none⟩ = some (.int k z) ∧ (Lit.int k z).wf = true := by
  rcases h with ⟨_, rfl, _, _⟩ | ⟨x, rfl, h1, h2, h3, hc, hw⟩
  · omega
  · have h0 := hc 0 (by omega)
    have hs : x.spot = none := by
      have := spot_of_cell h0
      simpa [Addr.add] using this
    obtain ⟨xb, xo, s⟩ := x
    simp at hs
    subst hs
    have h4 := hc i (by omega)
    rw [add_mid_] at h4
    exact ⟨xb, xo, _, rfl, h4, hw _ (by rw [List.getD_eq_getElem?_getD, List.getElem?_eq_getElem (by omega : i < zs.length)]; exact List.getElem_mem _)⟩
theorem RB.take {w : World} {A : Option Addr} {n k : Nat} {l : List UInt8} (h : RB w A n l) (hk : k ≤ n) : RB w A k (l.take k) := by
  refine ⟨by rw [bv_length, List.length_take, h.len]; omega, fun h0 => ?_⟩
  obtain ⟨ad, e, hl, hc⟩ := h.2 (by omega)
  refine ⟨ad, e, hl, fun j u hu => hc j u ?_⟩
  simp only [bv, List.map_take] at hu ⊢
  rw [List.getElem?_take] at hu
  split at hu
  · exact hu
  · simp at hu
/-- Whatever is put behind the row, the parts are as they were. -/
theorem app_keep {B : Nat} {X w4 : World} {v v' : Value} {L' M : List Pt} {Ds : List (List UInt8 × Int)} (h : Means X M Ds) (hb : Bods B v M) (ha : PAppended v L' X v' w4) : Means w4 M Ds ∧ Bods B v' M := by
  obtain ⟨_, hg, hor, _⟩ := ha
  refine ⟨h.keep fun t ht l hl => hl.kept' hg.size fun g h0 hg' hlt => hg.block g hlt (fun e => (hb t ht h0 g hg').2 e.symm), fun t ht h0 b hb' => ⟨(hb t ht h0 b hb').1, ?_⟩⟩
  rcases hor with h9 | h9
  · rw [h9]; exact (hb t ht h0 b hb').2
  · rw [h9]
    intro e
    have e' : X.heap.size = b := by injection e
    obtain ⟨i, hi, hti⟩ := List.mem_iff_getElem.1 ht
    have hi2 : i < Ds.length := by rw [← h.1]; exact hi
    have hrb := (h.2 i t _ (by rw [List.getElem?_eq_getElem hi, hti]) (List.getElem?_eq_getElem hi2)).1
    have := hrb.blk_lt h0 hb'
    omega
theorem means_app {w : World} {L M : List Pt} {D E : List (List UInt8 × Int)} (h : Means w L D) (k : Means w M E) : Means w (L ++ M) (D ++ E) := by
  refine ⟨by simp [h.1, k.1], fun i t P ht hP => ?_⟩
  by_cases hi : i < L.length
  · rw [List.getElem?_append_left hi] at ht
    rw [List.getElem?_append_left (by rw [← h.1]; exact hi)] at hP
    exact h.2 i t P ht hP
  · rw [List.getElem?_append_right (by omega)] at ht
    rw [List.getElem?_append_right (by rw [← h.1]; omega), ← h.1] at hP
    exact k.2 _ t P ht hP
theorem bods_app {B : Nat} {v : Value} {L M : List Pt} (h : Bods B v L) (k : Bods B v M) : Bods B v (L ++ M) := fun t ht => by
  rcases List.mem_append.1 ht with h' | h'
  · exact h t h'
  · exact k t h'
theorem nk_small {l : List UInt8} (h : nkind l.length l = 0) : l.length ≤ 601 := by
  unfold nkind at h
  by_cases h2 : l.length < 2
  · omega
  · rw [if_neg h2] at h
    by_cases h6 : 600 < hdr l
    · simp [h6] at h
    · rw [if_neg h6] at h
      by_cases hs : l.length < 2 + hdr l
      · omega
      · simp [hs] at h
/-- Where the law stands: what it has, and what the buffer has. -/
def St (w : World) (l0 : List UInt8) (t m : Nat) (v : Value) (wr : World) : Prop :=
  ∃ L D A1 cap1 l1 ov1, POwn wr v L ∧ Means wr L D ∧ parts l0 = D ++ strm l1 ov1 (l0.drop t) ∧ nkind l1.length l1 = 0 ∧ Blk wr w.heap.size 58 #[.int .i64 4096, .slice A1 l1.length cap1, .int .i64 (ov1 : Nat)] ∧ Wt wr A1 l1.length cap1 l1 ∧ (0 < l1.length → ov1 = 0) ∧ ov1 ≤ 65535 ∧ Below w.heap.size w wr ∧
    (∀ j, v.ownBlock = some j → w.heap.size ≤ j) ∧ Bods w.heap.size v L ∧ (∀ j, A1.map (·.block) = some j → w.heap.size ≤ j) ∧ (∀ t ∈ L, 0 < t.2.1 → ∀ b, t.1.map (·.block) = some b → b ≠ w.heap.size ∧ A1.map (·.block) ≠ some b) ∧ L.length ≤ m ∧ l1.length ≤ t
def StF (w : World) (l0 : List UInt8) (t m : Nat) (v : Value) (wr : World) : Prop :=
  ∃ L D A1 cap1 l1 ov1, POwn wr v L ∧ Means wr L D ∧ parts l0 = D ++ strm l1 ov1 (l0.drop t) ∧ (l1.length : Int) ≤ 4096 ∧ Blk wr w.heap.size 58 #[.int .i64 4096, .slice A1 l1.length cap1, .int .i64 (ov1 : Nat)] ∧ Wt wr A1 l1.length cap1 l1 ∧ (0 < l1.length → ov1 = 0) ∧ ov1 ≤ 65535 ∧ Below w.heap.size w wr ∧
    (∀ j, v.ownBlock = some j → w.heap.size ≤ j) ∧ Bods w.heap.size v L ∧ (∀ j, A1.map (·.block) = some j → w.heap.size ≤ j) ∧ (∀ t ∈ L, 0 < t.2.1 → ∀ b, t.1.map (·.block) = some b → b ≠ w.heap.size ∧ A1.map (·.block) ≠ some b) ∧ L.length ≤ m ∧ l1.length ≤ t
theorem body_lt {w : World} {L : List Pt} {D : List (List UInt8 × Int)} (h : Means w L D) {t : Pt} (ht : t ∈ L) (h0 : 0 < t.2.1) {b : Nat} (hb : t.1.map (·.block) = some b) : b < w.heap.size := by
  obtain ⟨i, hi, hti⟩ := List.mem_iff_getElem.1 ht
  have hi2 : i < D.length := by rw [← h.1]; exact hi
  exact ((h.2 i t _ (by rw [List.getElem?_eq_getElem hi, hti]) (List.getElem?_eq_getElem hi2)).1).blk_lt h0 hb
theorem St.feed {w wr : World} {l0 : List UInt8} {t to m c : Nat} {v : Value} {B : Option Addr} (h : St w l0 t m v wr) (hB : RB w B (to - t) ((l0.drop t).take (to - t))) (hc : to - t ≤ c) (ht : t ≤ to) (hto : to ≤ l0.length) (hl : l0.length ≤ 3000) :
    Calls Try.prog 11 #[.pointer (some ⟨w.heap.size, 0, none⟩), .slice B (to - t) c] wr fun e w' => e = .returned (.bool true) ∧ StF w l0 to m v w' := by
  obtain ⟨L, D, A1, cap1, l1, ov1, g1, g2, g3, g4, g5, g6, g7, g8, g9, g10, g11, g12, g13, g14, g15⟩ := h
  have hsm := nk_small g4
  have hB' := hB.later g9
  have hok : fdOk 4096 l1.length ov1 (to - t) = true := by simp only [fdOk, decide_eq_true_eq]; omega
  have hnl : ((l0.drop t).take (to - t)).length = to - t := hB.len
  have hf := feed_u w.heap.size l1.length cap1 (to - t) c ov1 A1 B 4096 l1 _ wr g5 g6 hB' hc (by omega) (by omega) (by omega) g8 (fun h0 e => by have := hB.blk_lt h0 e; omega)
  rw [hok] at hf
  have hfd := fd_facts (room := 4096) (ov := ov1) (l := l1) (news := (l0.drop t).take (to - t)) rfl hnl (by omega) g8 g7
  rw [hok] at hfd
  have hst := strm_feed (room := 4096) (l := l1) (news := (l0.drop t).take (to - t)) (r := l0.drop to) (ov := ov1) g7 (by rw [hnl]; exact hok)
  rw [hnl] at hst
  have hsplit : (l0.drop t).take (to - t) ++ l0.drop to = l0.drop t := by
    have := List.take_append_drop (to - t) (l0.drop t)
    rwa [List.drop_drop, show t + (to - t) = to by omega] at this
  rw [hsplit] at hst
  refine hf.mono fun e w' ⟨A2, cap2, he, k1, k2, k3, k4⟩ => ⟨he, L, D, A2, cap2, _, _, ?_, ?_, by rw [hst]; exact g3, hfd.1, k1, k2, hfd.2.2, hfd.2.1, fed_below g9 k3 (Nat.le_refl _) g12, g10, g11, fun j hj => ?_, fun t' ht' h0 b hb => ⟨(g13 t' ht' h0 b hb).1, ?_⟩, g14, ?_⟩
  · refine g1.keep fun i hi hv => k3.2.2.2.2 i hi (fun e => g1.ne g5 (by rw [hv, e])) (fun e => ?_)
    rcases g6.2.2 with ⟨h9, _⟩ | ⟨g', off, cur, h9, hbk, _⟩
    · rw [h9] at e; simp at e
    · rw [h9] at e
      have e9 : g' = i := by simpa using e
      subst e9
      exact own_blk_ne g1 hbk (by decide) hv
  · exact g2.keep fun t' ht' l hl' => hl'.kept' k3.2.2.2.1 fun g h0 hg hlt => k3.2.2.2.2 g hlt (g13 t' ht' h0 g hg).1 (g13 t' ht' h0 g hg).2
  · rcases k4 with k4 | k4
    · exact g12 j (k4 ▸ hj)
    · rw [k4] at hj
      have : wr.heap.size = j := by injection hj
      have := g9.size
      omega
  · rcases k4 with k4 | k4
    · rw [k4]; exact (g13 t' ht' h0 b hb).2
    · rw [k4]
      intro e
      have : wr.heap.size = b := by injection e
      have := body_lt g2 ht' h0 hb
      omega
  · unfold fdL
    simp only [if_true, List.length_append, List.length_drop, hnl]
    omega
/-- While what was drained is put behind what there is. -/
def InSt (w : World) (l0 : List UInt8) (t m : Nat) (vm : Value) (Lm L : List Pt) (j : Nat) (v : Value) (wr : World) : Prop :=
  ∃ D A1 cap1 l1 ov1, POwn wr v (L ++ Lm.take j) ∧ POwn wr vm Lm ∧ Means wr (L ++ Lm) D ∧ parts l0 = D ++ strm l1 ov1 (l0.drop t) ∧ nkind l1.length l1 = 0 ∧ Blk wr w.heap.size 58 #[.int .i64 4096, .slice A1 l1.length cap1, .int .i64 (ov1 : Nat)] ∧ Wt wr A1 l1.length cap1 l1 ∧ (0 < l1.length → ov1 = 0) ∧ ov1 ≤ 65535 ∧ Below w.heap.size w wr ∧
    (∀ j, v.ownBlock = some j → w.heap.size ≤ j) ∧ Bods w.heap.size v (L ++ Lm) ∧ (∀ j, A1.map (·.block) = some j → w.heap.size ≤ j) ∧ (∀ t ∈ L ++ Lm, 0 < t.2.1 → ∀ b, t.1.map (·.block) = some b → b ≠ w.heap.size ∧ A1.map (·.block) ≠ some b) ∧ L.length ≤ m ∧ Lm.length ≤ 4096 ∧ (∀ j, vm.ownBlock = some j → v.ownBlock ≠ some j) ∧ l1.length ≤ t
theorem StF.drain {w wr : World} {l0 : List UInt8} {to m : Nat} {v : Value} (h : StF w l0 to m v wr) (hl : l0.length ≤ 3000) (hto : to ≤ l0.length) (most : Int) (hm : (l0.length : Int) < most) (hm2 : most ≤ 9223372036854775807) :
    Calls Try.prog 18 #[.pointer (some ⟨w.heap.size, 0, none⟩), .int .i64 most] wr fun e w' => ∃ vm Lm L, e = .returned vm ∧ InSt w l0 to m vm Lm L 0 v w' := by
  obtain ⟨L, D, A1, cap1, l1, ov1, g1, g2, g3, g4, g5, g6, g7, g8, g9, g10, g11, g12, g13, g14, g15⟩ := h
  refine (drained_any w.heap.size l1.length cap1 ov1 A1 4096 most l1 wr g5 g6 (by omega) g4 g8 g7 (by omega) hm2).mono fun e w' ⟨vm, Lm, Dm, A2, cap2, l2, ov2, he, k1, k2, k3, k4, k5, k6, k7, k8, k9, k10, k11, k12, k13, k14, k15⟩ => ⟨vm, Lm, L, he, D ++ Dm, A2, cap2, l2, ov2, ?_, k1, ?_, by rw [g3, k3]; simp, k4, k5, k6, k7, k8, fed_below g9 k10 (Nat.le_refl _) (fun j hj => by simp at hj), g10, ?_, fun j hj => g12 j (k11 ▸ hj), ?_, g14, by omega, ?_, by omega⟩
  · simp only [List.take_zero, List.append_nil]
    exact g1.keep fun i hi hv => k10.2.2.2.2 i hi (fun e => g1.ne g5 (by rw [hv, e])) (by simp)
  · exact means_app (g2.keep fun t' ht' l hl' => hl'.kept' k10.2.2.2.1 fun g h0 hg hlt => k10.2.2.2.2 g hlt (g13 t' ht' h0 g hg).1 (by simp)) k2
  · refine bods_app g11 fun t' ht' h0 b hb => ⟨Nat.le_trans g9.size (k13 t' ht' h0 b hb).1, fun e => ?_⟩
    have := g1.lt e
    have := (k13 t' ht' h0 b hb).1
    omega
  · intro t' ht' h0 b hb
    rcases List.mem_append.1 ht' with h' | h'
    · exact ⟨(g13 t' h' h0 b hb).1, by rw [k11]; exact (g13 t' h' h0 b hb).2⟩
    · have h1 := (k13 t' h' h0 b hb).1
      refine ⟨by have := g5.lt; omega, ?_⟩
      rw [k11]
      intro e
      have := g6.lt e
      omega
  · intro j hj e
    have := g1.lt e
    have := k12 j hj
    omega
theorem InSt.push {w wr X w4 : World} {l0 : List UInt8} {t m j : Nat} {vm v v' : Value} {Lm L : List Pt} (h : InSt w l0 t m vm Lm L j v wr) (hX : Below wr.heap.size wr X) (hj : j < Lm.length) (ha : PAppended v ((L ++ Lm.take j) ++ [pat Lm j]) X v' w4) : InSt w l0 t m vm Lm L (j + 1) v' w4 := by
  obtain ⟨D, A1, cap1, l1, ov1, g1, g2, g3, g4, g5, g6, g7, g8, g9, g10, g11, g12, g13, g14, g15, g16, g17, g18⟩ := h
  have hk := app_keep (g3.below hX) g12 ha
  obtain ⟨ho, hg, hor, _⟩ := ha
  have hpe : Lm.take (j + 1) = Lm.take j ++ [pat Lm j] := by
    rw [List.take_succ_eq_append_getElem hj]
    congr 2
    simp [pat, List.getD_eq_getElem?_getD, List.getElem?_eq_getElem hj]
  have hBX := below_trans g10 hX
  have g1X := g1.below hX
  have g6X := g6.below hX g6.lt
  refine ⟨D, A1, cap1, l1, ov1, by rw [hpe, ← List.append_assoc]; exact ho, ?_, hk.1, g4, g5, g6X.grown hg (fun e => g1X.ne g6X e.symm), ?_, g8, g9, ?_, fun i hi => ?_, hk.2, g13, g14, g15, g16, fun i hi e => ?_, g18⟩
  · exact (g2.below hX).keep fun i hi hv => hg.block i hi (fun e => g17 i hv e.symm)
  · exact (g7.below hX).keep fun g hg' hlt => hg.block g hlt (fun e => by
      rcases g7.2.2 with ⟨hn0, _⟩ | ⟨g', off, cur, hA', hbk, _⟩
      · rw [hn0] at hg'; simp at hg'
      · rw [hA'] at hg'
        have e9 : g' = g := by simpa using hg'
        subst e9
        exact own_blk_ne g1 hbk (by decide) e.symm)
  · refine ⟨hg.os.trans hBX.os, hg.tape.trans hBX.tape, hg.output.trans hBX.output, Nat.le_trans hBX.size hg.size, fun i hi => ?_⟩
    rw [hg.block i (Nat.lt_of_lt_of_le hi hBX.size) (fun e => by have := g11 i e.symm; omega)]
    exact hBX.block i hi
  · rcases hor with h9 | h9
    · exact g11 i (h9 ▸ hi)
    · rw [h9] at hi
      have : X.heap.size = i := by injection hi
      have := hBX.size
      omega
  · rcases hor with h9 | h9
    · exact g17 i hi (h9 ▸ e)
    · rw [h9] at e
      have : X.heap.size = i := by injection e
      have := g2.lt hi
      have := hX.size
      omega
theorem InSt.done {w wr : World} {l0 : List UInt8} {t m : Nat} {vm v : Value} {Lm L : List Pt} (h : InSt w l0 t m vm Lm L Lm.length v wr) : St w l0 t (m + 4096) v wr := by
  obtain ⟨D, A1, cap1, l1, ov1, g1, g2, g3, g4, g5, g6, g7, g8, g9, g10, g11, g12, g13, g14, g15, g16, g17, g18⟩ := h
  rw [List.take_length] at g1
  exact ⟨L ++ Lm, D, A1, cap1, l1, ov1, g1, g3, g4, g5, g6, g7, g8, g9, g10, g11, g12, g13, g14, by simp; omega, g18⟩
theorem InSt.under {w wr : World} {l0 : List UInt8} {t m j : Nat} {vm v : Value} {Lm L : List Pt} (h : InSt w l0 t m vm Lm L j v wr) : Below w.heap.size w wr := by
  obtain ⟨D, A1, cap1, l1, ov1, g1, g2, g3, g4, g5, g6, g7, g8, g9, g10, _⟩ := h; exact g10
theorem St.under {w wr : World} {l0 : List UInt8} {t m : Nat} {v : Value} (h : St w l0 t m v wr) : Below w.heap.size w wr := by
  obtain ⟨L, D, A1, cap1, l1, ov1, g1, g2, g3, g4, g5, g6, g7, g8, g9, _⟩ := h; exact g9
theorem St.whole {w wr : World} {l0 : List UInt8} {m : Nat} {v : Value} (h : St w l0 l0.length m v wr) : ∃ L, POwn wr v L ∧ Means wr L (parts l0) := by
  obtain ⟨L, D, A1, cap1, l1, ov1, g1, g2, g3, g4, g5, g6, g7, _⟩ := h
  rw [List.drop_length, strm_end g7 g4, List.append_nil] at g3
  exact ⟨L, g1, by rw [g3]; exact g2⟩
end Go.Proofs.Ytmkehbmegimecaa.framePieces
