/- frame: the frames that are there, taken out of a buffer, by contract. -/
import Derived.Test.YtmkehbmegimecaaPart
namespace Go.Proofs.Ytmkehbmegimecaa
set_option linter.unusedVariables false
set_option linter.unusedSimpArgs false
open Go.RowKit
theorem new_cell' (w : World) (cs : Array Value) (t : TypeId) (i : Nat) {v : Value} (h : cs[i]? = some v) : (w.alloc (.cells cs t)).cell? ⟨w.heap.size, i, none⟩ = some v := by rw [(Blk.new w t cs).cell]; exact h
theorem RB.kept' {w w' : World} {A : Option Addr} {n : Nat} {l : List UInt8} (h : RB w A n l) (hz : w.heap.size ≤ w'.heap.size) (hk : ∀ g, 0 < n → A.map (·.block) = some g → g < w.heap.size → w'.heap[g]? = w.heap[g]?) : RB w' A n l := by
  refine ⟨h.1, fun hn => ?_⟩
  obtain ⟨ad, rfl, hl, hc⟩ := h.2 hn
  refine ⟨ad, rfl, by omega, fun j u hu => ?_⟩
  rw [World.cell?_of_block (w := w) (hk _ hn (by simp [block_of_add]) (by simpa [block_of_add] using hl))]
  exact hc j u hu
theorem RB.blk_lt {w : World} {A : Option Addr} {n : Nat} {l : List UInt8} (h : RB w A n l) (h0 : 0 < n) {g : Nat} (hg : A.map (·.block) = some g) : g < w.heap.size := by
  obtain ⟨ad, rfl, hl, _⟩ := h.2 h0
  simp at hg; subst hg; exact hl
theorem POwn.ne {w : World} {v : Value} {L : List Pt} (h : POwn w v L) {p : Nat} {cs : Array Value} (hb : Blk w p 58 cs) : v.ownBlock ≠ some p := own_blk_ne h hb (by decide)
theorem nk_zero {l : List UInt8} (ov : Nat) (h : nkind l.length l = 0) : nxL l.length l = l ∧ nxOv l.length ov l = ov ∧ nxB l.length l = [] := by
  unfold nkind at h
  unfold nxL nxOv nxB
  by_cases h2 : l.length < 2
  · simp [h2]
  · rw [if_neg h2] at h
    simp only [if_neg h2]
    by_cases h6 : 600 < hdr l
    · simp [h6] at h
    · rw [if_neg h6] at h
      simp only [if_neg h6]
      by_cases hs : l.length < 2 + hdr l
      · simp [hs]
      · simp [hs] at h
/-- The bodies lie at B or beyond, in no row of the parts. -/
def Bods (B : Nat) (v : Value) (L : List Pt) : Prop := ∀ t ∈ L, 0 < t.2.1 → ∀ b, t.1.map (·.block) = some b → B ≤ b ∧ v.ownBlock ≠ some b
def DSt (w : World) (p : Nat) (A : Option Addr) (room : Int) (l : List UInt8) (ov i : Nat) (v : Value) (wr : World) : Prop :=
  ∃ L D A' cap' l' ov', POwn wr v L ∧ Means wr L D ∧ (∀ r, strm l ov r = D ++ strm l' ov' r) ∧ Blk wr p 58 #[.int .i64 room, .slice A' l'.length cap', .int .i64 (ov' : Nat)] ∧ Wt wr A' l'.length cap' l' ∧ (0 < l'.length → ov' = 0) ∧ ov' ≤ 65535 ∧ (l'.length : Int) ≤ room ∧ Fed p none w wr ∧ A'.map (·.block) = A.map (·.block) ∧
    (∀ j, v.ownBlock = some j → w.heap.size ≤ j) ∧ Bods w.heap.size v L ∧ L.length = i ∧ l'.length + i ≤ l.length
def DrainedPost (p : Nat) (A : Option Addr) (room : Int) (l : List UInt8) (ov : Nat) (w : World) (e : Ending) (w' : World) : Prop :=
  ∃ v L D A' cap' l' ov', e = .returned v ∧ POwn w' v L ∧ Means w' L D ∧ (∀ r, strm l ov r = D ++ strm l' ov' r) ∧ nkind l'.length l' = 0 ∧ Blk w' p 58 #[.int .i64 room, .slice A' l'.length cap', .int .i64 (ov' : Nat)] ∧ Wt w' A' l'.length cap' l' ∧ (0 < l'.length → ov' = 0) ∧ ov' ≤ 65535 ∧ (l'.length : Int) ≤ room ∧ Fed p none w w' ∧ A'.map (·.block) = A.map (·.block) ∧
    (∀ j, v.ownBlock = some j → w.heap.size ≤ j) ∧ Bods w.heap.size v L ∧ L.length ≤ l.length ∧ l'.length ≤ l.length
theorem fed_none_trans {p : Nat} {a b c : World} (h : Fed p none a b) (k : Fed p none b c) : Fed p none a c :=
  ⟨k.1.trans h.1, k.2.1.trans h.2.1, k.2.2.1.trans h.2.2.1, Nat.le_trans h.2.2.2.1 k.2.2.2.1, fun i hi hp hn => (k.2.2.2.2 i (Nat.lt_of_lt_of_le hi h.2.2.2.1) hp hn).trans (h.2.2.2.2 i hi hp hn)⟩
/-- What the parts are behind a call that keeps all but the buffer. -/
theorem parts_fed {p B : Nat} {wr w2 : World} {v : Value} {L : List Pt} {D : List (List UInt8 × Int)} {cs : Array Value} (h1 : POwn wr v L) (h2 : Means wr L D) (hp : Blk wr p 58 cs) (hb : Bods B v L) (hB : p < B) (hf : Fed p none wr w2) : POwn w2 v L ∧ Means w2 L D :=
  ⟨h1.keep fun i hi he => hf.2.2.2.2 i hi (fun e => h1.ne hp (by rw [he, e])) (by simp), h2.keep fun t ht l hl => hl.kept' hf.2.2.2.1 fun g h0 hg hlt => hf.2.2.2.2 g hlt (fun e => by have := (hb t ht h0 g hg).1; omega) (by simp)⟩
/-- One part more. -/
theorem parts_more_row {B : Nat} {X w4 : World} {v v' : Value} {L : List Pt} {D : List (List UInt8 × Int)} {t : Pt} {P : List UInt8 × Int} (h2 : Means X L D) (hb : Bods B v L) (ht : RB X t.1 t.2.1 P.1) (hk : t.2.2.2 = P.2) (hP : P.1.length ≤ 65536) (htb : 0 < t.2.1 → ∀ b, t.1.map (·.block) = some b → B ≤ b ∧ v.ownBlock ≠ some b) (ha : PAppended v (L ++ [t]) X v' w4) : Means w4 (L ++ [t]) (D ++ [P]) ∧ Bods B v' (L ++ [t]) := by
  obtain ⟨ho, hg, hor, _⟩ := ha
  have hbods : ∀ t' ∈ L ++ [t], 0 < t'.2.1 → ∀ b, t'.1.map (·.block) = some b → B ≤ b ∧ v.ownBlock ≠ some b := by
    intro t' ht' h0 b hb'
    rcases List.mem_append.1 ht' with h | h
    · exact hb t' h h0 b hb'
    · simp at h; subst h; exact htb h0 b hb'
  have hmx := h2.snoc ht hk hP
  have hm : Means w4 (L ++ [t]) (D ++ [P]) := hmx.keep fun t' ht' l hl => hl.kept' hg.size fun g h0 hg' hlt => hg.block g hlt (fun e => (hbods t' ht' h0 g hg').2 e.symm)
  refine ⟨hm, fun t' ht' h0 b hb' => ⟨(hbods t' ht' h0 b hb').1, ?_⟩⟩
  rcases hor with h | h
  · rw [h]; exact (hbods t' ht' h0 b hb').2
  · rw [h]
    intro e
    have e' : X.heap.size = b := by injection e
    obtain ⟨i, hi, hti⟩ := List.mem_iff_getElem.1 ht'
    have hi2 : i < (D ++ [P]).length := by rw [← hmx.1]; exact hi
    have hrb := (hmx.2 i t' _ (by rw [List.getElem?_eq_getElem hi, hti]) (List.getElem?_eq_getElem hi2)).1
    have := hrb.blk_lt h0 hb'
    omega
set_option maxRecDepth 100000 in
set_option maxHeartbeats 8000000 in
theorem drained_any (p n cap ov : Nat) (A : Option Addr) (room most : Int) (l : List UInt8) (w : World) (hp : Blk w p 58 #[.int .i64 room, .slice A n cap, .int .i64 (ov : Int)]) (ht : Wt w A n cap l) (hr : room ≤ 4096) (hn : (n : Int) ≤ room) (hov : ov ≤ 65535) (h0 : 0 < n → ov = 0) (hm : (n : Int) < most) (hm2 : most ≤ 9223372036854775807) :
    Calls Try.prog 18 #[.pointer (some ⟨p, 0, none⟩), .int .i64 most] w fun e w' => DrainedPost p A room l ov w e w' := by
  have hl : l.length = n := ht.1
  subst hl
  have hpl := hp.lt
  have HST := Lib.hid (show DSt w p A room l ov 0 (.slice none 0 0) w from ⟨[], [], A, cap, l, ov, POwn.nil_ _, Means.nil_ _, fun r => rfl, hp, ht, h0, hov, hn, ⟨rfl, rfl, rfl, Nat.le_refl _, fun _ _ _ _ => rfl⟩, rfl, fun j hj => by simp [Value.ownBlock] at hj, fun t ht => by simp at ht, rfl, by omega⟩)
  clear hp ht h0
  go_enter Try.func18, Try.ntmps18
  go_wp2
  go_loopw [5, 6] (fun v i wr => ∃ (k : Nat) (v0 : Value), k ≤ l.length ∧ i = .int .i64 k ∧ v = v0 ∧ Hid (DSt w p A room l ov k v0 wr)) (fun _ i _ => l.length + 1 - (intOf i).toNat)
  case atStart => exact ⟨0, _, Nat.zero_le _, rfl, rfl, HST⟩
  case round =>
    clear HST
    obtain ⟨k, v0, hk, rfl, rfl, hrel⟩ := hrel
    obtain ⟨L, D, A1, cap1, l1, ov1, g1, g2, g3, g4, g5, g6, g7, g8, g9, g10, g11, g12, g13, g14⟩ := hrel.out
    have hkm : (k : Int) < most := by omega
    have HNX := Lib.hid (next_u p l1.length cap1 ov1 A1 room l1 wr g4 g5 (by omega) g6)
    obtain ⟨A0, c0, rfl, hc1, hc2, hA0⟩ := g1.slice
    have hnf := nx_facts (room := room) (ov := ov1) (l := l1) rfl g8 g7 g6
    have HS := Lib.hid g3
    have H1 := Lib.hid g1; have H2 := Lib.hid g2; have H4 := Lib.hid g4; have H9 := Lib.hid g9; have H10 := Lib.hid g10; have H11 := Lib.hid g11; have H12 := Lib.hid g12; have H6 := Lib.hid g6; have H5 := Lib.hid g5
    subst g13
    clear g1 g2 g3 g4 g5 g9 g10 g11 g12 g6 hrel
    by_cases hz : nkind l1.length l1 = 0
    · obtain ⟨e1, e2, e3⟩ := nk_zero ov1 hz
      have HZ := Lib.hid hz
      rw [hz, e1, e2, e3] at HNX
      clear hz e1 e2 e3 hnf
      go_wp2_with fail
      refine HNX.out.mono ?_
      rintro e w2 ⟨A2, cap2, B2, cb2, rfl, hp2, ht2, hbd2, hf2, hl2, _⟩
      have hpf := parts_fed H1.out H2.out H4.out H12.out hpl hf2
      have HF := Lib.hid (show DrainedPost p A room l ov w (.returned (.slice A0 L.length c0)) w2 from ⟨_, L, D, A2, cap2, l1, ov1, rfl, hpf.1, hpf.2, HS.out, HZ.out, hp2, ht2, H6.out, g7, g8, fed_none_trans H9.out hf2, hl2.trans H10.out, H11.out, H12.out, hk, by omega⟩)
      clear hp2 ht2 hbd2 hf2 hl2 hpf
      go_wp2
      go_ret
      exact HF.out
    · have hzb : (nkind l1.length l1 == 0) = false := by simp [hz]
      have HSTEP := Lib.hid (fun r => strm_step H6.out hz r)
      have hlen := nx_less hz
      obtain ⟨f1, f2, f3, f4⟩ := hnf
      have HF3 := Lib.hid f3
      clear hz f3
      generalize nkind l1.length l1 = K at *
      generalize nxL l1.length l1 = l2 at *
      generalize nxOv l1.length ov1 l1 = ov2 at *
      generalize nxB l1.length l1 = body at *
      go_wp2_with fail
      refine HNX.out.mono ?_
      rintro e w2 ⟨A2, cap2, B2, cb2, rfl, hp2, ht2, hbd2, hf2, hl2, hbz⟩
      have hpf := parts_fed H1.out H2.out H4.out H12.out hpl hf2
      have HPO := Lib.hid hpf.1; have HME := Lib.hid hpf.2
      have HP2 := Lib.hid hp2; have HT2 := Lib.hid ht2; have HBD2 := Lib.hid hbd2; have HF2 := Lib.hid hf2; have HL2 := Lib.hid hl2; have HBZ := Lib.hid hbz
      clear hp2 ht2 hbd2 hf2 hl2 hbz hpf
      go_wp2_with (at_builtin; refine wpList_pushP rfl (.tmp 22) (.tmp 26) _ rfl Try.underlying45 (.slice A0 L.length c0) L (B2, body.length, cb2, K) w2.heap.size 1 rfl rfl (HPO.out.below ((Below.refl _ _).alloc (Nat.le_refl _) _)) (new_cell' _ _ _ 0 rfl) (new_cell' _ _ _ 1 rfl) (by omega) ?_; rintro v4 w4 ha4)
      have hXb : Below w2.heap.size w2 (w2.alloc (.cells #[.slice B2 body.length cb2, .int .i64 K] 48)) := (Below.refl _ _).alloc (Nat.le_refl _) _
      have hw2 : w.heap.size ≤ w2.heap.size := Nat.le_trans H9.out.2.2.2.1 HF2.out.2.2.2.1
      have hPX := HPO.out.below hXb
      obtain ⟨hm4, hb4⟩ := parts_more_row (X := w2.alloc (.cells #[.slice B2 body.length cb2, .int .i64 K] 48)) (P := (body, K)) (HME.out.below hXb) H12.out (HBD2.out.later hXb) rfl f4 (fun _ b hb => ⟨Nat.le_trans H9.out.2.2.2.1 (HBZ.out b hb), fun e => by have := H1.out.lt e; have := HBZ.out b hb; omega⟩) ha4
      obtain ⟨ho4, hg4, hor4, _⟩ := ha4
      have hfed : Fed p none w w4 := by
        refine ⟨hg4.os.trans (HF2.out.1.trans H9.out.1), hg4.tape.trans (HF2.out.2.1.trans H9.out.2.1), hg4.output.trans (HF2.out.2.2.1.trans H9.out.2.2.1), Nat.le_trans hw2 (Nat.le_trans hXb.size hg4.size), fun i hi hip _ => ?_⟩
        have hi2 : i < w2.heap.size := Nat.lt_of_lt_of_le hi hw2
        rw [hg4.block i (Nat.lt_of_lt_of_le hi2 hXb.size) (fun e => by have := H11.out i e.symm; omega), hXb.block i hi2]
        exact (fed_none_trans H9.out HF2.out).2.2.2.2 i hi hip (by simp)
      have HFIN := Lib.hid (show DSt w p A room l ov (L.length + 1) v4 w4 from by
        refine ⟨L ++ [(B2, body.length, cb2, K)], D ++ [(body, K)], A2, cap2, l2, ov2, ho4, hm4, fun r => by rw [HS.out r, HSTEP.out r]; simp, ?_, ?_, HF3.out, f2, f1, hfed, HL2.out.trans H10.out, fun j hj => ?_, hb4, by simp, by omega⟩
        · exact (HP2.out.below hXb HP2.out.lt).grown hg4 (fun e => hPX.ne (HP2.out.below hXb HP2.out.lt) e.symm)
        · exact (HT2.out.below hXb).keep fun g hg hlt => hg4.block g hlt (fun e => by
            rcases HT2.out.2.2 with ⟨hn0, _⟩ | ⟨g', off, cur, hA', hbk, _⟩
            · rw [hn0] at hg; simp at hg
            · rw [hA'] at hg
              have e9 : g' = g := by simpa using hg
              subst e9
              exact own_blk_ne HPO.out hbk (by decide) e.symm)
        · rcases hor4 with h | h
          · exact H11.out j (h ▸ hj)
          · rw [h] at hj
            have : (w2.alloc (.cells #[.slice B2 body.length cb2, .int .i64 K] 48)).heap.size = j := by injection hj
            have := hXb.size
            omega)
      clear hm4 hb4 ho4 hg4 hor4 hfed hPX hXb
      go_roundw
      case rel => exact ⟨L.length + 1, v4, by omega, by go_num, rfl, HFIN⟩
      case measure => simp [intOf]; omega
end Go.Proofs.Ytmkehbmegimecaa
