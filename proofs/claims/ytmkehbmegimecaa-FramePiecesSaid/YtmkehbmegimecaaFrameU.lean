/- frame: Feed and Next of the program and of the document, each as one contract for every case. -/
import Derived.Test.YtmkehbmegimecaaFrameReady
namespace Go.Proofs.Ytmkehbmegimecaa
set_option linter.unusedVariables false
set_option linter.unusedSimpArgs false
open Go.RowKit
def fdOk (room : Int) (n ov m : Nat) : Bool := decide ((m : Int) - ((min ov m : Nat) : Int) + (n : Int) ≤ room)
def fdL (ok : Bool) (l news : List UInt8) (ov m : Nat) : List UInt8 := if ok = true then l ++ news.drop (min ov m) else l
def fdOv (ok : Bool) (ov m : Nat) : Nat := if ok = true then ov - min ov m else ov
def RFeedU (A : Option Addr) (room : Int) (ok : Bool) (l' : List UInt8) (ov' : Nat) (w : World) (e : Ending) (w' : World) : Prop :=
  ∃ A' c', e = .returned (.tuple #[.agg #[.int .i64 room, .slice A' l'.length c', .int .i64 (ov' : Int)], .bool ok]) ∧ RB w' A' l'.length l' ∧ l'.length ≤ c' ∧ Below w.heap.size w w' ∧ ∀ g, A'.map (·.block) = some g → (w.heap.size ≤ g ∧ g < w'.heap.size) ∨ A.map (·.block) = some g
theorem rfeed_u (A B : Option Addr) (n c m d ov : Nat) (room : Int) (l news : List UInt8) (w : World) (hx : RB w A n l) (hn : n ≤ c) (hy : RB w B m news) (hd : m ≤ d) (hm : m ≤ 4611686018427387904) (hn2 : n ≤ 65536) (hr0 : 0 ≤ room) (hr1 : room ≤ 65536) (hov : ov ≤ 65535) :
    Calls Try.prog 10 #[.agg #[.int .i64 room, .slice A n c, .int .i64 (ov : Int)], .slice B m d] w fun e w' => RFeedU A room (fdOk room n ov m) (fdL (fdOk room n ov m) l news ov m) (fdOv (fdOk room n ov m) ov m) w e w' := by
  have hl := hx.len
  have hl2 := hy.len
  by_cases hno : (m : Int) - ((min ov m : Nat) : Int) + (n : Int) ≤ room
  · have hk : fdOk room n ov m = true := by simp only [fdOk, decide_eq_true_eq]; exact hno
    rw [hk]
    simp only [fdL, fdOv, if_true]
    refine (rfeed_yes A B n c m d ov _ room l news w hx hn hy hd hm hn2 hr0 hr1 hov rfl hno).mono fun e w' ⟨A', c', he, hrb, hc, hb, hA⟩ => ?_
    have e1 : n + (m - min ov m) = (l ++ news.drop (min ov m)).length := by simp [hl, hl2]
    rw [e1] at he hrb hc
    exact ⟨A', c', he, hrb, hc, hb, fun g hg => .inl (hA g hg)⟩
  · have hk : fdOk room n ov m = false := by simp only [fdOk, decide_eq_false_iff_not]; exact hno
    rw [hk]
    simp only [fdL, fdOv, Bool.false_eq_true, if_false]
    refine (rfeed_no A B n c m d ov _ room l news w hx hn hy hd hm hn2 hr0 hr1 hov rfl (by omega)).mono fun e w' ⟨he, hb⟩ => ?_
    subst hl
    exact ⟨A, c, he, hx.later hb, hn, hb, fun g hg => .inr hg⟩
def FeedU (p : Nat) (A : Option Addr) (room : Int) (ok : Bool) (l' : List UInt8) (ov' : Nat) (w : World) (e : Ending) (w' : World) : Prop :=
  ∃ A' cap', e = .returned (.bool ok) ∧ Blk w' p 58 #[.int .i64 room, .slice A' l'.length cap', .int .i64 (ov' : Int)] ∧ Wt w' A' l'.length cap' l' ∧ Fed p A w w' ∧ (A'.map (·.block) = A.map (·.block) ∨ A'.map (·.block) = some w.heap.size)
theorem feed_u (p n cap m c ov : Nat) (A B : Option Addr) (room : Int) (l news : List UInt8) (w : World) (hp : Blk w p 58 #[.int .i64 room, .slice A n cap, .int .i64 (ov : Int)]) (ht : Wt w A n cap l) (hr : RB w B m news) (hm : m ≤ c) (hm2 : m ≤ 9223372036854775807) (hn : (n : Int) ≤ room) (hr0 : room ≤ 4096) (hov : ov ≤ 65535) (hBp : 0 < m → B.map (·.block) ≠ some p) :
    Calls Try.prog 11 #[.pointer (some ⟨p, 0, none⟩), .slice B m c] w fun e w' => FeedU p A room (fdOk room n ov m) (fdL (fdOk room n ov m) l news ov m) (fdOv (fdOk room n ov m) ov m) w e w' := by
  have hl : l.length = n := ht.1
  have hl2 := hr.len
  by_cases hno : (m : Int) - ((min ov m : Nat) : Int) + (n : Int) ≤ room
  · have hk : fdOk room n ov m = true := by simp only [fdOk, decide_eq_true_eq]; exact hno
    rw [hk]
    simp only [fdL, fdOv, if_true]
    refine (feed_yes p n cap m c ov _ A B room l news w hp ht hr hm hm2 hn hr0 hov rfl hBp (by omega)).mono fun e w' ⟨A', c', he, h1, h2, h3, h4⟩ => ?_
    have e1 : n + (m - min ov m) = (l ++ news.drop (min ov m)).length := by simp [hl, hl2]
    rw [e1] at h1 h2
    exact ⟨A', c', he, h1, h2, h3, h4⟩
  · have hk : fdOk room n ov m = false := by simp only [fdOk, decide_eq_false_iff_not]; exact hno
    rw [hk]
    simp only [fdL, fdOv, Bool.false_eq_true, if_false]
    refine (feed_no p n cap m c ov _ A B room l news w hp ht hr hm hm2 hn hr0 hov rfl hBp (by omega)).mono fun e w' ⟨he, q, hw⟩ => ?_
    subst hl; subst hw
    exact ⟨A, cap, he, hp, ht.drewN q, ⟨rfl, rfl, rfl, Nat.le_refl _, fun _ _ _ _ => rfl⟩, .inl rfl⟩
/-- What is left behind what comes next, and its body. -/
def nxL (n : Nat) (l : List UInt8) : List UInt8 := if n < 2 then l else if 600 < hdr l then l.drop (2 + min (hdr l) (n - 2)) else if n < 2 + hdr l then l else l.drop (2 + hdr l)
def nxOv (n ov : Nat) (l : List UInt8) : Nat := if n < 2 then ov else if 600 < hdr l then hdr l - min (hdr l) (n - 2) else if n < 2 + hdr l then ov else 0
def nxB (n : Nat) (l : List UInt8) : List UInt8 := if n < 2 then [] else if 600 < hdr l then [] else if n < 2 + hdr l then [] else (l.drop 2).take (hdr l)
def RNextU (A : Option Addr) (room kind : Int) (l' : List UInt8) (ov' : Nat) (body : List UInt8) (w : World) (e : Ending) (w' : World) : Prop :=
  ∃ A' c' B cb, e = .returned (.tuple #[.agg #[.int .i64 room, .slice A' l'.length c', .int .i64 (ov' : Int)], .slice B body.length cb, .int .i64 kind]) ∧ RB w' A' l'.length l' ∧ l'.length ≤ c' ∧ RB w' B body.length body ∧ Below w.heap.size w w' ∧ A'.map (·.block) = A.map (·.block) ∧ (0 < body.length → B.map (·.block) = A.map (·.block))
theorem rnext_u (A : Option Addr) (n c ov : Nat) (room : Int) (l : List UInt8) (w : World) (hx : RB w A n l) (hn : n ≤ c) (hn2 : n ≤ 65536) (hov : ov ≤ 65535) :
    Calls Try.prog 12 #[.agg #[.int .i64 room, .slice A n c, .int .i64 (ov : Int)]] w fun e w' => RNextU A room (nkind n l) (nxL n l) (nxOv n ov l) (nxB n l) w e w' := by
  have hl := hx.len
  unfold nkind nxL nxOv nxB
  by_cases h2 : n < 2
  · simp only [if_pos h2]
    subst hl
    exact rnext_few A _ c ov room l w hx hn hn2 hov h2
  · simp only [if_neg h2]
    by_cases h6 : 600 < hdr l
    · simp only [if_pos h6]
      have e1 : n - (2 + min (hdr l) (n - 2)) = (l.drop (2 + min (hdr l) (n - 2))).length := by rw [List.length_drop, hl]
      have e2 : ((hdr l : Nat) : Int) - ((min (hdr l) (n - 2) : Nat) : Int) = ((hdr l - min (hdr l) (n - 2) : Nat) : Int) := by omega
      have := rnext_over A n c ov room l w hx hn hn2 hov (by omega) h6 _ rfl
      rw [e1, e2] at this
      exact this
    · simp only [if_neg h6]
      by_cases hs : n < 2 + hdr l
      · simp only [if_pos hs]
        subst hl
        exact rnext_short A _ c ov room l w hx hn hn2 hov (by omega) (by omega) hs
      · simp only [if_neg hs]
        have e1 : n - (2 + hdr l) = (l.drop (2 + hdr l)).length := by rw [List.length_drop, hl]
        have e3 : ((l.drop 2).take (hdr l)).length = hdr l := by rw [List.length_take, List.length_drop]; omega
        have := rnext_whole A n c ov room l w hx hn hn2 hov (by omega) _ rfl (by omega) (by omega)
        rw [e1] at this
        refine this.mono fun e w' ⟨A', c', B, cb, h⟩ => ⟨A', c', B, cb, ?_⟩
        rw [e3]
        exact h
def NextU (p : Nat) (A : Option Addr) (room kind : Int) (l' : List UInt8) (ov' : Nat) (body : List UInt8) (w : World) (e : Ending) (w' : World) : Prop :=
  ∃ A' cap' B cb, e = .returned (.tuple #[.slice B body.length cb, .int .i64 kind]) ∧ Blk w' p 58 #[.int .i64 room, .slice A' l'.length cap', .int .i64 (ov' : Int)] ∧ Wt w' A' l'.length cap' l' ∧ RB w' B body.length body ∧ Fed p none w w' ∧ A'.map (·.block) = A.map (·.block) ∧ ∀ g, B.map (·.block) = some g → w.heap.size ≤ g
theorem fed_of_below {p : Nat} {w w' : World} (hb : Below w.heap.size w w') : Fed p none w w' := ⟨hb.os, hb.tape, hb.output, hb.size, fun i hi _ _ => hb.block i hi⟩
theorem next_u (p n cap ov : Nat) (A : Option Addr) (room : Int) (l : List UInt8) (w : World) (hp : Blk w p 58 #[.int .i64 room, .slice A n cap, .int .i64 (ov : Int)]) (ht : Wt w A n cap l) (hn : n ≤ 1099511627776) (h0 : 0 < n → ov = 0) :
    Calls Try.prog 13 #[.pointer (some ⟨p, 0, none⟩)] w fun e w' => NextU p A room (nkind n l) (nxL n l) (nxOv n ov l) (nxB n l) w e w' := by
  have hl : l.length = n := ht.1
  unfold nkind nxL nxOv nxB
  by_cases h2 : n < 2
  · simp only [if_pos h2]
    subst hl
    exact (next_few p _ cap A room ov l w hp ht hn h2).mono fun e w' ⟨he, hw⟩ => by subst hw; exact ⟨A, cap, none, 0, he, hp, ht, RB.nil_ _, fed_of_below (Below.refl _ _), rfl, fun g hg => by simp at hg⟩
  · simp only [if_neg h2]
    by_cases h6 : 600 < hdr l
    · simp only [if_pos h6]
      refine (next_over p n cap A room ov l w hp ht hn (by omega) h6).mono fun e w' ⟨A', cap', k, hk, he, h1, h3, h4, h5⟩ => ?_
      subst hl
      have e1 : l.length - 2 - k = (l.drop (2 + k)).length := by rw [List.length_drop]; omega
      have e2 : ((hdr l : Nat) : Int) - ((k : Nat) : Int) = ((hdr l - k : Nat) : Int) := by omega
      rw [e1] at h1 h3
      rw [e2] at h1
      subst hk
      exact ⟨A', cap', none, 0, he, h1, h3, RB.nil_ _, h4, h5, fun g hg => by simp at hg⟩
    · simp only [if_neg h6]
      by_cases hs : n < 2 + hdr l
      · simp only [if_pos hs]
        subst hl
        exact (next_short p _ cap A room ov l w hp ht hn (by omega) (by omega) hs).mono fun e w' ⟨he, hb⟩ => ⟨A, cap, none, 0, he, hp.below hb hp.lt, ht.below hb, RB.nil_ _, fed_of_below hb, rfl, fun g hg => by simp at hg⟩
      · simp only [if_neg hs]
        refine (next_whole p n cap A room ov l w hp ht hn (by omega) (by omega) (by omega)).mono fun e w' ⟨A', cap', B, c', he, h1, h3, h4, h5, h6', h7'⟩ => ?_
        have ho : ov = 0 := h0 (by omega)
        subst ho
        subst hl
        have e1 : l.length - 2 - hdr l = (l.drop (2 + hdr l)).length := by rw [List.length_drop]; omega
        have e3 : hdr l = ((l.drop 2).take (hdr l)).length := by rw [List.length_take, List.length_drop]; omega
        rw [e1] at h1 h3
        have h4' := h4.rb
        refine ⟨A', cap', B, c', ?_, h1, h3, ?_, h5, h6', h7'⟩
        · rw [← e3]; exact he
        · rw [← e3]; exact h4'
theorem fd_facts {room : Int} {n ov m : Nat} {l news : List UInt8} (hl : l.length = n) (hm : news.length = m) (hn : (n : Int) ≤ room) (hov : ov ≤ 65535) (h0 : 0 < n → ov = 0) :
    ((fdL (fdOk room n ov m) l news ov m).length : Int) ≤ room ∧ fdOv (fdOk room n ov m) ov m ≤ 65535 ∧ (0 < (fdL (fdOk room n ov m) l news ov m).length → fdOv (fdOk room n ov m) ov m = 0) := by
  by_cases hno : (m : Int) - ((min ov m : Nat) : Int) + (n : Int) ≤ room
  · have hk : fdOk room n ov m = true := by simp only [fdOk, decide_eq_true_eq]; exact hno
    rw [hk]
    simp only [fdL, fdOv, if_true, List.length_append, List.length_drop, hl, hm]
    refine ⟨by omega, by omega, fun h => ?_⟩
    by_cases hn0 : 0 < n
    · have := h0 hn0; omega
    · omega
  · have hk : fdOk room n ov m = false := by simp only [fdOk, decide_eq_false_iff_not]; exact hno
    rw [hk]
    simp only [fdL, fdOv, Bool.false_eq_true, if_false, hl]
    exact ⟨hn, hov, h0⟩
theorem nx_facts {room : Int} {n ov : Nat} {l : List UInt8} (hl : l.length = n) (hn : (n : Int) ≤ room) (hov : ov ≤ 65535) (h0 : 0 < n → ov = 0) :
    ((nxL n l).length : Int) ≤ room ∧ nxOv n ov l ≤ 65535 ∧ (0 < (nxL n l).length → nxOv n ov l = 0) ∧ (nxB n l).length ≤ 65536 := by
  have hh := hdr_lt l
  unfold nxL nxOv nxB
  by_cases h2 : n < 2
  · simp only [if_pos h2, hl]; exact ⟨hn, hov, h0, by simp⟩
  · simp only [if_neg h2]
    by_cases h6 : 600 < hdr l
    · simp only [if_pos h6, List.length_drop, hl]
      exact ⟨by omega, by omega, fun h => by omega, by simp⟩
    · simp only [if_neg h6]
      by_cases hs : n < 2 + hdr l
      · simp only [if_pos hs, hl]; exact ⟨hn, hov, h0, by simp⟩
      · simp only [if_neg hs, List.length_drop, hl, List.length_take]
        exact ⟨by omega, by omega, fun _ => trivial, by omega⟩
end Go.Proofs.Ytmkehbmegimecaa
