/- queue: Drain, by contract. -/
import Derived.Test.YtlohbmbahagjbaaQPut
namespace Go.Proofs.Ytlohbmbahagjbaa
set_option linter.unusedVariables false
set_option linter.unusedSimpArgs false
open Go.RowKit
def DrainPost (q : Nat) (v : Value) (n : Nat) (S : List En) (w : World) (e : Ending) (w' : World) : Prop :=
  ∃ A c v' Lr, e = .returned (.slice A n c) ∧ QOwn w' (.slice A n c) (S.take n) ∧ (∀ i, A.map (·.block) = some i → w.heap.size ≤ i) ∧ QQ w' q v' Lr ∧ Lr.Perm (S.drop n) ∧ v'.ownBlock = v.ownBlock ∧ Turned q v.ownBlock w w'
/-- Where Drain stands: its row, and the queue. -/
theorem new_cell2 (w : World) (o : Obj) (cs : Array Value) (t : TypeId) (i : Nat) {v : Value} (h : cs[i]? = some v) : ((w.alloc o).alloc (.cells cs t)).cell? ⟨w.heap.size + 1, i, none⟩ = some v := by
  have hb : Blk ((w.alloc o).alloc (.cells cs t)) (w.heap.size + 1) t cs := Blk.newAt (by simp)
  rw [hb.cell]; exact h
def DrSt (w : World) (q g cap : Nat) (S : List En) (k : Nat) (v0 : Value) (wr : World) : Prop :=
  ∃ L, HG wr q g cap L ∧ HeapTo L.length L ∧ L.Perm (S.drop k) ∧ QOwn wr v0 (S.take k) ∧ (∀ i, v0.ownBlock = some i → w.heap.size ≤ i) ∧ Turned q (some g) w wr
theorem drop_at {S : List En} {k : Nat} (hk : k < S.length) : S.drop k = at_ S k :: S.drop (k + 1) := by rw [at_get hk]; exact List.drop_eq_getElem_cons hk
theorem srt_drop {S : List En} (h : Srt S) (k : Nat) : Srt (S.drop k) := List.Pairwise.sublist (List.drop_sublist k S) h
theorem Turned.below {q : Nat} {r : Option Nat} {a b c : World} (h : Turned q r a b) (k : Below b.heap.size b c) : Turned q r a c := h.trans (Turned.of_below k) (.inl rfl)
theorem QOwn.turned {q g : Nat} {w w' : World} {v : Value} {L : List En} (h : QOwn w v L) (ht : Turned q (some g) w w') (hq : v.ownBlock ≠ some q) (hg : v.ownBlock ≠ some g) : QOwn w' v L :=
  h.keep fun i hi he => ht.2.2.2.2 i hi (fun e => hq (by rw [he, e])) (fun e => hg (by rw [he]; exact e.symm))
theorem DrSt.finish {w wr W : World} {q g cap k : Nat} {S : List En} {A : Option Addr} {n c : Nat} {v : Value} (h : DrSt w q g cap S k (.slice A n c) wr) (hb : Below wr.heap.size wr W) (hv : v.ownBlock = some g) (hn : n = (S.take k).length) (hk : k ≤ S.length) : DrainPost q v k S w (.returned (.slice A n c)) W := by
  obtain ⟨L, h1, h2, h3, h4, h5, h6⟩ := h
  have e : n = k := by rw [hn, List.length_take]; omega
  subst e
  exact ⟨A, c, _, L, rfl, h4.below hb, fun i hi => h5 i (own_map.2 hi), (h1.below hb).qq h2, h3, by rw [hv]; rfl, by rw [hv]; exact h6.below hb⟩
set_option maxRecDepth 100000 in
set_option maxHeartbeats 8000000 in
theorem qdrain_some (q g cap : Nat) (L S : List En) (most : Int) (w : World) (h : HG w q g cap L) (hh : HeapTo L.length L) (hp : L.Perm S) (hs : Srt S) (hl : S.length ≤ 1000000) (hm : -9223372036854775808 ≤ most ∧ most ≤ 9223372036854775807) (v : Value) (hv : v.ownBlock = some g) :
    Calls Try.prog 16 #[.pointer (some ⟨q, 0, none⟩), .int .i64 most] w fun e w' => DrainPost q v (min most.toNat S.length) S w e w' := by
  obtain ⟨hm1, hm2⟩ := hm
  have hgl := h.2.lt
  have hql := h.1.lt
  have hqg := h.ne
  have HST := Lib.hid (show DrSt w q g cap S 0 (.slice none 0 0) w from ⟨L, h, hh, hp, QOwn.nil_ _, fun i hi => by simp [Value.ownBlock] at hi, Turned.refl _ _ _⟩)
  have HS := Lib.hid hs; have HV := Lib.hid hv
  clear h hh hp hs hv
  go_enter Try.func16, Try.ntmps16
  go_wp2
  go_loopw [5, 9] (fun l i wr => ∃ (k : Nat) (v0 : Value), k ≤ S.length ∧ (k : Int) ≤ max most 0 ∧ i = .int .i64 k ∧ l = v0 ∧ Hid (DrSt w q g cap S k v0 wr)) (fun _ i _ => S.length + 1 - (intOf i).toNat)
  case atStart => exact ⟨0, _, Nat.zero_le _, by omega, rfl, rfl, HST⟩
  case round =>
    clear HST
    obtain ⟨k, v0, hk, hkm, rfl, rfl, hrel⟩ := hrel
    obtain ⟨L', h1, h2, h3, h4, h5, h6⟩ := hrel.out
    obtain ⟨A0, c0, rfl, hc1, hc2⟩ := h4.slice
    have htl : (S.take k).length = k := by rw [List.length_take]; omega
    rw [htl] at hc1 h4 h5
    have hrel2 := hrel.out
    rw [htl] at hrel2 ⊢
    have HREL := Lib.hid hrel2
    have HTL := Lib.hid htl
    clear hrel hrel2 htl
    by_cases hlt : (k : Int) < most
    · by_cases hkl : k < S.length
      · have hlen : L'.length = (S.length - k - 1) + 1 := by rw [h3.length_eq, List.length_drop]; omega
        have htop := top_same (by rw [drop_at hkl] at h3; exact h3) (by have := srt_drop HS.out k; rw [drop_at hkl] at this; exact this) h2
        have HPOP := Lib.hid (qpop_some q g cap (S.length - k - 1) L' wr h1 h2 hlen (by omega))
        have HTOP := Lib.hid htop
        have HPM := Lib.hid (show L'.Perm (at_ S k :: S.drop (k + 1)) by rw [← drop_at hkl]; exact h3)
        have HTK := Lib.hid (take_more hkl)
        have hq0 : (Value.slice A0 k c0).ownBlock ≠ some q := h4.ne h1.1
        have hg0 : (Value.slice A0 k c0).ownBlock ≠ some g := fun e => by have := h5 g e; omega
        have HQ0 := Lib.hid hq0; have HG0 := Lib.hid hg0; have H4 := Lib.hid h4; have H5 := Lib.hid h5; have H6 := Lib.hid h6
        clear h1 h2 h3 h4 h5 h6 hlen htop hq0 hg0 HREL
        go_wp2_with fail
        refine HPOP.out.mono ?_
        rintro e w2 ⟨he, L2, hg2, hh2, hp2, ht2⟩
        rw [HTOP.out] at he hp2
        unfold enV at he
        generalize hy : at_ S k = y at *
        subst he
        have HR := Lib.hid (pop_rest hp2 HPM.out rfl)
        have HO := Lib.hid (H4.out.turned ht2 HQ0.out HG0.out)
        have HG2 := Lib.hid hg2; have HH2 := Lib.hid hh2
        have HT2 := Lib.hid (H6.out.trans ht2 (.inl rfl))
        have hz2 := ht2.2.2.2.1
        clear hg2 hh2 hp2 ht2 hy
        go_wp2_with (at_builtin; go_loud (refine wpList_push rfl (.tmp 18) (.tmp 20) _ rfl Try.underlying26 (.slice A0 k c0) (S.take k) y _ 1 rfl rfl (by exact (HO.out.alloc _).alloc _) (by exact new_cell2 _ _ _ _ 0 rfl) (by exact new_cell2 _ _ _ _ 1 rfl) (by exact new_cell2 _ _ _ _ 2 rfl) (by rw [List.length_take]; omega) ?_); rintro v' w4 happ)
        have hx : Appended (.slice A0 k c0) (S.take (k + 1)) ((w2.alloc (.cells #[.int .u64 y.1, .int .u64 y.2.1, .int .i64 y.2.2] 29)).alloc (.cells #[.int .u64 y.1, .int .u64 y.2.1, .int .i64 y.2.2] 29)) v' w4 := by rw [HTK.out]; exact happ
        obtain ⟨g4, c4, rfl, hr4, hgr4, ho4⟩ := hx
        have hl4 : (S.take (k + 1)).length = k + 1 := by rw [List.length_take]; omega
        have HFIN := Lib.hid (show DrSt w q g cap S (k + 1) (.slice (some ⟨g4, 0, none⟩) (k + 1) c4) w4 from by
          have ha1 : Below w2.heap.size w2 (w2.alloc (.cells #[.int .u64 y.1, .int .u64 y.2.1, .int .i64 y.2.2] 29)) := (Below.refl _ _).alloc (Nat.le_refl _) _
          have ha : Below w2.heap.size w2 ((w2.alloc (.cells #[.int .u64 y.1, .int .u64 y.2.1, .int .i64 y.2.2] 29)).alloc (.cells #[.int .u64 y.1, .int .u64 y.2.1, .int .i64 y.2.2] 29)) := ha1.alloc ha1.size _
          have hb4 : ∀ i, i < w2.heap.size → (Value.slice A0 k c0).ownBlock ≠ some i → w4.heap[i]? = w2.heap[i]? := fun i hi hne => (hgr4.block i (Nat.lt_of_lt_of_le hi ha.size) (fun e => hne e.symm)).trans (ha.block i hi)
          have hw4 : w.heap.size ≤ w2.heap.size := HT2.out.2.2.2.1
          refine ⟨L2, ⟨(hb4 q HG2.out.1.lt HQ0.out).trans HG2.out.1, HG2.out.2.keep (hb4 g HG2.out.2.lt HG0.out)⟩, HH2.out, HR.out, ?_, fun i hi => ?_, ?_⟩
          · exact .inr ⟨g4, c4, by rw [hl4], hr4⟩
          · simp [Value.ownBlock] at hi
            subst hi
            rcases ho4 with h | h
            · exact H5.out g4 h
            · rw [h]; exact Nat.le_trans hw4 ha.size
          · refine ⟨hgr4.os.trans HT2.out.1, hgr4.tape.trans HT2.out.2.1, hgr4.output.trans HT2.out.2.2.1, Nat.le_trans hw4 (Nat.le_trans ha.size hgr4.size), fun i hi hq' hg' => ?_⟩
            rw [hb4 i (Nat.lt_of_lt_of_le hi hw4) (fun e => by have := H5.out i e; omega)]
            exact HT2.out.2.2.2.2 i hi hq' hg')
        rw [hl4]
        clear hr4 hgr4 ho4 happ hl4
        go_wp2
        go_roundw
        case rel => exact ⟨k + 1, _, by omega, by omega, by go_num, rfl, HFIN.out⟩
        case measure => simp [intOf]; omega
      · obtain rfl : k = S.length := by omega
        have hL0 : L'.length = 0 := by rw [h3.length_eq, List.length_drop]; omega
        have HPN := Lib.hid (qpop_none (some ⟨q, 0, none⟩) wr (.inr ⟨q, cap, some ⟨g, 0, none⟩, rfl, by have h9 := h1.1; rw [hL0] at h9; exact h9⟩))
        clear h1 h2 h3 h4 h5 h6
        go_wp2_with fail
        refine HPN.out.mono ?_
        rintro e w2 ⟨he, hb⟩
        unfold enV at he
        subst he
        have HF := Lib.hid (show DrainPost q v (min most.toNat S.length) S w (.returned (.slice A0 S.length c0)) (w2.alloc (.cells #[.int .u64 0, .int .u64 0, .int .i64 0] 29)) from by
          rw [show min most.toNat S.length = S.length by omega]
          exact HREL.out.finish (hb.alloc hb.size _) HV.out (by simp) (Nat.le_refl _))
        clear hb
        go_wp2
        go_ret
        exact HF.out
    · have hmk : min most.toNat S.length = k := by omega
      have HF := Lib.hid (show DrainPost q v (min most.toNat S.length) S w (.returned (.slice A0 k c0)) wr from by
        rw [hmk]
        exact HREL.out.finish (Below.refl _ _) HV.out HTL.out.symm hk)
      clear h1 h2 h3 h4 h5 h6 hmk
      go_wp2
      go_ret
      exact HF.out
theorem qdrain_any (q : Nat) (v : Value) (L S : List En) (most : Int) (w : World) (h : QQ w q v L) (hp : L.Perm S) (hs : Srt S) (hl : S.length ≤ 1000000) (hm : -9223372036854775808 ≤ most ∧ most ≤ 9223372036854775807) :
    Calls Try.prog 16 #[.pointer (some ⟨q, 0, none⟩), .int .i64 most] w fun e w' => DrainPost q v (min most.toNat S.length) S w e w' := by
  by_cases h0 : 0 < L.length
  · obtain ⟨g, cap, rfl, hg⟩ := h.row h0
    exact qdrain_some q g cap L S most w hg h.2.2 hp hs hl hm _ rfl
  · have hL : L = [] := List.eq_nil_of_length_eq_zero (by omega)
    subst hL
    have hS : S = [] := List.eq_nil_of_length_eq_zero (by rw [← hp.length_eq]; rfl)
    subst hS
    refine (qdrain_none _ most w h.none_ hm).mono fun e w' ⟨he, hb⟩ => ?_
    have e0 : min most.toNat ([] : List En).length = 0 := by simp
    rw [e0]
    exact ⟨none, 0, v, [], he, QOwn.nil_ _, fun i hi => by simp at hi, h.below hb, hp, rfl, Turned.of_below hb⟩
end Go.Proofs.Ytlohbmbahagjbaa
