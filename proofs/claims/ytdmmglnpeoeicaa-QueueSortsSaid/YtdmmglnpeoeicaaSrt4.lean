/- sort.Sort over the entries of a row: breakPatterns. -/
import Derived.Test.YtdmmglnpeoeicaaSrt3
import Derived.Test.YtdmmglnpeoeicaaShelf
import Derived.Laws.Bits64b
namespace Go.Proofs.Ytdmmglnpeoeicaa
set_option linter.unusedVariables false
set_option linter.unusedSimpArgs false
open Go.RowKit
/-- Beside the permuted row there is a random number in a box of its own. -/
def PB (w0 : World) (g cap a b : Nat) (d : Array En) (rb : Nat) (w : World) : Prop :=
  ∃ (dk : Array En) (X : Nat), Sort.PermIn a b d dk ∧ SA w0 g cap dk w ∧ w0.heap.size ≤ rb ∧ X < 18446744073709551616 ∧ Blk w rb 79 #[.int .u64 (X : Int)]
theorem xnext (rb X : Nat) (w : World) (h : Blk w rb 79 #[.int .u64 (X : Int)]) (hX : X < 18446744073709551616) :
    Calls Try.prog 44 #[.pointer (some ⟨rb, 0, none⟩)] w fun e w' => ∃ Y : Nat, Y < 18446744073709551616 ∧ e = .returned (.int .u64 (Y : Int)) ∧ w' = (w.setCell ⟨rb, 0, none⟩ (.int .u64 (Y : Int))).drewN 3 := by
  have hc := h.cell 0
  simp only [List.getElem?_toArray, List.getElem?_cons_zero] at hc
  exact (Try.xorshift_Next rb 0 X hX w hc (h.frozen 0)).mono fun e w' ⟨he, hw⟩ => ⟨_, Sort.xorNextN_lt X hX, he, hw⟩
theorem SA.drewN {w0 w : World} {g cap : Nat} {d : Array En} (h : SA w0 g cap d w) (q : Nat) : SA w0 g cap d (w.drewN q) := h.below (below_drawn (Below.refl _ _) q)
theorem sbrk_idx {a b L t : Nat} (hL : b - a = L) (h8 : 8 ≤ L) (ht : t < 3) : a ≤ a + L / 4 * 2 - 1 + t ∧ a + L / 4 * 2 - 1 + t < b := by omega
theorem blk_thru_swap {w0 w w' : World} {g cap rb : Nat} {t : TypeId} {cs : Array Value} (h : Blk w rb t cs) (hg : w.grownBy w' (some g)) (hne : g ≠ rb) : Blk w' rb t cs := (hg.block rb h.lt (fun e => by injection e with e; exact hne (by omega))).trans h
theorem sswap2 {w0 w : World} {g cap n : Nat} {d : Array En} (h : SA w0 g cap d w) (hs : d.size = n) {i j : Nat} {I J : Int} (hi : i < n) (hj : j < n) (hI : (i : Int) = I) (hJ : (j : Int) = J) :
    Calls Try.prog 66 #[.slice (some ⟨g, 0, none⟩) n cap, .int .i64 I, .int .i64 J] w fun e w' => e = .returned (.tuple #[]) ∧ SA w0 g cap (Sort.swp d i j) w' ∧ w.grownBy w' (some g) := by
  subst hs hI hJ
  have := eswap_any g cap i j d.toList w h.2.1 (by simpa using hi) (by simpa using hj)
  simp only [Array.length_toList] at this
  exact this.mono fun e w' ⟨he, hq, hg⟩ => ⟨he, ⟨h.1, by rw [← sw_swp]; exact hq, grown_trans' h.2.2 hg⟩, hg⟩
set_option maxHeartbeats 4000000 in
theorem sbrk_any (w0 : World) (g cap n a b : Nat) (d : Array En) (w : World) (h : SA w0 g cap d w) (hs : d.size = n) (hab : a + 12 < b) (hbn : b ≤ n) (hn : n ≤ 2305843009213693951) :
    Calls Try.prog 36 #[.iface 46 (.slice (some ⟨g, 0, none⟩) n cap), .int .i64 (a : Int), .int .i64 (b : Int)] w fun e w' => e = .returned (.tuple #[]) ∧ PR w0 g cap n a b d w' := by
  obtain ⟨L, hL⟩ : ∃ L : Nat, b - a = L := ⟨_, rfl⟩
  have e1 : (b : Int) - (a : Int) = (L : Int) := by omega
  have h12 : 12 < L := by omega
  have h8i : (8 : Int) ≤ (L : Int) := by omega
  have hLn : (L : Int) ≤ 2305843009213693951 := by omega
  have hbn9 : (b : Int) ≤ 2305843009213693951 := by omega
  have han9 : (a : Int) ≤ 2305843009213693951 := by omega
  have hNP := fun w => Try.nextPowerOfTwo L (by omega) w
  obtain ⟨M, hM⟩ : ∃ M : Nat, M = 1 <<< Sort.bitsLen L := ⟨_, rfl⟩
  have hM2 : M ≤ 2 * L := by rw [hM, Nat.one_shiftLeft]; exact Sort.two_pow_bitsLen_le (by omega)
  have hM1 : 1 ≤ M := by rw [hM, Nat.one_shiftLeft]; exact Nat.one_le_two_pow
  rw [← hM] at hNP
  clear hM
  have HNP := Lib.hid hNP; clear hNP
  have h0 : PB w0 g cap a b d w.heap.size (w.alloc (.cells #[.int .u64 (L : Int)] 79)) := ⟨d, L, Sort.permIn_refl d a b, h.below ((Below.refl _ _).alloc (Nat.le_refl _) _), h.size, by omega, Blk.new _ _ _⟩
  have H0 := Lib.hid h0
  have hg0 := h.1
  have hsz := h.size
  clear h h0
  have HL := Lib.hid hL; have HS := Lib.hid hs; clear hL hs
  have hab2 : b = a + L := by have := HL.out; omega
  have HAB := Lib.hid hab2; clear hab2
  have mS := meth_sswap
  go_enter Try.func36, Try.ntmps36
  go_wp2_with fail
  refine (HNP.out _).mono ?_
  rintro e w2 ⟨rfl, hw2⟩
  subst hw2
  generalize hrb : w.heap.size = rb at *
  generalize w.alloc (.cells #[.int .u64 (L : Int)] 79) = w2 at *
  clear hrb
  go_wp2
  go_loopw [9] (fun vi wr => ∃ t : Nat, vi = .int .i64 ((a : Int) + (L : Int) / 4 * 2 - 1 + (t : Int)) ∧ t ≤ 3 ∧ Hid (PB w0 g cap a b d rb wr)) (fun vi _ => ((a : Int) + (L : Int) / 4 * 2 + 2 - intOf vi).toNat)
  case atStart => exact ⟨0, by simp, by omega, H0⟩
  case round =>
    clear H0
    obtain ⟨t, rfl, ht, hrel⟩ := hrel
    by_cases ht3 : t < 3
    · have hle : (a : Int) + (L : Int) / 4 * 2 - 1 + (t : Int) ≤ (a : Int) + (L : Int) / 4 * 2 + 1 := by omega
      obtain ⟨dk, X, hp, hk, hrb, hX, hB⟩ := hrel.out
      have HN := Lib.hid (xnext rb X _ hB hX)
      have HP := Lib.hid hp; have HK := Lib.hid hk; have HB := Lib.hid hB
      have hne : g ≠ rb := by have := hk.1; omega
      clear hp hk hX hB hrel
      go_wp2_with fail
      refine HN.out.mono ?_
      rintro e w3 ⟨Y, hY, rfl, hw3⟩
      have hK3 : SA w0 g cap dk w3 := by rw [hw3]; exact (HK.out.set rb 0 _ hrb).drewN 3
      have hB3 : Blk w3 rb 79 #[.int .u64 (Y : Int)] := by rw [hw3]; exact HB.out.set1 _
      have HK3 := Lib.hid hK3; have HB3 := Lib.hid hB3
      clear hw3 hK3 hB3 HN HK HB
      obtain ⟨O, hO⟩ : ∃ O : Nat, O = Y &&& (M - 1) := ⟨_, rfl⟩
      have lO : O ≤ M - 1 := by rw [hO]; exact Nat.and_le_right
      have eAnd : bits .and .u64 (Y : Int) ((M : Int) - 1) = (O : Int) := by
        rw [show ((M : Int) - 1) = ((M - 1 : Nat) : Int) by omega, bits_and_u64_nat _ _ hY (by omega), hO]
      clear hO
      have hn3 := HP.out.1.trans HS.out
      have HN3 := Lib.hid hn3; clear hn3
      have hidx := sbrk_idx (t := t) HL.out (by omega) ht3
      have HIX := Lib.hid hidx; clear hidx
      by_cases hLO : L ≤ O
      · have hLOz : (L : Int) ≤ (O : Int) := by omega
        have HSW := Lib.hid (sswap2 HK3.out HN3.out (i := a + L / 4 * 2 - 1 + t) (j := a + (O - L)) (I := (a : Int) + (L : Int) / 4 * 2 - 1 + (t : Int)) (J := (a : Int) + ((O : Int) - (L : Int))) (by have := HIX.out; omega) (by have := HAB.out; omega) (by omega) (by omega))
        have HP2 := Lib.hid (Sort.permIn_trans d dk _ a b HP.out (Sort.swp_permIn dk a b (a + L / 4 * 2 - 1 + t) (a + (O - L)) HIX.out.1 HIX.out.2 (by omega) (by have := HAB.out; omega) (by rw [HN3.out]; exact hbn)))
        go_wp2_with fail
        refine HSW.out.mono ?_
        rintro e w4 ⟨rfl, hsa, hgr⟩
        have HF := Lib.hid (show PB w0 g cap a b d rb w4 from ⟨_, Y, HP2.out, hsa, hrb, hY, blk_thru_swap (w0 := w0) (cap := cap) HB3.out hgr hne⟩)
        clear hsa hgr
        go_wp2
        go_roundw
        case rel => exact ⟨t + 1, by congr 1; push_cast; omega, by omega, HF⟩
        case measure => simp [intOf]; omega
      · have hLOz : ¬ (L : Int) ≤ (O : Int) := by omega
        have HSW := Lib.hid (sswap2 HK3.out HN3.out (i := a + L / 4 * 2 - 1 + t) (j := a + O) (I := (a : Int) + (L : Int) / 4 * 2 - 1 + (t : Int)) (J := (a : Int) + (O : Int)) (by have := HIX.out; omega) (by have := HAB.out; omega) (by omega) (by omega))
        have HP2 := Lib.hid (Sort.permIn_trans d dk _ a b HP.out (Sort.swp_permIn dk a b (a + L / 4 * 2 - 1 + t) (a + O) HIX.out.1 HIX.out.2 (by omega) (by have := HAB.out; omega) (by rw [HN3.out]; exact hbn)))
        go_wp2_with fail
        refine HSW.out.mono ?_
        rintro e w4 ⟨rfl, hsa, hgr⟩
        have HF := Lib.hid (show PB w0 g cap a b d rb w4 from ⟨_, Y, HP2.out, hsa, hrb, hY, blk_thru_swap (w0 := w0) (cap := cap) HB3.out hgr hne⟩)
        clear hsa hgr
        go_wp2
        go_roundw
        case rel => exact ⟨t + 1, by congr 1; push_cast; omega, by omega, HF⟩
        case measure => simp [intOf]; omega
    · have hle : ¬ (a : Int) + (L : Int) / 4 * 2 - 1 + (t : Int) ≤ (a : Int) + (L : Int) / 4 * 2 + 1 := by omega
      have HE := Lib.hid (show PR w0 g cap n a b d _ from (fun ⟨dk, X, hp, hk, _⟩ => ⟨dk, hp, hk⟩) hrel.out)
      clear hrel
      go_wp2
      go_end0
      exact ⟨rfl, HE.out⟩
end Go.Proofs.Ytdmmglnpeoeicaa
