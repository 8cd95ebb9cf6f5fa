/- The document's bytes joined, and its frame, by contract. -/
import Derived.Test.YtmkehbmegimecaaFrameKnown
namespace Go.Proofs.Ytmkehbmegimecaa
set_option linter.unusedVariables false
set_option linter.unusedSimpArgs false
open Go.RowKit
theorem RB_one (w : World) (t : TypeId) (a : UInt8) : RB (w.alloc (.cells #[.int .u8 (a.toNat : Int)] t)) (some ⟨w.heap.size, 0, none⟩) 1 [a] := RB_new w t [a]
theorem RB_pair (w : World) (t : TypeId) (a b : UInt8) : RB (w.alloc (.cells #[.int .u8 (a.toNat : Int), .int .u8 (b.toNat : Int)] t)) (some ⟨w.heap.size, 0, none⟩) 2 [a, b] := RB_new w t [a, b]
/-- A row of the call's own that grows: n bytes so far. -/
def Grows (w : World) (v : Value) (n : Nat) (l : List UInt8) (wr : World) : Prop := ∃ G c', v = .slice G n c' ∧ Wt wr G n c' l ∧ Below w.heap.size w wr ∧ ∀ g, G.map (·.block) = some g → w.heap.size ≤ g
theorem Grows.nil_ (w wr : World) (h : Below w.heap.size w wr) : Grows w (.slice none 0 0) 0 [] wr := ⟨none, 0, rfl, Wt.nil_ _, h, fun g hg => by simp at hg⟩
theorem Grows.more {w wr w2 : World} {G G2 : Option Addr} {n c2 : Nat} {l : List UInt8} {o : Obj} (hb : Below w.heap.size w wr) (hG : ∀ g, G.map (·.block) = some g → w.heap.size ≤ g) (ht : Wt w2 G2 n c2 l) (hg : (wr.alloc o).grownBy w2 (G.map (·.block)))
    (hl : G2.map (·.block) = G.map (·.block) ∨ G2.map (·.block) = some (wr.alloc o).heap.size) : Grows w (.slice G2 n c2) n l w2 := by
  have hs := hb.size
  refine ⟨G2, c2, rfl, ht, (hb.alloc hs o).grown hg (by simp; omega) (fun g hg' => hG g hg'), fun g hg' => ?_⟩
  rcases hl with h | h <;> rw [hg'] at h
  · exact hG g h.symm
  · simp at h; omega
def JoinPost (k : Nat) (l : List UInt8) (w : World) (e : Ending) (w' : World) : Prop := ∃ v, e = .returned v ∧ Grows w v k l w'
set_option maxHeartbeats 2000000 in
theorem join_any (A B : Option Addr) (n c m d : Nat) (xs ys : List UInt8) (w : World) (hx : RB w A n xs) (hy : RB w B m ys) (hn : n ≤ 65536) (hm : m ≤ 65536) : Calls Try.prog 24 #[.slice A n c, .slice B m d] w fun e w' => JoinPost (n + m) (xs ++ ys) w e w' := by
  have HX := Lib.hid hx; have HY := Lib.hid hy; clear hx hy
  have hn2 : (n : Int) ≤ 65536 := by omega
  have hm2 : (m : Int) ≤ 65536 := by omega
  go_enter Try.func24, Try.ntmps24
  go_wp2
  have START : Grows w (.slice none 0 0) 0 [] w := Grows.nil_ w w (Below.refl _ _)
  go_loopw [5, 6] (fun v i wr => ∃ j : Nat, j ≤ n ∧ i = .int .i64 j ∧ Grows w v (j) (xs.take j) wr) (fun _ i _ => n - (intOf i).toNat)
  case atStart => exact ⟨0, Nat.zero_le _, rfl, by simpa using START⟩
  case round =>
    obtain ⟨j, hk, rfl, G, c1, rfl, ht, hb, hG⟩ := hrel
    by_cases hlt : j < n
    · have hrk := HX.out.later hb
      obtain ⟨ad, rfl, had, hcell⟩ := hrk.at j hlt
      have hlen := HX.out.len
      have hkl : j < xs.length := by omega
      have htk := Lib.hid (show xs.take (j + 1) = xs.take j ++ [xs[j]] from List.take_succ_eq_append_getElem hkl)
      generalize xs[j] = x at hcell htk
      have hki : (j : Int) < (n : Int) := by omega
      have HT := Lib.hid ht; have HB := Lib.hid hb; have HG := Lib.hid hG
      clear ht hb hG hrk hlen
      go_wp2_with ((at_builtin; refine wpList_append_wt _ rfl (.tmp 14) (.tmp 19) rfl G (some ⟨wr.heap.size, 0, none⟩) (j) c1 1 1 (xs.take j) [x] rfl rfl (HT.out.alloc _) (RB_one _ _ x) (by omega) ?_; intro G2 c2 w2 ht2 hg2 hl2; have HN := Lib.hid (Grows.more HB.out HG.out ht2 hg2 hl2); clear ht2 hg2 hl2))
      go_roundw
      case rel => exact ⟨j + 1, by omega, by go_num, by have h9 := HN.out; rw [← htk.out] at h9; exact h9⟩
      case measure => simp [intOf]; omega
    · obtain rfl : j = n := by omega
      have hxl := HX.out.len
      have HK := Lib.hid (show Grows w (.slice G j c1) j xs wr by rw [List.take_of_length_le (by omega)] at ht; exact ⟨G, c1, rfl, ht, hb, hG⟩)
      clear ht hb hG hxl
      go_wp2
      have START2 := HK.out
      go_loopw [5, 7] (fun v i wr => ∃ k : Nat, k ≤ m ∧ i = .int .i64 k ∧ Grows w v (j + k) (xs ++ ys.take k) wr) (fun _ i _ => m - (intOf i).toNat)
      case atStart => exact ⟨0, Nat.zero_le _, rfl, by simpa using START2⟩
      case round =>
        obtain ⟨k, hk, rfl, G, c1, rfl, ht, hb, hG⟩ := hrel
        by_cases hlt : k < m
        · have hrk := HY.out.later hb
          obtain ⟨ad, rfl, had, hcell⟩ := hrk.at k hlt
          have hlen := HY.out.len
          have hkl : k < ys.length := by omega
          have htk := Lib.hid (show ys.take (k + 1) = ys.take k ++ [ys[k]] from List.take_succ_eq_append_getElem hkl)
          generalize ys[k] = x at hcell htk
          have hki : (k : Int) < (m : Int) := by omega
          have HT := Lib.hid ht; have HB := Lib.hid hb; have HG := Lib.hid hG
          clear ht hb hG hrk hlen
          go_wp2_with ((at_builtin; refine wpList_append_wt _ rfl (.tmp 27) (.tmp 32) rfl G (some ⟨wr.heap.size, 0, none⟩) (j + k) c1 1 1 (xs ++ ys.take k) [x] rfl rfl (HT.out.alloc _) (RB_one _ _ x) (by omega) ?_; intro G2 c2 w2 ht2 hg2 hl2; have HN := Lib.hid (Grows.more HB.out HG.out ht2 hg2 hl2); clear ht2 hg2 hl2))
          go_roundw
          case rel => exact ⟨k + 1, by omega, by go_num, by have h9 := HN.out; rw [List.append_assoc, ← htk.out] at h9; exact h9⟩
          case measure => simp [intOf]; omega
        · obtain rfl : k = m := by omega
          have hyl := HY.out.len
          have HZ := Lib.hid (show Grows w (.slice G (j + k) c1) (j + k) (xs ++ ys) wr by rw [List.take_of_length_le (by omega)] at ht; exact ⟨G, c1, rfl, ht, hb, hG⟩)
          clear ht hb hG hyl
          go_wp2
          go_ret
          exact ⟨_, rfl, HZ.out⟩
end Go.Proofs.Ytmkehbmegimecaa
