/- slices.Grow and Concat at bytes; frame.Frame. -/
import Derived.Test.YtmkehbmegimecaaFrameLook
import Derived.Test.YtmkehbmegimecaaPut
namespace Go.Proofs.Ytmkehbmegimecaa
set_option linter.unusedVariables false
set_option linter.unusedSimpArgs false
open Go.RowKit
def GrowPost (w : World) (e : Ending) (w' : World) : Prop := ∃ B c', e = .returned (.slice B 0 c') ∧ Wt w' B 0 c' [] ∧ Below w.heap.size w w' ∧ ∀ g, B.map (·.block) = some g → w.heap.size ≤ g
set_option maxHeartbeats 1000000 in
theorem grow_nil (n : Nat) (h1 : 1 ≤ n) (hn : n ≤ 65536) (w : World) : Calls Try.prog 32 #[.slice none 0 0, .int .i64 (n : Int)] w fun e w' => GrowPost w e w' := by
  have n0 : ¬ ((n : Int) < 0) := by omega
  have n1 : (0 : Int) < (n : Int) := by omega
  have n2 : 0 < n := by omega
  have eb : Try.t5.bytes = 1 := by kernel_rfl
  have hq : ¬ (281474976710656 < (n : Int) * (Try.t5.bytes : Int)) := by rw [eb]; omega
  have hq2 : ¬ (281474976710656 < Builtin.nextslicecap n 0 * Try.t5.bytes) := by rw [eb, nextslicecap_zero (by omega)]; omega
  clear eb
  go_enter Try.func32, Try.ntmps32
  go_wp2
  go_ret
  refine ⟨_, _, rfl, ⟨rfl, Nat.zero_le _, .inr ⟨w.heap.size, 0, _, rfl, (Blk.new _ _ _).drew, ?_, fun j u hu => by simp [bv] at hu⟩⟩, by go_grown, fun g hg => by simp at hg; omega⟩
  simp [Builtin.zeroCells]
  omega
theorem RB.later {w w' : World} {B : Option Addr} {m : Nat} {l : List UInt8} (h : RB w B m l) (hb : Below w.heap.size w w') : RB w' B m l := (Reads.below h hb).more hb.size
def ConcatPost (k : Nat) (l : List UInt8) (w : World) (e : Ending) (w' : World) : Prop := ∃ B c', e = .returned (.slice B k c') ∧ Wt w' B k c' l ∧ Below w.heap.size w w' ∧ ∀ g, B.map (·.block) = some g → w.heap.size ≤ g
set_option maxHeartbeats 2000000 in
theorem concat_two (g n m c d cc : Nat) (A B : Option Addr) (xs ys : List UInt8) (w : World) (h : Blk w g 28 #[.slice A n c, .slice B m d]) (hx : RB w A n xs) (hy : RB w B m ys) (h1 : 1 ≤ n) (hn : n ≤ 2048) (hm : m ≤ 2048) : Calls Try.prog 29 #[.slice (some ⟨g, 0, none⟩) 2 cc] w fun e w' => ConcatPost (n + m) (xs ++ ys) w e w' := by
  have k0 := h.cell 0
  have k1 := h.cell 1
  simp only [List.getElem?_toArray, List.getElem?_cons_zero, List.getElem?_cons_succ] at k0 k1
  have HX := Lib.hid hx; have HY := Lib.hid hy; have HB := Lib.hid h; clear hx hy h
  have hn2 : (n : Int) ≤ 2048 := by omega
  have hm2 : (m : Int) ≤ 2048 := by omega
  have hnm : (n : Int) + (m : Int) = ((n + m : Nat) : Int) := by omega
  have HNM := Lib.hid hnm; clear hnm
  go_enter Try.func29, Try.ntmps29
  go_wp2_with fail
  refine wp_loop_rounds 3 ?_
  rw [rounds_succ]
  go_wp2_with fail
  rw [rounds_succ]
  go_wp2_with fail
  rw [rounds_succ]
  go_wp2_with fail
  rw [HNM.out]
  refine (grow_nil (n + m) (by omega) (by omega) _).mono ?_
  rintro e w1 ⟨G, c1, rfl, ht, hb, hG⟩
  have q0 := (HB.out.below hb HB.out.lt).cell 0
  have q1 := (HB.out.below hb HB.out.lt).cell 1
  simp only [List.getElem?_toArray, List.getElem?_cons_zero, List.getElem?_cons_succ] at q0 q1
  have HX1 := Lib.hid (HX.out.later hb); have HT := Lib.hid ht; have HBW := Lib.hid hb; have HG := Lib.hid hG
  clear ht hb hG k0 k1
  go_wp2_with fail
  refine wp_loop_rounds 3 ?_
  rw [rounds_succ]
  go_wp2_with ((at_builtin; refine wpList_append_wt _ rfl (.tmp 31) (.tmp 32) rfl G A 0 c1 n c [] xs rfl rfl HT.out HX1.out (by omega) ?_; intro G2 c2 w2 ht2 hg2 hl2; have hb2 : Below w.heap.size w w2 := HBW.out.grown hg2 HBW.out.size (fun g hg => HG.out g hg); have HT2 := Lib.hid ht2; have HB2 := Lib.hid hb2; have HG2 := Lib.hid (show ∀ g, G2.map (·.block) = some g → w.heap.size ≤ g from fun g hg => (by rcases hl2 with h9 | h9 <;> rw [hg] at h9; exact HG.out g h9.symm; simp at h9; have h8 := HBW.out.size; omega)); clear ht2 hg2 hl2 hb2 q0 q1))
  rw [rounds_succ]
  have q1 := (HB.out.below HB2.out HB.out.lt).cell 1
  simp only [List.getElem?_toArray, List.getElem?_cons_zero, List.getElem?_cons_succ] at q1
  have HY2 := Lib.hid (HY.out.later HB2.out)
  go_wp2_with ((at_builtin; refine wpList_append_wt _ rfl (.tmp 31) (.tmp 32) rfl G2 B (0 + n) c2 m d ([] ++ xs) ys (by simp [Act.eval]) rfl HT2.out HY2.out (by omega) ?_; intro G3 c3 w3 ht3 hg3 hl3; have hb3 : Below w.heap.size w w3 := HB2.out.grown hg3 HB2.out.size (fun g hg => HG2.out g hg); have HT3 := Lib.hid ht3; have HB3 := Lib.hid hb3; have HG3 := Lib.hid (show ∀ g, G3.map (·.block) = some g → w.heap.size ≤ g from fun g hg => (by rcases hl3 with h9 | h9 <;> rw [hg] at h9; exact HG2.out g h9.symm; simp at h9; have h8 := HB2.out.size; omega)); clear ht3 hg3 hl3 hb3 q1))
  rw [rounds_succ]
  go_wp2
  go_ret
  exact ⟨G3, c3, by simp, by have h9 := HT3.out; simpa using h9, HB3.out, HG3.out⟩
end Go.Proofs.Ytmkehbmegimecaa
