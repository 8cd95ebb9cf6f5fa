/- What must come of fixed calls (layer frame). -/
import Derived.Test.YtmkehbmegimecaaFrameNx
import Derived.Test.YtmkehbmegimecaaSame
namespace Go.Proofs.Ytmkehbmegimecaa
set_option linter.unusedVariables false
set_option linter.unusedSimpArgs false
open Go.RowKit
theorem RB_new (w : World) (t : TypeId) (l : List UInt8) : RB (w.alloc (.cells (bv l).toArray t)) (some ⟨w.heap.size, 0, none⟩) l.length l := by
  refine ⟨by simp [bv_length], fun _ => ⟨_, rfl, by simp, fun j u hu => ?_⟩⟩
  rw [add_mid, (Blk.new w t _).cell, Nat.zero_add]
  simpa using hu
theorem rb7 (w : World) (t : TypeId) : RB (w.alloc (.cells #[.int .u8 7] t)) (some ⟨w.heap.size, 0, none⟩) 1 [7] := RB_new w t [7]
theorem rb0 (w : World) (t : TypeId) : RB (w.alloc (.cells #[.int .u8 0] t)) (some ⟨w.heap.size, 0, none⟩) 1 [0] := RB_new w t [0]
theorem rb017 (w : World) (t : TypeId) : RB (w.alloc (.cells #[.int .u8 0, .int .u8 1, .int .u8 7] t)) (some ⟨w.heap.size, 0, none⟩) 3 [0, 1, 7] := RB_new w t [0, 1, 7]
theorem rb170 (w : World) (t : TypeId) : RB (w.alloc (.cells #[.int .u8 1, .int .u8 7, .int .u8 0] t)) (some ⟨w.heap.size, 0, none⟩) 3 [1, 7, 0] := RB_new w t [1, 7, 0]
/-- A buffer that the law made: its block and its bytes lie at b or beyond. -/
theorem fed_below {p : Nat} {A : Option Addr} {w0 w w' : World} (h : Below w0.heap.size w0 w) (hf : Fed p A w w') (hp : w0.heap.size ≤ p) (hA : ∀ g, A.map (·.block) = some g → w0.heap.size ≤ g) : Below w0.heap.size w0 w' :=
  ⟨hf.1.trans h.os, hf.2.1.trans h.tape, hf.2.2.1.trans h.output, Nat.le_trans h.size hf.2.2.2.1, fun i hi => (hf.2.2.2.2 i (Nat.lt_of_lt_of_le hi h.size) (by omega) (fun e => by have := hA _ e; omega)).trans (h.block i hi)⟩
set_option maxHeartbeats 2000000 in
theorem known_any (w : World) : Calls Try.prog 9 #[] w fun e w' => e = .returned (.bool true) ∧ Below w.heap.size w w' := by
  go_enter Try.func9, Try.ntmps9
  go_wp2_with fail
  refine (frame_yes 1 _ _ [7] _ (rb7 _ _) (by omega)).mono ?_
  rintro e w1 ⟨F, c1, rfl, hF, hb, hFg⟩
  have hB : Below w.heap.size w w1 := below_trans (by go_grown) hb
  clear hb
  go_wp2_with fail
  refine (new_yes 602 (by omega) (by omega) w1).mono ?_
  rintro e w2 ⟨rfl, hw2⟩
  have hp : Blk w2 w1.heap.size 58 #[.int .i64 602, .slice none 0 0, .int .i64 0] := by rw [← hw2]; exact Blk.new _ _ _
  have hF2 : RB w2 F 3 (be 2 1 ++ [7]) := by rw [← hw2]; exact (hF.alloc _).rb
  have hB2 : Below w.heap.size w w2 := by rw [← hw2]; have := hB.size; go_grown
  have hp0 : w.heap.size ≤ w1.heap.size := hB.size
  generalize w1.heap.size = p at *
  clear hw2 hB hF hFg
  have HF := Lib.hid hF2; have HP := Lib.hid hp; clear hF2 hp
  go_wp2_with fail
  refine (same_any F _ 3 3 _ _ (be 2 1 ++ [7]) [0, 1, 7] _ (HF.out.later ((Below.refl _ _).alloc (Nat.le_refl _) _)) (rb017 _ _) (by decide) (by decide)).mono ?_
  rintro e w3 ⟨rfl, q, hw3⟩
  rw [show decide (be 2 1 ++ [7] = ([0, 1, 7] : List UInt8)) = true by decide +kernel]
  have hp3 : Blk w3 p 58 #[.int .i64 602, .slice none 0 0, .int .i64 0] := by rw [hw3]; exact (HP.out.alloc _).drewN q
  have hB3 : Below w.heap.size w w3 := by rw [hw3]; have := hB2.size; exact below_drawn (by go_grown) q
  clear hw3 HP HF hB2
  have HP := Lib.hid hp3
  go_wp2_with fail
  refine (feed_yes p 0 0 1 1 0 0 none (some ⟨w3.heap.size, 0, none⟩) 602 [] [0] _ (hp3.alloc _) (Wt.nil_ _) (rb0 _ _) (by omega) (by omega) (by omega) (by omega) (by omega) (by omega) (fun _ => by have := hp3.lt; simp; omega) (by omega)).mono ?_
  rintro e w4 ⟨A4, c4, rfl, hp4, ht4, hf4, hl4⟩
  have hB4 : Below w.heap.size w w4 := fed_below (by have := hB3.size; go_grown) hf4 hp0 (fun g hg => by simp at hg)
  have hA4 : ∀ g, A4.map (·.block) = some g → w.heap.size ≤ g := fun g hg => by
    have h9 := hB3.size
    rcases hl4 with h | h <;> rw [hg] at h
    · simp at h
    · simp at h; omega
  clear hf4 hl4 hp3 hB3 HP
  have HA4 := Lib.hid hA4; have HT4 := Lib.hid ht4; clear hA4 ht4
  go_wp2_with fail
  refine (feed_yes p 1 c4 3 3 0 0 A4 (some ⟨w4.heap.size, 0, none⟩) 602 [0] [1, 7, 0] _ (hp4.alloc _) (HT4.out.alloc _) (rb170 _ _) (by omega) (by omega) (by omega) (by omega) (by omega) (by omega) (fun _ => by have := hp4.lt; simp; omega) (by omega)).mono ?_
  rintro e w5 ⟨A5, c5, rfl, hp5, ht5, hf5, hl5⟩
  have hB5 : Below w.heap.size w w5 := fed_below (by have := hB4.size; go_grown) hf5 hp0 HA4.out
  have hA5 : ∀ g, A5.map (·.block) = some g → w.heap.size ≤ g := fun g hg => by
    have h9 := hB4.size
    rcases hl5 with h | h <;> rw [hg] at h
    · exact HA4.out g h.symm
    · simp at h; omega
  clear hf5 hl5 hp4 hB4 HA4 HT4
  have HT5 := Lib.hid (show Wt w5 A5 4 c5 [0, 1, 7, 0] from ht5); clear ht5
  go_wp2_with fail
  refine (next_whole p 4 c5 A5 602 0 [0, 1, 7, 0] w5 hp5 HT5.out (by omega) (by omega) (by decide +kernel) (by decide +kernel)).mono ?_
  rintro e w6 ⟨A6, c6, X, cx, rfl, hp6, ht6, hx6, hf6, hl6, hxg⟩
  have hB6 : Below w.heap.size w w6 := fed_below hB5 hf6 hp0 (fun g hg => by simp at hg)
  have hd : hdr [0, 1, 7, 0] = 1 := by decide +kernel
  rw [hd] at hp6 ht6 hx6 ⊢
  have hx7 : RB w6 X 1 [7] := hx6.rb
  have hp7 : Blk w6 p 58 #[.int .i64 602, .slice A6 1 c6, .int .i64 0] := hp6
  have HT6 := Lib.hid (show Wt w6 A6 1 c6 [0] from ht6)
  have HX := Lib.hid hx7
  clear hf6 hl6 hxg hp5 hB5 HT5 ht6 hx6 hx7 hp6 hd hA5
  go_wp2_with fail
  refine (next_few p 1 c6 A6 602 0 [0] w6 hp7 HT6.out (by omega) (by omega)).mono ?_
  rintro e w7 ⟨rfl, hw7⟩
  subst hw7
  go_wp2_with fail
  refine (same_any X _ 1 1 _ _ [7] [7] _ (HX.out.later ((Below.refl _ _).alloc (Nat.le_refl _) _)) (rb7 _ _) (by decide) (by decide)).mono ?_
  rintro e w8 ⟨rfl, q8, hw8⟩
  have hp8 : Blk w8 p 58 #[.int .i64 602, .slice A6 1 c6, .int .i64 0] := by rw [hw8]; exact (hp7.alloc _).drewN q8
  have hB8 : Below w.heap.size w w8 := by rw [hw8]; have := hB6.size; exact below_drawn (by go_grown) q8
  clear hw8
  rw [show decide (([7] : List UInt8) = [7]) = true by decide +kernel]
  go_wp2_with fail
  refine (waiting_any p 1 c6 A6 602 0 _ hp8).mono ?_
  rintro e w9 ⟨rfl, hw9⟩
  subst hw9
  go_wp2
  go_ret
  exact ⟨rfl, hB8⟩
end Go.Proofs.Ytmkehbmegimecaa
