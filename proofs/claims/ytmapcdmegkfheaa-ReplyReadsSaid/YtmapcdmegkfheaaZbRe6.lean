/- reply: what must come of fixed calls. -/
import Derived.Test.YtmapcdmegkfheaaZbRe5
namespace Go.Proofs.Ytmapcdmegkfheaa
set_option linter.unusedVariables false
set_option linter.unusedSimpArgs false
open Go.RowKit
def bsF : Bs := [6, 12, 0, 0, 0, 0, 0, 0]
theorem made8 {w : World} {g : Nat} (h : w.ownsRow 0 5 1 (.slice (some ⟨g, 0, none⟩) 8 8) 8 (madeCells (Value.int .u8 0).cells (8 * 1)).toList) : Blk w g 5 #[.int .u8 0, .int .u8 0, .int .u8 0, .int .u8 0, .int .u8 0, .int .u8 0, .int .u8 0, .int .u8 0] := by
  rcases h.2 with ⟨h, _⟩ | ⟨g', cap, cur, hv, _, hb, _, _, hs, ht⟩
  · cases h
  · injection hv with e1 e2 e3
    injection e1 with e1
    injection e1 with e1
    subst e1
    subst e3
    have hc : cur = #[.int .u8 0, .int .u8 0, .int .u8 0, .int .u8 0, .int .u8 0, .int .u8 0, .int .u8 0, .int .u8 0] := by
      apply Array.ext'
      rw [List.take_of_length_le (by simp [hs])] at ht
      exact ht.trans (by kernel_rfl)
    rw [hc] at hb
    exact hb
def EncF (w : World) (e : Ending) (w' : World) : Prop := ∃ g, e = .returned (.tuple #[.slice (some ⟨g, 0, none⟩) 8 8, .int .i64 0]) ∧ Blk w' g 5 (bv bsF).toArray ∧ Below w.heap.size w w'
set_option maxRecDepth 100000 in
set_option maxHeartbeats 4000000 in
theorem encodeF_any (w : World) : Calls Try.prog 14 #[.int .i64 12, .int .i64 3, .agg #[.int .i64 6, .int .u64 0, .int .i64 0, .int .i64 0, .int .i64 0, .int .i64 0, .int .i64 0, .int .i64 0, .int .i64 0, .int .i64 0, .slice none 0 0, .slice none 0 0]] w fun e w' => EncF w e w' := by
  obtain ⟨W, hW⟩ : ∃ W, W = w.alloc (.cells #[.int .i64 6, .int .u64 0, .int .i64 0, .int .i64 0, .int .i64 0, .int .i64 0, .int .i64 0, .int .i64 0, .int .i64 0, .int .i64 0, .slice none 0 0, .slice none 0 0] 38) := ⟨_, rfl⟩
  have HBW := Lib.hid (show Below w.heap.size w W by rw [hW]; exact (Below.refl _ _).alloc (Nat.le_refl _) _)
  have HAW := Lib.hid (show Blk W w.heap.size 38 #[.int .i64 6, .int .u64 0, .int .i64 0, .int .i64 0, .int .i64 0, .int .i64 0, .int .i64 0, .int .i64 0, .int .i64 0, .int .i64 0, .slice none 0 0, .slice none 0 0] by rw [hW]; exact Blk.new _ _ _)
  have HT := Lib.hid (rthere_any 12 W)
  rw [show opB 12 = true from rfl] at HT
  have HL := Lib.hid (fun w => length_any 12 3 w)
  rw [show lenN 12 3 = 8 from rfl] at HL
  have hWs := hW.symm
  clear hW
  go_enter Try.func14, Try.ntmps14
  go_wp2_with fail
  refine HT.out.mono ?_
  rintro e w0 ⟨rfl, hw0⟩
  subst hw0
  clear hWs HT
  have k0 := HAW.out.cell 0
  have k1 := HAW.out.cell 1
  have k2 := HAW.out.cell 2
  have k3 := HAW.out.cell 3
  have k4 := HAW.out.cell 4
  have k5 := HAW.out.cell 5
  have k6 := HAW.out.cell 6
  have k7 := HAW.out.cell 7
  have k8 := HAW.out.cell 8
  have k9 := HAW.out.cell 9
  have k10 := HAW.out.cell 10
  have k11 := HAW.out.cell 11
  simp only [List.getElem?_toArray, List.getElem?_cons_zero, List.getElem?_cons_succ] at k0 k1 k2 k3 k4 k5 k6 k7 k8 k9 k10 k11
  go_wp2_with fail
  refine (fitsF_any _).mono ?_
  rintro e w1 ⟨rfl, hb1⟩
  have HB1 := Lib.hid hb1
  clear k0 k1 k2 k3 k4 k5 k6 k7 k8 k9 k10 k11 hb1
  go_wp2_with fail
  refine (HL.out _).mono ?_
  rintro e w2 ⟨rfl, hw2⟩
  subst hw2
  obtain ⟨i0, hi0, hz0, hsz0, hby0⟩ := info_parts elB_ok.info
  go_wp2_with ((refine wpList_make_full w1 rfl _ _ _ rfl 0 5 i0 (.int .u8 0) 1 (by kernel_rfl) hi0 hz0 hsz0 .i64 .i64 8 8 8 rfl rfl rfl rfl (by rw [hby0]; decide) (by decide) (Nat.zero_le _) ?_; intro X hO hG; have HBX := Lib.hid ((Below.refl w1.heap.size w1).grown hG (Nat.le_refl _) (fun i hi => by cases hi)); have HZX := Lib.hid (made8 hO); clear hO hG; have HAX := Lib.hid ((HAW.out.thru0 HB1.out).thru0 HBX.out); have k0 := HAX.out.cell 0; have k1 := HAX.out.cell 1; have k2 := HAX.out.cell 2; have k3 := HAX.out.cell 3; have k4 := HAX.out.cell 4; have k5 := HAX.out.cell 5; have k6 := HAX.out.cell 6; have k7 := HAX.out.cell 7; have k8 := HAX.out.cell 8; have k9 := HAX.out.cell 9; have k10 := HAX.out.cell 10; have k11 := HAX.out.cell 11; simp only [List.getElem?_toArray, List.getElem?_cons_zero, List.getElem?_cons_succ] at k0 k1 k2 k3 k4 k5 k6 k7 k8 k9 k10 k11))
  refine (writeF_any _).mono ?_
  rintro e w3 ⟨v3, rfl, hf3⟩
  obtain ⟨A3, c3, hv3, _, _⟩ := hf3.own.slice
  have hx3 : v3 = .slice A3 8 c3 := hv3
  clear hv3
  subst hx3
  have HF3 := Lib.hid hf3
  have HZ3 := Lib.hid (HZX.out.thru0 hf3.bel)
  have HB3 := Lib.hid (below_trans (below_trans HB1.out HBX.out) hf3.bel)
  have HRD := Lib.hid (EOwn.reads (M := bsF) elB_ok hf3.own)
  clear hf3 k0 k1 k2 k3 k4 k5 k6 k7 k8 k9 k10 k11
  go_wp2_with ((with_reducible refine wpList_copy_splice rfl (.tmp 21) (.tmp 24) _ _ rfl 5 ?hu ?hs (some ⟨w1.heap.size, 0, none⟩) A3 8 8 8 c3 ?hd ?hx w1.heap.size 0 [.int .u8 0, .int .u8 0, .int .u8 0, .int .u8 0, .int .u8 0, .int .u8 0, .int .u8 0, .int .u8 0] 5 ?hg (bv bsF) ?hn ?hp ?hf ?h1 W.heap.size W HB3.out ?hb ?_))
  case hu => kernel_rfl
  case hs => kernel_rfl
  case hd => rfl
  case hx => rfl
  case hg => exact HZ3.out
  case hn => rfl
  case hp =>
    intro _
    obtain ⟨ad, e, _, hc⟩ := HRD.out.2 (by decide)
    have hc2 : ∀ (j : Nat) (v : Value), (bv bsF)[j]? = some v → w3.cell? (ad.add j) = some v := fun j v hv => hc j v (by rw [rbv_encs]; exact hv)
    first | exact ⟨rfl, ad, e, hc2⟩ | exact ⟨ad, e, hc2⟩
  case hf => decide
  case h1 => exact bv_one _
  case hb => exact HB1.out.size
  intro w4 hg4 hb4
  have HG4 := Lib.hid hg4.out
  have HB4 := Lib.hid (below_trans HBW.out hb4)
  clear hg4 hb4
  go_wp2_with fail
  go_ret2
  exact ⟨_, rfl, HG4.out, HB4.out⟩
set_option maxRecDepth 100000 in
set_option maxHeartbeats 4000000 in
theorem rknown_any (w : World) : Calls Try.prog 13 #[] w fun e w' => e = .returned (.bool true) ∧ Below w.heap.size w w' := by
  have HE := Lib.hid (encodeF_any w)
  have HL := Lib.hid (fun w => length_any 13 2 w)
  rw [show lenN 13 2 = 25 from rfl] at HL
  have HFA := Lib.hid (fun w => fault_any 1 w)
  rw [show ([UInt8.ofNat (stN 1), 0, 0] : Bs) = [1, 0, 0] from rfl] at HFA
  go_enter Try.func13, Try.ntmps13
  go_wp2_with fail
  refine HE.out.mono ?_
  rintro e w1 ⟨g, rfl, hg1, hb1⟩
  have HG1 := Lib.hid hg1
  have HB1 := Lib.hid hb1
  clear hg1 hb1 HE
  go_wp2_with fail
  refine (HL.out _).mono ?_
  rintro e w2 ⟨rfl, hw2⟩
  subst hw2
  obtain ⟨X, hX⟩ : ∃ X, X = w1.alloc (.cells #[.int .u8 6, .int .u8 12, .int .u8 0, .int .u8 0, .int .u8 0, .int .u8 0, .int .u8 0, .int .u8 0] 5) := ⟨_, rfl⟩
  have HBX := Lib.hid (show Below w1.heap.size w1 X by rw [hX]; exact (Below.refl _ _).alloc (Nat.le_refl _) _)
  have HXX := Lib.hid (show Blk X w1.heap.size 5 (bv bsF).toArray by rw [hX]; exact Blk.new _ _ _)
  have HS := Lib.hid (same_any _ _ 8 8 8 8 bsF bsF X (RB_of_row (off := 0) (HG1.out.thru0 HBX.out) (by rfl)) (RB_of_row (off := 0) HXX.out (by rfl)) (by decide) (by decide))
  rw [decide_eq_true rfl] at HS
  have hXs := hX.symm
  clear hX
  go_wp2_with fail
  refine HS.out.mono ?_
  rintro e w3 ⟨rfl, q, hw3⟩
  have HB3 := Lib.hid (show Below w1.heap.size w1 w3 by rw [hw3]; exact below_drawn HBX.out q)
  clear hw3 hXs HS HBX HXX
  go_wp2_with fail
  refine (HFA.out _).mono ?_
  rintro e w4 ⟨v4, rfl, hf4⟩
  obtain ⟨A4, c4, hv4, _, _⟩ := hf4.own.slice
  have hx4 : v4 = .slice A4 3 c4 := hv4
  clear hv4
  subst hx4
  have HF4 := Lib.hid hf4
  have HB4 := Lib.hid (below_trans (below_trans HB1.out HB3.out) hf4.bel)
  clear hf4
  obtain ⟨Y, hY⟩ : ∃ Y, Y = w4.alloc (.cells #[.int .u8 1, .int .u8 0, .int .u8 0] 5) := ⟨_, rfl⟩
  have HBY := Lib.hid (show Below w4.heap.size w4 Y by rw [hY]; exact (Below.refl _ _).alloc (Nat.le_refl _) _)
  have HYY := Lib.hid (show Blk Y w4.heap.size 5 (bv [1, 0, 0]).toArray by rw [hY]; exact Blk.new _ _ _)
  have HS2 := Lib.hid (same_any A4 _ 3 3 c4 3 [1, 0, 0] [1, 0, 0] Y (by have := EOwn.reads (M := [1, 0, 0]) elB_ok (HF4.out.below HBY.out).own; rw [rbv_encs] at this; exact this) (RB_of_row (off := 0) HYY.out (by rfl)) (by decide) (by decide))
  rw [decide_eq_true rfl] at HS2
  have hYs := hY.symm
  clear hY
  go_wp2_with fail
  refine HS2.out.mono ?_
  rintro e w5 ⟨rfl, q2, hw5⟩
  have HB5 := Lib.hid (show Below w4.heap.size w4 w5 by rw [hw5]; exact below_drawn HBY.out q2)
  clear hw5 hYs HS2 HBY HYY
  go_wp2_with fail
  go_ret
  exact ⟨rfl, below_trans HB4.out HB5.out⟩
end Go.Proofs.Ytmapcdmegkfheaa
