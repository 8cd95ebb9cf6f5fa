/- policy: known, by contract. -/
import Derived.Test.YtileecbccmfpdaaGreatDoorPo16
import Derived.Test.YtileecbccmfpdaaGreatDoorPoV
namespace Go.Proofs.YtileecbccmfpdaaGreatDoor
set_option linter.unusedVariables false
set_option linter.unusedSimpArgs false
open Go.RowKit
def k1 : Bs := [99, 97, 112, 32, 114, 111, 108, 101, 32, 97, 110, 121, 32, 116, 105, 101, 114, 32, 48, 46, 46, 55, 32, 108, 97, 98, 101, 108, 32, 50, 32, 105, 110, 32, 97, 108, 108, 32, 122, 111, 111, 109, 32, 56, 32, 59]
def k2 : Bs := [114, 111, 108, 101, 32, 61, 32, 51, 59]
def k3 : Bs := [99, 97, 112, 32, 114, 111, 108, 101, 32, 97, 110, 121, 32, 116, 105, 101, 114, 32, 97, 110, 121, 32, 108, 97, 98, 101, 108, 32, 50, 32, 105, 110, 32, 97, 108, 108, 32, 122, 111, 111, 109, 32, 56, 59, 10]
def dK : Dc := (parseP k1).1.headD (Dc.z (0, 0))
def tK : List Tk := (tokF (formL dK ++ [mEnd])).getD []
def dK' : Dc := (allP tK).2.2.headD (Dc.z (0, 0))
theorem k1_is : parseP k1 = ([dK], none) := by kernel_rfl
theorem k2_is : parseP k2 = ([], some (31, (1, 6))) := by kernel_rfl
theorem k3_is : printL [dK] = k3 := by kernel_rfl
theorem dK_right : RightD dK := by
  refine ⟨⟨?_, ?_, ?_, ?_, ?_, ?_, ?_, ?_, ?_⟩, ?_, ?_, ?_, tK, (allP tK).2.1, dK', ?_, ?_, ?_, ?_, ?_⟩
  · rw [show dK.k = 5 by kernel_rfl]; unfold I64; omega
  · rw [show dK.n = 0 by kernel_rfl]; unfold I64; omega
  · rw [show dK.role.n = 0 by kernel_rfl]; unfold I64; omega
  · rw [show dK.lo = 0 by kernel_rfl]; unfold I64; omega
  · rw [show dK.hi = 7 by kernel_rfl]; unfold I64; omega
  · rw [show dK.label.n = 2 by kernel_rfl]; unfold I64; omega
  · rw [show dK.wh.n = 0 by kernel_rfl]; unfold I64; omega
  · rw [show dK.zoom = 8 by kernel_rfl]; unfold I64; omega
  · rw [show dK.bx = [] by kernel_rfl]; intro b hb; cases hb
  · rw [show dK.bx = [] by kernel_rfl]; simp
  · exact of_decide_eq_true (by kernel_rfl)
  · have h : (formL dK ++ [mEnd]).all (fun s => decide (s.length ≤ 50)) = true := by kernel_rfl
    intro s hs
    exact of_decide_eq_true (List.all_eq_true.1 h s hs)
  · kernel_rfl
  · exact of_decide_eq_true (by kernel_rfl)
  · kernel_rfl
  · kernel_rfl
  · kernel_rfl
theorem pfault_below (w : World) (c : Array Value) : Below w.heap.size w (w.alloc (.cells c 27)) := (Below.refl _ _).alloc (Nat.le_refl _) _
set_option maxRecDepth 100000 in
set_option maxHeartbeats 8000000 in
theorem pknown_any (w : World) (hV : Vs w) (hs : Hs w) : Calls Tryz.prog 13 #[] w fun e w' => e = .returned (.bool true) ∧ Below w.heap.size w w' := by
  have HVB := Lib.hid (show ∀ w', Below w.heap.size w w' → Vs w' from fun w' hb => hV.below hb)
  have HHB := Lib.hid (show ∀ w', Below w.heap.size w w' → Hs w' from fun w' hb => hs.low hb)
  have HP1 := Lib.hid (parse_any k1 w hV hs hs.lt (by decide))
  clear hV hs
  go_enter Tryz.func13, Tryz.ntmps13
  go_wp2_with fail
  refine HP1.out.mono ?_
  intro e w1 hq
  unfold ParseP at hq
  rw [k1_is] at hq
  obtain ⟨v1, rfl, hD, hb⟩ := hq
  obtain ⟨acc, hacc, hDR⟩ := hD.rd
  obtain ⟨A1, n1, rfl, _, _⟩ := id hDR.1
  have HDR := Lib.hid hDR
  have HAC := Lib.hid hacc
  have HB1 := Lib.hid hb
  clear hD hacc hDR hb HP1
  go_upto_region 2 with fail
  have HAL := Lib.hid (pfault_below w1 #[.int .i64 (flE none), .int .i64 (flP none).1, .int .i64 (flP none).2])
  have HF1 := Lib.hid (Blk.new w1 27 #[.int .i64 (flE none), .int .i64 (flP none).1, .int .i64 (flP none).2])
  have HB2 := Lib.hid (HB1.out.trans (HAL.out.mono HB1.out.size))
  have HD2 := Lib.hid (HDR.out.below HAL.out)
  clear HAL HDR HB1
  generalize hq1 : w1.heap.size = q1 at *
  generalize (w1.alloc (.cells #[.int .i64 (flE none), .int .i64 (flP none).1, .int .i64 (flP none).2] 27)) = W2 at *
  have HP2 := Lib.hid (parse_any k2 W2 (HVB.out _ HB2.out) (HHB.out _ HB2.out) (HHB.out _ HB2.out).lt (by decide))
  go_wp2_with fail
  refine HP2.out.mono ?_
  intro e w3 hq
  unfold ParseP at hq
  rw [k2_is] at hq
  obtain ⟨v3, rfl, hD3, hb⟩ := hq
  obtain ⟨acc3, _, hDR3⟩ := hD3.rd
  obtain ⟨A3, n3, rfl, _, _⟩ := id hDR3.1
  have HB3 := Lib.hid (HB2.out.trans (hb.mono HB2.out.size))
  have HD3 := Lib.hid (HD2.out.below hb)
  have HF3 := Lib.hid (Blk.thru0 HF1.out hb)
  clear hD3 hDR3 hb HP2 HD2 HF1 HB2
  go_upto_region 3 with fail
  have HAL := Lib.hid (pfault_below w3 #[.int .i64 (flE (some (31, (1, 6)))), .int .i64 (flP (some (31, (1, 6)))).1, .int .i64 (flP (some (31, (1, 6)))).2])
  have HG3 := Lib.hid (Blk.new w3 27 #[.int .i64 (flE (some (31, (1, 6)))), .int .i64 (flP (some (31, (1, 6)))).1, .int .i64 (flP (some (31, (1, 6)))).2])
  have HB4 := Lib.hid (HB3.out.trans (HAL.out.mono HB3.out.size))
  have HD4 := Lib.hid (HD3.out.below HAL.out)
  have HF4 := Lib.hid (Blk.thru0 HF3.out HAL.out)
  clear HAL HD3 HF3 HB3
  generalize hq3 : w3.heap.size = q3 at *
  generalize (w3.alloc (.cells #[.int .i64 (flE (some (31, (1, 6)))), .int .i64 (flP (some (31, (1, 6)))).1, .int .i64 (flP (some (31, (1, 6)))).2] 27)) = W4 at *
  have HPR := Lib.hid (prints_any W4 _ acc (HVB.out _ HB4.out) (HHB.out _ HB4.out) (HHB.out _ HB4.out).lt HD4.out (by have := congrArg List.length HAC.out; simp at this; omega) (fun x hx => by
    have h : x.1 ∈ acc.map (·.1) := List.mem_map_of_mem hx
    rw [HAC.out] at h
    rw [List.mem_singleton.1 h]
    exact dK_right))
  rw [HAC.out, k3_is] at HPR
  have f0 : W4.cell? ⟨q1, 0, none⟩ = some (.int .i64 0) := HF4.out.cell 0
  go_wp2_with fail
  refine HPR.out.mono ?_
  rintro e w5 ⟨rfl, hb⟩
  have HB5 := Lib.hid (HB4.out.trans (hb.mono HB4.out.size))
  have HG5 := Lib.hid (Blk.thru0 HG3.out hb)
  clear hb HPR HF4 HG3 HD4 f0
  have g0 : w5.cell? ⟨q3, 0, none⟩ = some (.int .i64 31) := HG5.out.cell 0
  have g1 : w5.cell? ⟨q3, 1, none⟩ = some (.int .i64 1) := HG5.out.cell 1
  have g2 : w5.cell? ⟨q3, 2, none⟩ = some (.int .i64 6) := HG5.out.cell 2
  have HKE : ((bs k3).toList == [99, 97, 112, 32, 114, 111, 108, 101, 32, 97, 110, 121, 32, 116, 105, 101, 114, 32, 97, 110, 121, 32, 108, 97, 98, 101, 108, 32, 50, 32, 105, 110, 32, 97, 108, 108, 32, 122, 111, 111, 109, 32, 56, 59, 10]) = true := by rw [ByteArray.toList_eq]; kernel_rfl
  go_wp2_with fail
  go_ret
  exact ⟨rfl, HB5.out⟩
end Go.Proofs.YtileecbccmfpdaaGreatDoor
