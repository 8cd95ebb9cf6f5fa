/- PolicyForms, the walk. -/
import Derived.Test.YtileecbccmfpdaaGreatDoorPf
import Derived.Test.YtileecbccmfpdaaGreatDoorPolicyJoinsWalk
namespace Go.Proofs.YtileecbccmfpdaaGreatDoor
set_option linter.unusedVariables false
set_option linter.unusedSimpArgs false
open Go.RowKit
set_option maxRecDepth 100000 in
set_option maxHeartbeats 8000000 in
theorem policyForms_walk (s : Bs) (w : World) (hV : Vs w) (hs : Hs w) (hl : s.length ≤ 140737488355328) : Calls Tryz.prog 6 #[.string (bs s)] w fun e w' => e = .returned (.bool true) ∧ Below w.heap.size w w' := by
  have HVB := Lib.hid (show ∀ w', Below w.heap.size w w' → Vs w' from fun w' hb => hV.below hb)
  have HHB := Lib.hid (show ∀ w', Below w.heap.size w w' → Hs w' from fun w' hb => hs.low hb)
  have HP := Lib.hid (parse_any s w hV hs hs.lt hl)
  have HKN := Lib.hid (show ∀ W, Below w.heap.size w W → Calls Tryz.prog 13 #[] W fun e w' => e = .returned (.bool true) ∧ Below w.heap.size w w' from fun W hb => (pknown_any W (hV.below hb) (hs.low hb)).mono fun e w' h => ⟨h.1, hb.trans (h.2.mono hb.size)⟩)
  have HNS := Lib.hid (fun f h => @parse_ne0 s f h)
  have HNN := Lib.hid (fun f h => @parse_none s f h)
  have HDV := Lib.hid (fun h => @parse_dv s h)
  have HSL := Lib.hid (parse_len s)
  clear hV hs hl
  unfold ParseP at HP
  generalize parseP s = R at *
  go_enter Tryz.func6, Tryz.ntmps6
  go_wp2_with fail
  refine HP.out.mono ?_
  rintro e w1 ⟨v1, rfl, hD1, hb1⟩
  obtain ⟨acc1, hacc1, hDR1⟩ := hD1.rd
  obtain ⟨A1, c1, rfl, -, -, -⟩ := id hDR1.1
  have ha1 := pfault_below w1 #[.int .i64 (flE R.2), .int .i64 (flP R.2).1, .int .i64 (flP R.2).2]
  have HB1 := Lib.hid (hb1.trans (ha1.mono hb1.size))
  have HD1 := Lib.hid (hDR1.below ha1)
  have HA1 := Lib.hid hacc1
  have HF1 := Lib.hid (Blk.new w1 27 #[.int .i64 (flE R.2), .int .i64 (flP R.2).1, .int .i64 (flP R.2).2])
  clear hD1 hDR1 hb1 ha1 HP hacc1
  go_upto_region 2 with fail
  generalize hq1 : w1.heap.size = q1 at *
  generalize (w1.alloc (.cells #[.int .i64 (flE R.2), .int .i64 (flP R.2).1, .int .i64 (flP R.2).2] 27)) = W1 at *
  clear hq1
  have f0 : W1.cell? ⟨q1, 0, none⟩ = some (.int .i64 (flE R.2)) := HF1.out.cell 0
  obtain ⟨ds, f⟩ := R
  simp only at *
  cases f with
  | some fs =>
    have hne : (flE (some fs) != 0) = true := by have := HNS.out fs rfl; simpa [flE] using this
    have h0 : acc1.length = 0 := by
      have h1 := congrArg List.length HA1.out
      rw [List.length_map, HNN.out fs rfl] at h1
      simpa using h1
    generalize flE (some fs) = fe at *
    rw [h0] at *
    clear HF1 HD1
    go_wp2_with fail
    refine (HKN.out _ HB1.out).mono ?_
    rintro e w6 ⟨rfl, hb6⟩
    go_wp2_with fail
    go_ret
    exact ⟨rfl, hb6⟩
  | none =>
    have HDN := Lib.hid (HDV.out rfl)
    have HRX := Lib.hid (show ∀ x ∈ acc1, RightD x.1 from fun x hx => by
      have h1 := HDN.out x.1 (by have := List.mem_map_of_mem (f := fun y : Dc × RV => y.1) hx; rw [HA1.out] at this; exact this)
      exact dv_right h1.1 (by have := h1.2; omega))
    have HAL := Lib.hid (show acc1.length ≤ 100000 by
      have h1 := congrArg List.length HA1.out
      rw [List.length_map] at h1
      rw [h1]; exact HSL.out)
    have HPR := Lib.hid (prints_any W1 _ acc1 (HVB.out _ HB1.out) (HHB.out _ HB1.out) (HHB.out _ HB1.out).lt HD1.out (by have := HAL.out; omega) HRX.out)
    have HTL := Lib.hid (printL_len ds (fun d hd => by rw [← HA1.out] at hd; obtain ⟨x, hx, rfl⟩ := List.mem_map.1 hd; exact HRX.out x hx))
    have HDS := Lib.hid HSL.out
    rw [HA1.out] at HPR
    have HBK := Lib.hid (print_back ds (fun d hd => (HDN.out d hd).1))
    have e0 : (flE none : Int) = 0 := rfl
    rw [e0] at f0
    clear e0 HNS HNN HDV
    go_wp2_with fail
    refine HPR.out.mono ?_
    rintro e w2 ⟨rfl, hb2⟩
    have HB2 := Lib.hid (HB1.out.trans (hb2.mono HB1.out.size))
    have HD2 := Lib.hid (HD1.out.below hb2)
    clear hb2 HPR HB1 HD1 HF1 f0
    obtain ⟨t, ht⟩ : ∃ t, printL ds = t := ⟨_, rfl⟩
    have HTT := Lib.hid ht
    rw [ht] at HTL HBK ⊢
    have HP := Lib.hid (parse_any t w2 (HVB.out _ HB2.out) (HHB.out _ HB2.out) (HHB.out _ HB2.out).lt (by
      have := HTL.out
      have := HDS.out
      omega))
    unfold ParseP at HP
    clear ht
    go_wp2_with fail
    refine HP.out.mono ?_
    rintro e w3 ⟨v3, rfl, hD3, hb3⟩
    obtain ⟨acc3, hacc3, hDR3⟩ := hD3.rd
    obtain ⟨A3, c3, rfl, -, -, -⟩ := id hDR3.1
    have ha3 := pfault_below w3 #[.int .i64 (flE (parseP t).2), .int .i64 (flP (parseP t).2).1, .int .i64 (flP (parseP t).2).2]
    have hbb := hb3.trans (ha3.mono hb3.size)
    have HB3 := Lib.hid (HB2.out.trans (hbb.mono HB2.out.size))
    have HD3 := Lib.hid (hDR3.below ha3)
    have HE3 := Lib.hid (HD2.out.below hbb)
    have HA3 := Lib.hid hacc3
    have HF3 := Lib.hid (Blk.new w3 27 #[.int .i64 (flE (parseP t).2), .int .i64 (flP (parseP t).2).1, .int .i64 (flP (parseP t).2).2])
    clear hD3 hDR3 hb3 ha3 hbb HP hacc3 HB2 HD2
    go_upto_region 6 with fail
    generalize hq3 : w3.heap.size = q3 at *
    generalize (w3.alloc (.cells #[.int .i64 (flE (parseP t).2), .int .i64 (flP (parseP t).2).1, .int .i64 (flP (parseP t).2).2] 27)) = W3 at *
    clear hq3
    have HR1 := Lib.hid (rights_any W3 _ acc1 (HVB.out _ HB3.out) (HHB.out _ HB3.out) (HHB.out _ HB3.out).lt HE3.out (by have := HAL.out; omega) HRX.out)
    have hsz : ((bs t).size : Int) = (t.length : Int) := by rw [bs_size]
    by_cases hlong : 512 < t.length
    · have hgt : (512 : Int) < (t.length : Int) := by omega
      go_wp2_with fail
      refine HR1.out.mono ?_
      rintro e w4 ⟨rfl, hb4⟩
      have HB4 := Lib.hid (HB3.out.trans (hb4.mono HB3.out.size))
      have HE4 := Lib.hid (HE3.out.below hb4)
      have HF4 := Lib.hid (Blk.thru0 HF3.out hb4)
      clear hb4 HR1 HE3 HF3 HB3
      have HR2 := Lib.hid (rights_any w4 _ acc1 (HVB.out _ HB4.out) (HHB.out _ HB4.out) (HHB.out _ HB4.out).lt HE4.out (by have := HAL.out; omega) HRX.out)
      go_wp2_with fail
      refine HR2.out.mono ?_
      rintro e w5 ⟨rfl, hb5⟩
      have HB5 := Lib.hid (HB4.out.trans (hb5.mono HB4.out.size))
      have HF5 := Lib.hid (Blk.thru0 HF4.out hb5)
      rw [parse_long hlong] at HF5
      have g0 : w5.cell? ⟨q3, 0, none⟩ = some (.int .i64 2) := HF5.out.cell 0
      clear hb5 HR2 HE4 HF4 HB4
      go_wp2_with fail
      refine (HKN.out _ HB5.out).mono ?_
      rintro e w6 ⟨rfl, hb6⟩
      go_wp2_with fail
      go_ret
      exact ⟨rfl, hb6⟩
    · have hgt : ¬ (512 : Int) < (t.length : Int) := by omega
      obtain ⟨ds2, hp2, hds⟩ := HBK.out (by omega)
      have HDV2 := Lib.hid (parse_dv (l := t) (by rw [hp2]))
      have HAL3 := Lib.hid (parse_len t)
      rw [hp2] at HA3 HF3 HDV2 HAL3
      have HRX3 := Lib.hid (show ∀ x ∈ acc3, RightD x.1 from fun x hx => by
        have h1 := HDV2.out x.1 (by have := List.mem_map_of_mem (f := fun y : Dc × RV => y.1) hx; rw [HA3.out] at this; exact this)
        exact dv_right h1.1 (by have := h1.2; omega))
      have HDS3 := Lib.hid hds
      have HPS := Lib.hid ((print_same hds).trans HTT.out)
      have hl13 : acc1.length = acc3.length := by
        have h1 := congrArg List.length HA1.out
        have h2 := congrArg List.length HA3.out
        rw [List.length_map] at h1 h2
        rw [h1, h2]; exact (hds.len).symm
      have HLL := Lib.hid hl13
      clear hp2 hds hl13
      go_wp2_with fail
      refine HR1.out.mono ?_
      rintro e w4 ⟨rfl, hb4⟩
      have HB4 := Lib.hid (HB3.out.trans (hb4.mono HB3.out.size))
      have HE4 := Lib.hid (HE3.out.below hb4)
      have HD4 := Lib.hid (HD3.out.below hb4)
      have HF4 := Lib.hid (Blk.thru0 HF3.out hb4)
      have g0 : w4.cell? ⟨q3, 0, none⟩ = some (.int .i64 0) := HF4.out.cell 0
      clear hb4 HR1 HE3 HF3 HB3 HD3
      have HSM := Lib.hid (rsameD_any w4 _ _ acc1 acc3 false HE4.out HD4.out (by have := HAL.out; omega) HLL.out (fun i x y hx hy => (HDS3.out.get i (by rw [← HA3.out, List.getElem?_map, hy]; rfl) (by rw [← HA1.out, List.getElem?_map, hx]; rfl)).symm))
      go_wp2_with fail
      refine HSM.out.mono ?_
      rintro e w5 ⟨rfl, hb5⟩
      have HB5 := Lib.hid (HB4.out.trans (hb5.mono HB4.out.size))
      have HD5 := Lib.hid (HD4.out.below hb5)
      clear hb5 HSM HE4 HF4 HB4 HD4 g0
      have HP2 := Lib.hid (prints_any w5 _ acc3 (HVB.out _ HB5.out) (HHB.out _ HB5.out) (HHB.out _ HB5.out).lt HD5.out (by have h2 := congrArg List.length HA3.out; rw [List.length_map] at h2; have := HAL3.out; omega) HRX3.out)
      rw [HA3.out, HPS.out] at HP2
      have e3 : ((bs t).toList == (bs t).toList) = true := by simp
      go_wp2_with fail
      refine HP2.out.mono ?_
      rintro e w6 ⟨rfl, hb6⟩
      have HB6 := Lib.hid (HB5.out.trans (hb6.mono HB5.out.size))
      clear hb6
      go_wp2_with fail
      refine (HKN.out _ HB6.out).mono ?_
      rintro e w7 ⟨rfl, hb7⟩
      go_wp2_with fail
      go_ret
      exact ⟨rfl, hb7⟩
end Go.Proofs.YtileecbccmfpdaaGreatDoor
