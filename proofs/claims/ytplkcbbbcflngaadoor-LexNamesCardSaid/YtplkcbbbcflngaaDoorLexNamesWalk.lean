/- LexNames, the walk. -/
import Derived.Test.YtplkcbbbcflngaaDoorLr5
namespace Go.Proofs.YtplkcbbbcflngaaDoor
set_option linter.unusedVariables false
set_option linter.unusedSimpArgs false
open Go.RowKit
set_option maxRecDepth 100000 in
set_option maxHeartbeats 4000000 in
theorem lexNames_walk (l : Bs) (w : World) (hV : Vs w) (hl : l.length ≤ 9223372036854775807) : Calls Tryd.prog 7 #[.string (bs l)] w fun e w' => e = .returned (.bool true) ∧ Below w.heap.size w w' := by
  have HV := Lib.hid hV
  have HWD := Lib.hid (fun W hW => word_any (bs l) W hW)
  have HRW := Lib.hid (fun W => rword_any (bs l) W)
  have HNM := Lib.hid (fun W hW => name2_any l W hW hl)
  have HRN := Lib.hid (fun W => rname_any l W hl)
  have HTK := Lib.hid (fun W hW => tokens_any l W hW hl)
  have HWT := Lib.hid (word_tok l)
  have HNE := Lib.hid (show nmc l = (match (toks l).1 with
    | [x] => x.k == 1 && decide (x.t = l)
    | _ => false) from rfl)
  have HFN := Lib.hid (fun f h => @fl_ne l f h)
  have HSH := Lib.hid (toks_shape l)
  rw [← nmc_rnm] at HRN
  unfold TokensP at HTK
  clear hV
  generalize toks l = R at *
  generalize wordB (bs l) = wb at *
  generalize nmc l = nm at *
  go_enter Tryd.func7, Tryd.ntmps7
  go_wp2_with fail
  refine (HWD.out _ HV.out).mono ?_
  rintro e w0 ⟨rfl, hw0⟩
  subst hw0
  go_wp2_with fail
  refine (HRW.out _).mono ?_
  rintro e w1 ⟨rfl, hb1⟩
  have HB1 := Lib.hid hb1
  have HV1 := Lib.hid (HV.out.below hb1)
  clear hb1
  go_wp2_with fail
  refine (HNM.out _ HV1.out).mono ?_
  rintro e w2 ⟨rfl, hb2⟩
  have HB2 := Lib.hid (below_trans HB1.out hb2)
  have HV2 := Lib.hid (HV1.out.below hb2)
  clear hb2 HB1 HV1
  go_wp2_with fail
  refine (HRN.out _).mono ?_
  rintro e w3 ⟨rfl, hb3⟩
  have HB3 := Lib.hid (below_trans HB2.out hb3)
  have HV3 := Lib.hid (HV2.out.below hb3)
  clear hb3 HB2 HV2
  have hnn : (nm != nm) = false := by simp
  have hww : (wb != wb) = false := by simp
  go_wp2_with fail
  refine (HTK.out _ HV3.out).mono ?_
  rintro e w4 ⟨v, rfl, hown, hb4, hfar⟩
  obtain ⟨A, cap, rfl, hle, hmx⟩ := hown.slice
  have hal := fault_below w4 #[.int .i64 (flE R.2), .int .i64 (flP R.2).1, .int .i64 (flP R.2).2]
  have hbb := below_trans hb4 hal
  have HB4 := Lib.hid (below_trans HB3.out hbb)
  have HV4 := Lib.hid (HV3.out.below hbb)
  have HOW := Lib.hid (hown.below hal)
  have HF := Lib.hid (Blk.new w4 27 #[.int .i64 (flE R.2), .int .i64 (flP R.2).1, .int .i64 (flP R.2).2])
  clear hown hb4 hfar hle hmx hal hbb HB3 HV3
  go_upto_region 4 with fail
  generalize hq : w4.heap.size = q4 at *
  generalize (w4.alloc (.cells #[.int .i64 (flE R.2), .int .i64 (flP R.2).1, .int .i64 (flP R.2).2] 27)) = W at *
  have f0 : W.cell? ⟨q4, 0, none⟩ = some (.int .i64 (flE R.2)) := HF.out.cell 0
  have HNM2 := Lib.hid (HNM.out W HV4.out)
  have HKN := Lib.hid (fun X hX => known_any X hX)
  obtain ⟨L, f⟩ := R
  simp only at *
  cases f with
  | some fl =>
    have hL : L = [] := by
      rcases HSH.out with h | h
      · cases h
      · exact h
    subst hL
    have hfe : (flE (some fl) == 0) = false := beq_eq_false_iff_ne.2 (HFN.out fl rfl)
    obtain rfl : wb = false := HWT.out
    obtain rfl : nm = false := HNE.out
    clear HWT HNE HFN HSH HOW HF
    generalize flE (some fl) = fe at *
    go_wp2_with fail
    refine HNM2.out.mono ?_
    rintro e w5 ⟨rfl, hb5⟩
    have HB5 := Lib.hid (below_trans HB4.out hb5)
    have HV5 := Lib.hid (HV4.out.below hb5)
    clear hb5
    go_wp2_with fail
    refine (HWD.out _ HV5.out).mono ?_
    rintro e w6 ⟨rfl, hw6⟩
    subst hw6
    go_wp2_with fail
    refine (HKN.out _ HV5.out).mono ?_
    rintro e w7 ⟨rfl, hb7⟩
    have HB7 := Lib.hid (below_trans HB5.out hb7)
    clear hb7
    go_wp2
    go_ret
    exact ⟨by simp, HB7.out⟩
  | none =>
    have hfe : (flE none : Int) = 0 := rfl
    rw [hfe] at f0
    by_cases h1 : L.length = 1
    · obtain ⟨x, rfl⟩ := List.length_eq_one_iff.1 h1
      obtain ⟨_, g, rfl, hc⟩ := EOwn.cell elT_ok HOW.out (i := 0) (x := x) rfl
      have c0 : W.cell? ⟨g, 0, none⟩ = some (.int .i64 x.k) := by simpa [elT] using hc 0 _ rfl
      have c1 : W.cell? ⟨g, 1, none⟩ = some (.string (bs x.t)) := by simpa [elT] using hc 1 _ rfl
      have hWT := HWT.out
      have hNE := HNE.out
      simp only at hWT hNE
      clear hc HOW h1 HWT HNE HSH HFN HF hfe
      by_cases ht : x.t = l
      · have hte : ((bs x.t).toList == (bs l).toList) = true := by rw [ht]; simp
        rw [decide_eq_true ht, Bool.true_and] at hWT
        rw [decide_eq_true ht, Bool.and_true] at hNE
        clear ht
        cases hk1 : (x.k == 1) with
        | true =>
          have hk2 : (x.k == 2) = false := by
            have : x.k = 1 := beq_iff_eq.1 hk1
            exact beq_eq_false_iff_ne.2 (by omega)
          rw [hk2] at hWT
          rw [hk1] at hNE
          subst hWT; subst hNE
          go_wp2_with fail
          refine HNM2.out.mono ?_
          rintro e w5 ⟨rfl, hb5⟩
          have HB5 := Lib.hid (below_trans HB4.out hb5)
          have HV5 := Lib.hid (HV4.out.below hb5)
          have c05 := cell_later hb5 c0
          clear hb5
          go_wp2_with fail
          refine (HWD.out _ HV5.out).mono ?_
          rintro e w6 ⟨rfl, hw6⟩
          subst hw6
          go_wp2_with fail
          refine (HKN.out _ HV5.out).mono ?_
          rintro e w7 ⟨rfl, hb7⟩
          have HB7 := Lib.hid (below_trans HB5.out hb7)
          clear hb7
          go_wp2
          go_ret
          exact ⟨by simp, HB7.out⟩
        | false =>
          rw [hk1] at hNE
          subst hNE
          cases hk2 : (x.k == 2) with
          | true =>
            rw [hk2] at hWT
            subst hWT
            go_wp2_with fail
            refine HNM2.out.mono ?_
            rintro e w5 ⟨rfl, hb5⟩
            have HB5 := Lib.hid (below_trans HB4.out hb5)
            have HV5 := Lib.hid (HV4.out.below hb5)
            have c05 := cell_later hb5 c0
            clear hb5
            go_wp2_with fail
            refine (HWD.out _ HV5.out).mono ?_
            rintro e w6 ⟨rfl, hw6⟩
            subst hw6
            go_wp2_with fail
            refine (HKN.out _ HV5.out).mono ?_
            rintro e w7 ⟨rfl, hb7⟩
            have HB7 := Lib.hid (below_trans HB5.out hb7)
            clear hb7
            go_wp2
            go_ret
            exact ⟨by simp, HB7.out⟩
          | false =>
            rw [hk2] at hWT
            subst hWT
            go_wp2_with fail
            refine HNM2.out.mono ?_
            rintro e w5 ⟨rfl, hb5⟩
            have HB5 := Lib.hid (below_trans HB4.out hb5)
            have HV5 := Lib.hid (HV4.out.below hb5)
            have c05 := cell_later hb5 c0
            clear hb5
            go_wp2_with fail
            refine (HWD.out _ HV5.out).mono ?_
            rintro e w6 ⟨rfl, hw6⟩
            subst hw6
            go_wp2_with fail
            refine (HKN.out _ HV5.out).mono ?_
            rintro e w7 ⟨rfl, hb7⟩
            have HB7 := Lib.hid (below_trans HB5.out hb7)
            clear hb7
            go_wp2
            go_ret
            exact ⟨by simp, HB7.out⟩
      · have hte : ((bs x.t).toList == (bs l).toList) = false := beq_eq_false_iff_ne.2 (fun e => ht (bs_inj (toList_inj e)))
        rw [decide_eq_false ht, Bool.false_and] at hWT
        rw [decide_eq_false ht, Bool.and_false] at hNE
        subst hWT; subst hNE
        clear ht
        go_wp2_with fail
        refine HNM2.out.mono ?_
        rintro e w5 ⟨rfl, hb5⟩
        have HB5 := Lib.hid (below_trans HB4.out hb5)
        have HV5 := Lib.hid (HV4.out.below hb5)
        have c05 := cell_later hb5 c0
        clear hb5
        go_wp2_with fail
        refine (HWD.out _ HV5.out).mono ?_
        rintro e w6 ⟨rfl, hw6⟩
        subst hw6
        go_wp2_with fail
        refine (HKN.out _ HV5.out).mono ?_
        rintro e w7 ⟨rfl, hb7⟩
        have HB7 := Lib.hid (below_trans HB5.out hb7)
        clear hb7
        go_wp2
        go_ret
        exact ⟨by simp, HB7.out⟩
    · have hne : ((L.length : Int) == 1) = false := beq_eq_false_iff_ne.2 (by omega)
      have hWT : wb = false := by
        rw [HWT.out]
        split
        · rename_i x hx; simp at hx; rw [hx] at h1; simp at h1
        · rfl
      have hNE : nm = false := by
        rw [HNE.out]
        split
        · simp at h1
        · rfl
      subst hWT; subst hNE
      clear HWT HNE HSH HFN HF hfe HOW h1
      go_wp2_with fail
      refine HNM2.out.mono ?_
      rintro e w5 ⟨rfl, hb5⟩
      have HB5 := Lib.hid (below_trans HB4.out hb5)
      have HV5 := Lib.hid (HV4.out.below hb5)
      clear hb5
      go_wp2_with fail
      refine (HWD.out _ HV5.out).mono ?_
      rintro e w6 ⟨rfl, hw6⟩
      subst hw6
      go_wp2_with fail
      refine (HKN.out _ HV5.out).mono ?_
      rintro e w7 ⟨rfl, hb7⟩
      have HB7 := Lib.hid (below_trans HB5.out hb7)
      clear hb7
      go_wp2
      go_ret
      exact ⟨by simp, HB7.out⟩
end Go.Proofs.YtplkcbbbcflngaaDoor
