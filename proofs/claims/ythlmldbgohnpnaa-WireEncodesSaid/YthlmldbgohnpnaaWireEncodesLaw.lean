/- WireEncodes: (P19.1) any request has its bytes, or may not be. Conditions: none. -/
import Derived.Test.YthlmldbgohnpnaaWrZ2
namespace Go.Proofs.Ythlmldbgohnpnaa.wireEncodes
set_option linter.unusedVariables false
set_option linter.unusedSimpArgs false
open Go.ChangeShapes Go.WideShapes Go.ChangeAt Go.RowKit
open Go.ChangeMaps (open_string shut_string)
attribute [local go_sem ↓] to_ldQ to_stQ to_ldV eq_req eq_reqZ
theorem rbytes_any (r : Rq) (hr : r.Ok) (w : World) : Calls Try.prog 12 #[.agg r.cs] w fun e w' => RByP r w e w' := by
  by_cases h : 1 ≤ r.op ∧ r.op ≤ 19
  rotate_left
  · exact rbytes_op r hr w h
  by_cases hm : r.m ≤ 64
  rotate_left
  · exact rbytes_m r hr w h hm
  by_cases ht : r.text.length ≤ 512
  rotate_left
  · exact rbytes_text r hr w h hm ht
  by_cases h3 : r.op = 3
  · exact rbytes_3 r hr w h3 hm ht
  by_cases h6 : r.op = 6
  · exact rbytes_6 r hr w h6 hm ht
  by_cases h7 : r.op = 7
  · exact rbytes_7 r hr w h7 hm ht
  obtain ⟨k, hk⟩ : ∃ k : Nat, r.op = (k : Int) := ⟨r.op.toNat, by omega⟩
  exact rbytes_else r hr w k hk (by omega) (by omega) (by omega) (by omega) (by omega) hm ht
set_option maxRecDepth 100000 in
set_option maxHeartbeats 16000000 in
theorem walk (r : Rq) (w : World) (hr : r.Ok) :
    Calls Try.prog 4 #[r.V] w fun e w' => e = .returned (.bool true) ∧ Below w.heap.size w w' := by
  have HP0 := Lib.hid (Blk.new w TQ r.cs)
  have HB0 := Lib.hid (show Below w.heap.size w (w.alloc (.cells r.cs TQ)) from (Below.refl _ _).alloc (Nat.le_refl _) _)
  have HENC := Lib.hid (fun y => encode_any r hr y)
  have HBYT := Lib.hid (fun y => rbytes_any r hr y)
  have HRGT := Lib.hid (fun y => wright_any r hr y)
  have HTH := Lib.hid (fun y => there19_any r.op y)
  have HKN := Lib.hid (fun y => wknown_any y)
  have e0 : r.cs[0]? = some (.int .i64 r.op) := rfl
  have hld0 := run_ldQ (Blk.new w TQ r.cs)
  unfold EncP at HENC
  unfold RByP at HBYT
  by_cases hop : 1 ≤ r.op ∧ r.op ≤ 19
  rotate_left
  · have hE : encR r = (51, []) := by unfold encR; rw [if_pos hop]
    have HEN := Lib.hid (show (encR r).2 = [] by rw [hE])
    have h1 : (encR r).1 = 51 := by rw [hE]
    have hR : refOk r = false := by unfold refOk; rw [decide_eq_false hop]; rfl
    rw [h1] at HENC HRGT
    rw [hR] at HBYT
    rw [decide_eq_false hop] at HTH
    have hz : ((51 : Int) == 0) = false := by decide
    rw [hz] at HRGT
    clear hE h1 hR hop hr
    go_enter Try.func4, Try.ntmps4
    go_wp2_with fail
    refine (HENC.out _).mono ?_
    rintro e w1 ⟨v, rfl, ho, hf, hb1⟩
    have HB1 := Lib.hid (HB0.out.trans (hb1.mono HB0.out.size))
    have HP1 := Lib.hid (HP0.out.thru0 hb1)
    have HO1 := Lib.hid ho
    obtain ⟨A, c, rfl, hlc, hcm⟩ := ho.slice
    have HCM := Lib.hid (Nat.le_trans hlc hcm)
    have hld1 := run_ldQ HP1.out
    have hl0 : (encR r).2.length = 0 := by rw [HEN.out]; rfl
    rw [hl0]
    clear ho hf hb1 hld0 hlc hcm
    go_wp2_with fail
    refine (HBYT.out _).mono ?_
    rintro e w2 ⟨hb2, v2, rfl, hv2⟩
    have HB2 := Lib.hid (HB1.out.trans (hb2.mono HB1.out.size))
    have HP2 := Lib.hid (HP1.out.thru0 hb2)
    have HO2 := Lib.hid (HO1.out.below hb2)
    have HV2 := Lib.hid hv2
    have hld2 := run_ldQ HP2.out
    clear hb2 hv2 hld1
    go_wp2_with fail
    refine (HRGT.out _).mono ?_
    rintro e w3 ⟨rfl, hb3⟩
    have HB3 := Lib.hid (HB2.out.trans (hb3.mono HB2.out.size))
    have HP3 := Lib.hid (HP2.out.thru0 hb3)
    have HO3 := Lib.hid (HO2.out.below hb3)
    have kop := HP3.out.cell 0
    simp only [e0] at kop
    clear hb3 hld2
    go_wp2_with fail
    refine (HTH.out _).mono ?_
    rintro e w4 ⟨rfl, hw4⟩
    subst hw4
    have HB5 := HB3
    clear kop
    go_wp2_with fail
    refine (HKN.out _).mono ?_
    rintro e w6 ⟨rfl, hb6⟩
    have HB6 := Lib.hid (HB5.out.trans (hb6.mono HB5.out.size))
    clear hb6
    go_wp2_with fail
    go_ret
    exact ⟨rfl, HB6.out⟩
  · have HWO := Lib.hid (ref_ok hr hop)
    rw [decide_eq_true hop] at HTH
    by_cases hw : wrOk r = true
    rotate_left
    · have hE : encR r = (1, []) := by unfold encR; rw [if_neg (not_not_intro hop), if_neg hw]
      have HEN := Lib.hid (show (encR r).2 = [] by rw [hE])
      have h1 : (encR r).1 = 1 := by rw [hE]
      have hR : refOk r = false := by rw [HWO.out]; simpa using hw
      rw [h1] at HENC HRGT
      rw [hR] at HBYT
      have hz : ((1 : Int) == 0) = false := by decide
      rw [hz] at HRGT
      clear hE h1 hR hop hr hw
      go_enter Try.func4, Try.ntmps4
      go_wp2_with fail
      refine (HENC.out _).mono ?_
      rintro e w1 ⟨v, rfl, ho, hf, hb1⟩
      have HB1 := Lib.hid (HB0.out.trans (hb1.mono HB0.out.size))
      have HP1 := Lib.hid (HP0.out.thru0 hb1)
      have HO1 := Lib.hid ho
      obtain ⟨A, c, rfl, hlc, hcm⟩ := ho.slice
      have HCM := Lib.hid (Nat.le_trans hlc hcm)
      have hld1 := run_ldQ HP1.out
      have hl0 : (encR r).2.length = 0 := by rw [HEN.out]; rfl
      rw [hl0]
      clear ho hf hb1 hld0 hlc hcm
      go_wp2_with fail
      refine (HBYT.out _).mono ?_
      rintro e w2 ⟨hb2, v2, rfl, hv2⟩
      have HB2 := Lib.hid (HB1.out.trans (hb2.mono HB1.out.size))
      have HP2 := Lib.hid (HP1.out.thru0 hb2)
      have HO2 := Lib.hid (HO1.out.below hb2)
      have HV2 := Lib.hid hv2
      have hld2 := run_ldQ HP2.out
      clear hb2 hv2 hld1
      go_wp2_with fail
      refine (HRGT.out _).mono ?_
      rintro e w3 ⟨rfl, hb3⟩
      have HB3 := Lib.hid (HB2.out.trans (hb3.mono HB2.out.size))
      have HP3 := Lib.hid (HP2.out.thru0 hb3)
      have HO3 := Lib.hid (HO2.out.below hb3)
      have kop := HP3.out.cell 0
      simp only [e0] at kop
      clear hb3 hld2
      go_wp2_with fail
      refine (HTH.out _).mono ?_
      rintro e w4 ⟨rfl, hw4⟩
      subst hw4
      have HB5 := HB3
      clear kop
      go_wp2_with fail
      refine (HKN.out _).mono ?_
      rintro e w6 ⟨rfl, hb6⟩
      have HB6 := Lib.hid (HB5.out.trans (hb6.mono HB5.out.size))
      clear hb6
      go_wp2_with fail
      go_ret
      exact ⟨rfl, HB6.out⟩
    · have hE : encR r = (0, wrR r) := by unfold encR; rw [if_neg (not_not_intro hop), if_pos hw]
      have HEN := Lib.hid (show (encR r).2 = wrR r by rw [hE])
      have h1 : (encR r).1 = 0 := by rw [hE]
      have hR : refOk r = true := by rw [HWO.out]; exact hw
      have hd : decR (wrR r) = (0, r) := by
        have h2 := hw
        simp only [wrOk, Bool.and_eq_true, decide_eq_true_eq, eqQ_iff] at h2
        exact Prod.ext h2.1 h2.2
      have HRW := Lib.hid (ref_wr hr hop (dec_text hd).1 (dec_fine hd))
      rw [h1] at HENC HRGT
      rw [hR] at HBYT
      have hz : ((0 : Int) == 0) = true := by decide
      rw [hz] at HRGT
      obtain ⟨Z, hZ⟩ : ∃ Z, Z = wrR r := ⟨_, rfl⟩
      rw [HEN.out, ← hZ] at HENC
      rw [HRW.out, ← hZ] at HBYT
      clear hE h1 hR hop hr hw hd HEN HRW hZ HWO
      go_enter Try.func4, Try.ntmps4
      go_wp2_with fail
      refine (HENC.out _).mono ?_
      rintro e w1 ⟨v, rfl, ho, hf, hb1⟩
      have HB1 := Lib.hid (HB0.out.trans (hb1.mono HB0.out.size))
      have HP1 := Lib.hid (HP0.out.thru0 hb1)
      have HO1 := Lib.hid ho
      obtain ⟨A, c, rfl, hlc, hcm⟩ := ho.slice
      have HCM := Lib.hid (Nat.le_trans hlc hcm)
      have hld1 := run_ldQ HP1.out
      obtain ⟨nn, hnn⟩ : ∃ n, n = Z.length := ⟨_, rfl⟩
      rw [← hnn] at HCM HO1 ⊢
      have HNN := Lib.hid hnn
      clear hnn
      clear ho hf hb1 hld0 hlc hcm
      go_wp2_with fail
      refine (HBYT.out _).mono ?_
      rintro e w2 ⟨hb2, v2, rfl, hv2⟩
      have HB2 := Lib.hid (HB1.out.trans (hb2.mono HB1.out.size))
      have HP2 := Lib.hid (HP1.out.thru0 hb2)
      have HO2 := Lib.hid (HO1.out.below hb2)
      have HV2 := Lib.hid hv2
      have hld2 := run_ldQ HP2.out
      clear hb2 hv2 hld1
      go_wp2_with fail
      refine (HRGT.out _).mono ?_
      rintro e w3 ⟨rfl, hb3⟩
      have HB3 := Lib.hid (HB2.out.trans (hb3.mono HB2.out.size))
      have HP3 := Lib.hid (HP2.out.thru0 hb3)
      have HO3 := Lib.hid (HO2.out.below hb3)
      have kop := HP3.out.cell 0
      simp only [e0] at kop
      have HV3 := Lib.hid ((HV2.out (by first | trivial | rfl)).below hb3)
      obtain ⟨A2, c2, hs2, hlc2, hcm2⟩ := HV3.out.slice
      subst hs2
      have HCM2 := Lib.hid (Nat.le_trans hlc2 hcm2)
      rw [← HNN.out] at HCM2 HV3 ⊢
      clear hlc2 hcm2 hb3 hld2
      go_wp2_with fail
      refine (HTH.out _).mono ?_
      rintro e w4 ⟨rfl, hw4⟩
      subst hw4
      have HSM := Lib.hid (same_any A A2 nn nn c c2 Z Z _ (EOwn.rb HO3.out) (EOwn.rb HV3.out) HCM.out HCM2.out)
      rw [decide_eq_true rfl] at HSM
      go_wp2_with fail
      refine HSM.out.mono ?_
      rintro e w5 ⟨rfl, q, hw5⟩
      have HB5 : Hid (Below w.heap.size w w5) := Lib.hid (by rw [hw5]; exact below_drawn HB3.out q)
      clear hw5 kop
      go_wp2_with fail
      refine (HKN.out _).mono ?_
      rintro e w6 ⟨rfl, hb6⟩
      have HB6 := Lib.hid (HB5.out.trans (hb6.mono HB5.out.size))
      clear hb6
      go_wp2_with fail
      go_ret
      exact ⟨rfl, HB6.out⟩
theorem own : ownKnob Try.prog.godebug = none := by kernel_rfl
theorem laidOut : laidOutB Try.prog = true := by kernel_rfl
set_option maxRecDepth 100000 in
theorem lifted (os : Os) (started : os.Started) (H : Type) (enc : TypeId × Value → H) :
    ReturnsInHanded {} Try.checked os 4 .any (Rows.wireEncodesSpec.pre6 enc Try.prog Try.f4 Rows.wireEncodesRow.domain false) (Rows.wireEncodesSpec.post enc Try.prog Try.f4 false true false false) := by
  refine returnsInHanded_of_change (C := Try.checked) own started (by kernel_rfl) Try.func4
    (ChangeSpec.witness6 (enc := enc) (C := Try.checked) false ⟨#[], #[wRq], []⟩ 8 (by kernel_rfl) (by kernel_rfl) (by kernel_rfl) (by kernel_rfl)) ?_
  intro W base args ds gs before hval0 hW hcnd _
  have hval : ∀ (j : Nat) t v, Try.f4.params[j]? = some t → args[j]? = some v → Value.okWide Try.prog W .any base t v := hval0
  have hW' := hW
  obtain ⟨p, q, hA0, hV, rfl, hfz, hnd⟩ := hW
  have hA : DataW.TrodAll enc Try.prog W 0 (fun _ => true) true Try.f4.params.toList args.toList ds p := hA0
  rw [Try.params4] at hA hval
  obtain ⟨v0, vs0, d0, ds0, p0, q0, hargs, rfl, rfl, h0, r0⟩ := trodAll_cons hA
  obtain ⟨rfl, rfl, rfl⟩ := trodAll_nil r0
  obtain rfl : args = #[v0] := by cases args; simp_all
  obtain ⟨rfl, rfl⟩ := trodVars_none hV
  have k0 := h0
  have lt0 : ∀ x ∈ p0, x.block < W.heap.size := by obtain ⟨m, hm⟩ := k0; exact DataW.trod_lt m _ _ _ hm
  obtain ⟨cs0, rfl, hc0⟩ := okWide_struct Try.underlying31 (hval 0 31 v0 rfl rfl)
  obtain ⟨a0, e0, w0⟩ : ∃ a, Value.agg cs0 = Rq.V a ∧ Rq.Ok a := by
    obtain ⟨fuel, hf⟩ := h0
    exact req_of (cs := cs0) hf (by rw [hc0]; kernel_rfl)
  clear hA0 hval0
  have hw := walk a0 W w0
  rw [← e0] at hw
  refine hw.mono fun e W' ⟨he, bel⟩ => ?_
  subst he
  exact ⟨_, rfl, _, _, _, [], _, [], hW', trodAll_mk1 (shut_bool Try.underlying4 _), (trodAll_cons_mk (Below.trod laidOut (by kernel_rfl) (of_decide_eq_true (by kernel_rfl)) k0 bel lt0) trodAll_mk0), rfl, bel.frame _, fun h => by cases h⟩
theorem over : Rows.wireEncodesRow.holds Try.pinned (OpenSpec.ofChange Rows.wireEncodesSpec) :=
  OpenClaim.holds_of_wide 4 Try.f4 rfl rfl rfl rfl rfl rfl rfl ⟨rfl, rfl, rfl, rfl, rfl⟩ rfl rfl rfl rfl rfl (by kernel_rfl) Try.func4 (by kernel_rfl)
    (of_decide_eq_true (by kernel_rfl)) (by unfold Func.isWrapper; first | (rw [if_pos (by decide +kernel)]; kernel_rfl) | (rw [if_neg (by decide +kernel)]; exact ⟨rfl, rfl⟩))
    (fun os started H enc _ => lifted os started H enc)
/-- The statement. -/
theorem proved : Rows.WireEncodesSaid := over
#print axioms proved
end Go.Proofs.Ythlmldbgohnpnaa.wireEncodes
