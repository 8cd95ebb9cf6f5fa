/- AuditPages: (P17.4) a user's own events, page by page, are all of them, each once. Conditions: none. -/
import Derived.Test.YtjkkhefdpcpjiaaAuF
import Derived.Test.YtjkkhefdpcpjiaaAuH
namespace Go.Proofs.Ytjkkhefdpcpjiaa.auditPages
set_option linter.unusedVariables false
set_option linter.unusedSimpArgs false
open Go.ChangeShapes Go.WideShapes Go.ChangeAt Go.RowKit
open Go.ChangeMaps (open_string shut_string)
theorem page_step (R : List Ev) (a wd : Nat) : R.take a ++ pageL R a wd = R.take (a + (pageL R a wd).length) := by
  unfold pageL
  by_cases h : a ≤ R.length
  · rw [List.length_take, List.length_drop, ← List.take_add]
    by_cases h2 : wd ≤ R.length - a
    · rw [Nat.min_eq_left h2]
    · rw [Nat.min_eq_right (by omega), List.take_of_length_le (by omega), List.take_of_length_le (by omega)]
  · rw [List.drop_eq_nil_of_le (by omega), List.take_of_length_le (by omega)]
    simp
    rw [List.take_of_length_le (by omega)]
set_option maxRecDepth 100000 in
set_option maxHeartbeats 16000000 in
theorem walkN (v : Value) (L : List Ev) (u wd : Int) (w : World) (h : ERd elE w v L) (hw : -9223372036854775808 ≤ wd ∧ wd ≤ 9223372036854775807) :
    Calls Try.prog 5 #[v, .int .i64 u, .int .i64 wd] w fun e w' => e = .returned (.bool true) ∧ Below w.heap.size w w' := by
  obtain ⟨A1, c1, rfl, -, -⟩ := h.shape
  have HL := Lib.hid h
  clear h
  have HFI := Lib.hid (filled_any w _ L HL.out)
  obtain ⟨n, hz⟩ : ∃ z, z = L.length := ⟨_, rfl⟩
  rw [← hz] at HL HFI ⊢
  have HN := Lib.hid hz; clear hz
  by_cases h9 : 200 < n
  · have h9' : (200 : Int) < (n : Int) := by omega
    clear h9 hw
    go_enter Try.func5, Try.ntmps5
    go_wp2_with fail
    refine (aknown_any _).mono ?_
    rintro e w1 ⟨rfl, hb⟩
    go_wp2
    go_ret
    exact ⟨rfl, hb⟩
  by_cases h8 : wd < 1
  · have h9' : ¬ (200 : Int) < (n : Int) := by omega
    clear h9 hw
    go_enter Try.func5, Try.ntmps5
    go_wp2_with fail
    refine (aknown_any _).mono ?_
    rintro e w1 ⟨rfl, hb⟩
    go_wp2
    go_ret
    exact ⟨rfl, hb⟩
  have h9' : ¬ (200 : Int) < (n : Int) := by omega
  obtain ⟨d, rfl⟩ := Int.eq_ofNat_of_zero_le (show 0 ≤ wd by omega)
  have hn200 : n ≤ 200 := by omega
  have h8' : ¬ (d : Int) < 1 := by omega
  have HD := Lib.hid (show 1 ≤ d by omega)
  have HW := Lib.hid hw
  have HT := Lib.hid (show L.take 200 = L from List.take_of_length_le (by rw [← HN.out]; omega))
  rw [HT.out] at HFI
  have HLL := Lib.hid (show L.length ≤ 1000000 by rw [← HN.out]; omega)
  obtain ⟨R, hR⟩ : ∃ R, R = owns u L := ⟨_, rfl⟩
  have HRL := Lib.hid (show R.length ≤ 200 by rw [hR]; have := owns_len u L; rw [← HN.out] at this; omega)
  have HR := Lib.hid hR
  clear h9 h8 hw hR
  go_enter Try.func5, Try.ntmps5
  go_wp2_with fail
  refine HFI.out.mono ?_
  rintro e w1 ⟨y, v1, rfl, hb, hT, hy, hv⟩
  have HB1 := Lib.hid hb
  have HT1 := Lib.hid hT
  clear hb hT hy hv HFI h9' h8'
  have HTY := Lib.hid (show Try.prog.underlying 25 = some (.slice elE.T) from Try.underlying25)
  go_wp2_with fail
  go_loopw [8, 9, 10, 11] (fun v i _ _ wr => ∃ (k a : Nat) (v0 : Value), k ≤ 201 ∧ v = v0 ∧ i = .int .i64 k ∧ Hid (k ≤ a ∧ a ≤ R.length) ∧ Hid (FE elE w1 v0 (R.take a) wr)) (fun _ i _ _ _ => 201 - (intOf i).toNat)
  case atStart => exact ⟨0, 0, _, Nat.zero_le _, rfl, rfl, ⟨Nat.le_refl _, Nat.zero_le _⟩, by simpa [Hid] using FE.nil_ (E := elE) w1 w1 (Below.refl _ _)⟩
  case round =>
    rename World => wr
    obtain ⟨k, a, v0, hk, hv, rfl, HA, HF⟩ := hrel
    have hv' := hv.symm
    clear hv
    subst hv'
    by_cases hk2 : k ≤ 200
    · have hk2' : (k : Int) ≤ 200 := by omega
      have HTR := Lib.hid (HT1.out.below HF.out.bel)
      obtain ⟨z, hz⟩ : ∃ z, z = (R.take a).length := ⟨_, rfl⟩
      have hza : z = a := by rw [hz, List.length_take]; have := HA.out; omega
      subst hza
      obtain ⟨A0, c0, rfl, -, -⟩ := HF.out.own.slice
      rw [← hz] at HF ⊢
      have HZ := Lib.hid hz
      clear hz
      have hzi : (z : Int) ≤ 9223372036854775807 := by have := HA.out; have := HRL.out; omega
      go_wp2_with fail
      refine (aown_any wr y v1 L 0 0 u z d HTR.out HLL.out ⟨by omega, hzi⟩ HW.out).mono ?_
      rintro e w2 ⟨pv, rfl, hO, hFA, hb⟩
      rw [List.drop_zero, ← HR.out] at hO
      have hpe : pageI R z d = pageL R z d := by unfold pageI; rw [if_neg (by omega)]; simp
      rw [hpe] at hO
      have HF2 := Lib.hid (HF.out.below hb)
      have HO2 := Lib.hid hO
      have HAP := Lib.hid (show ∀ i, pv.ownBlock = some i → (Value.slice A0 z c0).ownBlock ≠ some i from fun i hi e => by have := hFA i hi; have := HF.out.own.lt e; omega)
      have HPS := Lib.hid (page_step R z d)
      have HPN := Lib.hid (pageL_len R z d)
      generalize pageL R z d = P at *
      clear hO hFA hb hpe HF HTR
      obtain ⟨A3, c3, rfl, -, -⟩ := HO2.out.slice
      obtain ⟨m, hm⟩ : ∃ m, m = P.length := ⟨_, rfl⟩
      rw [← hm] at HO2 HAP HPS HPN ⊢
      have HM := Lib.hid hm
      have hm200 : m ≤ 200 := by have h1 := HPN.out; have h2 := HRL.out; omega
      clear hm
      by_cases hm0 : m = 0
      · subst hm0
        have HE := Lib.hid (show R.take z = R from List.take_of_length_le (by have h1 := HPN.out; have h2 := HD.out; omega))
        rw [HE.out] at HF2
        have HT2 := Lib.hid (HT1.out.below HF2.out.bel)
        have HB2 := Lib.hid (below_trans HB1.out HF2.out.bel)
        go_wp2_with fail
        refine (rown_any w2 _ L u (HL.out.below HB2.out) HLL.out).mono ?_
        rintro e w3 ⟨b, rfl, hFE⟩
        have HB3 := Lib.hid (below_trans HB2.out hFE.bel)
        have HT3 := Lib.hid (HT2.out.below hFE.bel)
        have HO3 := Lib.hid (ERd.of_own elE_ok (HF2.out.own.below hFE.bel))
        have HR3 := Lib.hid (ERd.of_own elE_ok hFE.own)
        rw [← HR.out] at HR3
        clear hFE HB2 HT2 HF2
        obtain ⟨A4, c4, rfl, -, -⟩ := HR3.out.shape
        go_wp2_with fail
        refine (rsameE_any w3 _ _ R HO3.out HR3.out (by have := HRL.out; omega)).mono ?_
        rintro e w4 ⟨rfl, q, rfl⟩
        have HB4 := Lib.hid (below_drawn HB3.out q)
        have HT4 := Lib.hid (HT3.out.drewN q)
        clear HB3 HT3 HO3 HR3
        generalize w3.drewN q = w4 at *
        have HCO := Lib.hid (acount_any w4 y v1 L 0 0 u HT4.out HLL.out)
        have hzr : R.length = z := by have h1 := HA.out; have h2 := HZ.out; rw [HE.out] at h2; omega
        rw [List.drop_zero, ← HR.out, hzr] at HCO
        clear hzr
        have hze : ((z : Int) == (z : Int)) = true := by simp
        go_wp2_with fail
        refine HCO.out.mono ?_
        rintro e w5 ⟨rfl, hb⟩
        have HB5 := Lib.hid (below_trans HB4.out hb)
        clear hb HCO
        go_wp2_with fail
        refine (aknown_any _).mono ?_
        rintro e w6 ⟨rfl, hb⟩
        have HB6 := Lib.hid (below_trans HB5.out hb)
        clear hb
        go_wp2
        go_ret
        exact ⟨rfl, HB6.out⟩
      · have hm0' : ((m : Int) == 0) = false := by simp; omega
        have hm1 : 0 < m := by omega
        clear hm0
        go_wp2_with fail
        go_loopw [8, 11] (fun v i wr => ∃ (j : Nat) (v0 : Value), j ≤ m ∧ v = v0 ∧ i = .int .i64 j ∧ Hid (FE elE w1 v0 (R.take z ++ P.take j) wr) ∧ Hid (EOwn elE wr (.slice A3 m c3) P) ∧ Hid (∀ i, (Value.slice A3 m c3).ownBlock = some i → v0.ownBlock ≠ some i)) (fun _ i _ => m - (intOf i).toNat)
        case atStart => exact ⟨0, _, Nat.zero_le _, rfl, rfl, by simpa [Hid] using HF2.out, HO2.out, HAP.out⟩
        case round =>
          rename World => wr
          clear HF2 HO2 HAP
          obtain ⟨j, v0, hj, hv, rfl, HF, HO, HAP⟩ := hrel
          have hv' := hv.symm
          clear hv
          subst hv'
          by_cases hjm : j < m
          · have hkl : j < P.length := by rw [← HM.out]; exact hjm
            have hx : P[j]? = some P[j] := List.getElem?_eq_getElem hkl
            have HTS := Lib.hid (show R.take z ++ P.take (j + 1) = (R.take z ++ P.take j) ++ [P[j]] by rw [List.take_succ_eq_append_getElem hkl, List.append_assoc])
            have HLE := Lib.hid (show (R.take z ++ P.take j).length ≤ 1000000 by have h1 := HRL.out; have h2 := HPN.out; simp; omega)
            obtain ⟨g, rfl, a0, a1, a2, a3⟩ := HO.out.four hx
            generalize P[j] = x at *
            clear hx
            obtain ⟨x0, x1, x2, x3⟩ := x
            simp only at a0 a1 a2 a3 HTS
            have hjm' : (j : Int) < m := by omega
            obtain ⟨A5, c5, rfl, -, -⟩ := HF.out.own.slice
            generalize hFL : R.take z ++ P.take j = FL at *
            have HFL := Lib.hid hFL
            clear hFL
            go_wp2_with ((at_builtin; refine wpList_epush elE_ok rfl (.tmp 41) (.tmp 46) _ rfl HTY.out _ FL ⟨x0, x1, x2, x3⟩ wr.heap.size 1 rfl rfl (HF.out.own.below ((Below.refl _ _).alloc (Nat.le_refl _) _)) (new_e wr _ ⟨x0, x1, x2, x3⟩) HLE.out ?_; intro v2 w3 hA2; have HP2 := Lib.hid (HF.out.push hA2); have HO3 := Lib.hid (show EOwn elE w3 (.slice (some ⟨g, 0, none⟩) m c3) P from (HO.out.below ((Below.refl _ _).alloc (Nat.le_refl _) _)).keep (fun i hi e => hA2.keep hi (HAP.out i e))); have HAP3 := Lib.hid (show ∀ i, (Value.slice (some ⟨g, 0, none⟩) m c3).ownBlock = some i → v2.ownBlock ≠ some i from fun i hi e => by
              obtain ⟨g2, cap2, rfl, _, _, hor⟩ := hA2
              have hil := HO.out.lt hi
              have e2 : g2 = i := by simpa [Value.ownBlock] using e
              rcases hor with h1 | h1
              · exact HAP.out i hi ((show _ = some g2 from h1).trans (by rw [e2]))
              · simp at h1; omega); clear hA2))
            go_roundw
            case rel => exact ⟨j + 1, _, by omega, rfl, by go_num, by have h9 := HP2.out; rw [← HTS.out] at h9; exact h9, HO3, HAP3⟩
            case measure => simp [intOf]; omega
          · obtain rfl : j = m := by omega
            have HF3 := Lib.hid (show FE elE w1 v0 (R.take (z + j)) wr by rw [← HPS.out]; have h9 := HF.out; have hPj : P.take j = P := List.take_of_length_le (by rw [← HM.out]; omega); rw [hPj] at h9; exact h9)
            have HA3 := Lib.hid (show k + 1 ≤ z + j ∧ z + j ≤ R.length from by have h1 := HA.out; have h2 := HPN.out; omega)
            clear HF
            go_wp2
            go_roundw
            case rel => exact ⟨k + 1, z + j, _, by omega, rfl, by go_num, HA3, HF3⟩
            case measure => simp [intOf]; omega
    · exact absurd hk2 (by have := HA.out; have := HRL.out; omega)
theorem walk (a : Option Addr) (z c : Nat) (u wd : Int) (w : World) (h : IsSl w 4 okEv a z c) (hu : -9223372036854775808 ≤ u ∧ u ≤ 9223372036854775807) (hn : -9223372036854775808 ≤ wd ∧ wd ≤ 9223372036854775807) :
    Calls Try.prog 5 #[.slice a z c, .int .i64 u, .int .i64 wd] w fun e w' => e = .returned (.bool true) ∧ Below w.heap.size w w' := by
  obtain ⟨L, h1, _, _⟩ := evs_of h
  exact walkN _ L u wd w h1 hn
theorem own : ownKnob Try.prog.godebug = none := by kernel_rfl
theorem laidOut : laidOutB Try.prog = true := by kernel_rfl
set_option maxRecDepth 100000 in
theorem lifted (os : Os) (started : os.Started) (H : Type) (enc : TypeId × Value → H) :
    ReturnsInHanded {} Try.checked os 5 .any (Rows.auditPagesSpec.pre6 enc Try.prog Try.f5 Rows.auditPagesRow.domain false) (Rows.auditPagesSpec.post enc Try.prog Try.f5 false true false false) := by
  refine returnsInHanded_of_change_sized (C := Try.checked) own started (by kernel_rfl) Try.func5
    (ChangeSpec.witness6 (enc := enc) (C := Try.checked) false ⟨#[], #[.slice none 0 0, .int .i64 0, .int .i64 0], []⟩ 8 (by kernel_rfl) (by kernel_rfl) (by kernel_rfl) (by kernel_rfl)) ?_
  intro W base args ds gs before hval0 hW hcnd hsz0 _
  have hval : ∀ (j : Nat) t v, Try.f5.params[j]? = some t → args[j]? = some v → Value.okWide Try.prog W .any base t v := hval0
  have hW' := hW
  obtain ⟨p, q, hA0, hV, rfl, hfz, hnd⟩ := hW
  have hA : DataW.TrodAll enc Try.prog W 0 (fun _ => true) true Try.f5.params.toList args.toList ds p := hA0
  rw [Try.params5] at hA hval
  obtain ⟨v0, vs0, d0, ds0, p0, q0, hargs, rfl, rfl, h0, r0⟩ := trodAll_cons hA
  obtain ⟨v1, vs1, d1, ds1, p1, q1, rfl, rfl, rfl, h1, r1⟩ := trodAll_cons r0
  obtain ⟨v2, vs2, d2, ds2, p2, q2, rfl, rfl, rfl, h2, r2⟩ := trodAll_cons r1
  obtain ⟨rfl, rfl, rfl⟩ := trodAll_nil r2
  obtain rfl : args = #[v0, v1, v2] := by cases args; simp_all
  obtain ⟨rfl, rfl⟩ := trodVars_none hV
  have k0 := h0
  have lt0 : ∀ x ∈ p0, x.block < W.heap.size := by obtain ⟨m, hm⟩ := k0; exact DataW.trod_lt m _ _ _ hm
  obtain ⟨a0, len0, cap0, rfl⟩ := okWide_slice Try.underlying25 (hval 0 25 v0 rfl rfl)
  have w0 : IsSl W 4 (okEvW W) a0 len0 cap0 := by
    obtain ⟨fuel, hf⟩ := h0
    exact isSl_of Try.underlying25 (by kernel_rfl) okEvP hf (fun n hn => of_decide_eq_true (List.all_eq_true.1 hsz0 n (DataW.weights_mem_each (j := 0) (t := 25) (d := d0) rfl rfl n hn)))
  have k1 := h1
  have lt1 : ∀ x ∈ p1, x.block < W.heap.size := by obtain ⟨m, hm⟩ := k1; exact DataW.trod_lt m _ _ _ hm
  obtain ⟨a1, rfl, rfl, rfl, w1⟩ := open_int Try.underlying3 (hval 1 3 v1 rfl rfl) h1
  have k2 := h2
  have lt2 : ∀ x ∈ p2, x.block < W.heap.size := by obtain ⟨m, hm⟩ := k2; exact DataW.trod_lt m _ _ _ hm
  obtain ⟨a2, rfl, rfl, rfl, w2⟩ := open_int Try.underlying3 (hval 2 3 v2 rfl rfl) h2
  clear hA0 hval0
  refine (walk a0 len0 cap0 a1 a2 W w0 (bounds_i64 w1) (bounds_i64 w2)).mono fun e W' ⟨he, bel⟩ => ?_
  subst he
  exact ⟨_, rfl, _, _, _, [], _, [], hW', trodAll_mk1 (shut_bool Try.underlying4 _), (trodAll_cons_mk (Below.trod laidOut (by kernel_rfl) (of_decide_eq_true (by kernel_rfl)) k0 bel lt0) (trodAll_cons_mk (Below.trod laidOut (by kernel_rfl) (of_decide_eq_true (by kernel_rfl)) k1 bel lt1) (trodAll_cons_mk (Below.trod laidOut (by kernel_rfl) (of_decide_eq_true (by kernel_rfl)) k2 bel lt2) trodAll_mk0))), rfl, bel.frame _, fun h => by cases h⟩
theorem over : Rows.auditPagesRow.holds Try.pinned (OpenSpec.ofChange Rows.auditPagesSpec) :=
  OpenClaim.holds_of_wide 5 Try.f5 rfl rfl rfl rfl rfl rfl rfl ⟨rfl, rfl, rfl, rfl, rfl⟩ rfl rfl rfl rfl rfl (by kernel_rfl) Try.func5 (by kernel_rfl)
    (of_decide_eq_true (by kernel_rfl)) (by unfold Func.isWrapper; first | (rw [if_pos (by decide +kernel)]; kernel_rfl) | (rw [if_neg (by decide +kernel)]; exact ⟨rfl, rfl⟩))
    (fun os started H enc _ => lifted os started H enc)
/-- The statement. -/
theorem proved : Rows.AuditPagesSaid := over
#print axioms proved
end Go.Proofs.Ytjkkhefdpcpjiaa.auditPages
