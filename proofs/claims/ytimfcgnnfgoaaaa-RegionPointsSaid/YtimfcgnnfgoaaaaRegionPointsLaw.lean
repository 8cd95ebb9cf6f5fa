/- RegionPoints: (P13.2, P13.4) a point is in what one region has alone, or both have, just if it is in the one and not, or also, in the other. Conditions: none. -/
import Derived.Test.YtimfcgnnfgoaaaaRgQ
import Derived.Test.YtimfcgnnfgoaaaaRgH0
import Derived.Lib.SmallJoins
import Derived.Deep.RegionHeld3
import Derived.Deep.DeepCutAuto
namespace Go.Proofs.Ytimfcgnnfgoaaaa.regionPoints
set_option linter.unusedVariables false
set_option linter.unusedSimpArgs false
open Go.ChangeShapes Go.WideShapes Go.ChangeAt Go.RowKit
open Go.ChangeMaps (open_string shut_string)
theorem has_cnt {a : List Bx} (h : rightA a) (x y : Int) : hasAny a x y = decide (0 < cntP a x y) := by
  rw [Bool.eq_iff_iff, hasAny_iff h, decide_eq_true_eq]
  exact (cntP_pos a x y).2.symm
theorem has_form {C : Bool → Bool → Bool} (hC : C false false = false) {a b L : List Bx} (ha : rightA a) (hb : rightA b) (h : FormOf (Cts C a b) L) (x y : Int) : hasAny L x y = C (hasAny a x y) (hasAny b x y) := by
  have hr := form_right h (fun x y hx => hx.grid hC ha hb)
  rw [Bool.eq_iff_iff, hasAny_iff hr, has_cnt ha, has_cnt hb]
  exact (h.iff x y).symm
set_option maxRecDepth 100000 in
set_option maxHeartbeats 8000000 in
theorem walkN (v u : Value) (L M : List Bx) (px py : Int) (w : World) (h : ERd elR w v L) (k : ERd elR w u M) :
    Calls Try.prog 4 #[v, u, .agg #[.int .i64 px, .int .i64 py]] w fun e w' => e = .returned (.bool true) ∧ Below w.heap.size w w' := by
  obtain ⟨A1, c1, rfl, -, -⟩ := h.shape
  obtain ⟨A2, c2, rfl, -, -⟩ := k.shape
  have HL := Lib.hid h
  have HK := Lib.hid k
  have HAL := Lib.hid (show Below w.heap.size w (w.alloc (.cells #[.int .i64 px, .int .i64 py] 33)) from (Below.refl _ _).alloc (Nat.le_refl _) _)
  have HPB := Lib.hid (Blk.new w 33 #[.int .i64 px, .int .i64 py])
  clear h k
  obtain ⟨n, hn⟩ : ∃ n, n = L.length := ⟨_, rfl⟩
  obtain ⟨m, hm⟩ : ∃ m, m = M.length := ⟨_, rfl⟩
  rw [← hn] at HL ⊢
  rw [← hm] at HK ⊢
  have HN := Lib.hid hn; have HM := Lib.hid hm; clear hn hm
  by_cases h1 : 40 < n
  · have h1b : (40 : Int) < (n : Int) := by omega
    clear h1
    go_enter Try.func4, Try.ntmps4
    go_wp2_with fail
    refine (known13_any _).mono ?_
    rintro e w1 ⟨rfl, hb⟩
    have HB := Lib.hid (below_trans HAL.out hb)
    go_wp2
    go_ret
    exact ⟨rfl, HB.out⟩
  · have h1b : ¬ (40 : Int) < (n : Int) := by omega
    by_cases h2 : 40 < m
    · have h2b : (40 : Int) < (m : Int) := by omega
      clear h1 h2
      go_enter Try.func4, Try.ntmps4
      go_wp2_with fail
      refine (known13_any _).mono ?_
      rintro e w1 ⟨rfl, hb⟩
      have HB := Lib.hid (below_trans HAL.out hb)
      go_wp2
      go_ret
      exact ⟨rfl, HB.out⟩
    · have h2b : ¬ (40 : Int) < (m : Int) := by omega
      have HNB := Lib.hid (show L.length ≤ 40 ∧ M.length ≤ 40 from by rw [← HN.out, ← HM.out]; omega)
      have HMI := Lib.hid (minus_any _ _ _ L M (HL.out.below HAL.out) (HK.out.below HAL.out) (by have := HNB.out; omega) (by have := HNB.out; omega) (fun _ => by have := HNB.out; omega))
      have HZ := Lib.hid (chk2_zero (a := L) (b := M))
      have HHA := Lib.hid (fun X (hX : Below w.heap.size w X) => has13_any X _ L px py (HL.out.below hX) (by have := HNB.out; omega))
      have HHB := Lib.hid (fun X (hX : Below w.heap.size w X) => has13_any X _ M px py (HK.out.below hX) (by have := HNB.out; omega))
      have HRH := Lib.hid (fun X (hX : Below w.heap.size w X) => rhas13_any X _ L px py (HL.out.below hX) (by have := HNB.out; omega))
      have HX0 := Lib.hid (show chk2 L M = 0 → hasOk L px py = hasAny L px py ∧ hasOk M px py = hasAny M px py ∧ rightA L ∧ rightA M from fun h0 => by
        obtain ⟨g1, g2, g3, g4⟩ := chk2_zero.1 h0
        exact ⟨hasOk_yes (chk2_zero.2 ⟨g1, by simp, g3, fun r hr => by simp at hr⟩) _ _, hasOk_yes (chk2_zero.2 ⟨g2, by simp, g4, fun r hr => by simp at hr⟩) _ _, g3, g4⟩)
      clear h1 h2
      generalize hc : chk2 L M = c at *
      go_enter Try.func4, Try.ntmps4
      go_wp2_with fail
      refine HMI.out.mono ?_
      rintro e w1 ⟨v1, U, rfl, hf1, hok1, hno1, hl1⟩
      have HB1 := Lib.hid (below_trans HAL.out hf1.bel)
      have HF1 := Lib.hid hf1
      have HOK1 := Lib.hid hok1
      have HNO1 := Lib.hid hno1
      have HU1 := Lib.hid hl1
      have HP1 := Lib.hid (HPB.out.thru0 hf1.bel)
      have HME := Lib.hid (meet_any w1 _ _ L M (HL.out.below HB1.out) (HK.out.below HB1.out) (by have := HNB.out; omega) (by have := HNB.out; omega) (fun _ => by have := HNB.out; omega))
      rw [hc] at HME
      clear hf1 hok1 hno1 hl1 HMI
      go_wp2_with fail
      refine HME.out.mono ?_
      rintro e w2 ⟨v2, V, rfl, hf2, hok2, hno2, hl2⟩
      have HB2 := Lib.hid (below_trans HB1.out hf2.bel)
      have HF2 := Lib.hid hf2
      have HOK2 := Lib.hid hok2
      have HNO2 := Lib.hid hno2
      have HU2 := Lib.hid hl2
      have HP2 := Lib.hid (HP1.out.thru0 hf2.bel)
      have HR1 := Lib.hid (ERd.of_own elR_ok (HF1.out.own.below hf2.bel))
      have HR2 := Lib.hid (hf2.read elR_ok)
      clear hf2 hok2 hno2 hl2 HME
      have HCL := Lib.hid (fun X (hX : Below w2.heap.size w2 X) => (show X.cell? ⟨w.heap.size, 0, none⟩ = some (.int .i64 px) ∧ X.cell? ⟨w.heap.size, 1, none⟩ = some (.int .i64 py) from ⟨(HP2.out.thru0 hX).cell 0, (HP2.out.thru0 hX).cell 1⟩))
      have HS0 := Lib.hid (HCL.out w2 (Below.refl _ _))
      have HS1 := Lib.hid (HCL.out w2.drew (below_drawn (Below.refl _ _) 1))
      have HD2 := Lib.hid (show Below w2.heap.size w2 w2.drew from below_drawn (Below.refl _ _) 1)
      generalize hxa : hasOk L px py = xa at *
      generalize hxb : hasOk M px py = xb at *
      obtain ⟨A4, d4, rfl, -, -⟩ := HR1.out.shape
      obtain ⟨A5, d5, rfl, -, -⟩ := HR2.out.shape
      obtain ⟨nu, hnu⟩ : ∃ nu, nu = U.length := ⟨_, rfl⟩
      obtain ⟨nv, hnv⟩ : ∃ nv, nv = V.length := ⟨_, rfl⟩
      rw [← hnu] at HR1 HF1 ⊢
      rw [← hnv] at HR2 HF2 ⊢
      have HNU := Lib.hid hnu; have HNV := Lib.hid hnv
      clear hnu hnv
      go_upto_region 5 with fail
      go_region_held3 (fun w' => w'.cell? ⟨w.heap.size, 0, none⟩ = some (.int .i64 px) ∧ w'.cell? ⟨w.heap.size, 1, none⟩ = some (.int .i64 py)) (first | with_reducible exact HS9.out | with_reducible exact HS0.out | with_reducible exact HS1.out) (first
        | (go_at_call 18; with_reducible refine (HHB.out _ (below_trans HB2.out HD9.out)).mono ?_; rintro e w9 ⟨rfl, hb⟩; have HDA := Lib.hid (below_trans HD9.out hb); have HD9 := HDA; have HS9 := Lib.hid (HCL.out _ HDA.out); clear hb)
        | (go_at_call 18; with_reducible refine (HHA.out _ (below_trans HB2.out (by first | exact HD2.out | exact Below.refl _ _))).mono ?_; rintro e w8 ⟨rfl, hb⟩; have HD9 := Lib.hid (below_trans (show Below w2.heap.size w2 _ from by first | exact HD2.out | exact Below.refl _ _) hb); have HS9 := Lib.hid (HCL.out _ HD9.out); clear hb))
      have HDW := Lib.hid (below_trans HB2.out HDA.out)
      have HPW := Lib.hid (HP2.out.thru0 HDA.out)
      have HRU := Lib.hid (HR1.out.below HDA.out)
      have HRV := Lib.hid (HR2.out.below HDA.out)
      clear HHA HHB HCL HS0 HS1 HS9 HD2 HP1 HPB HAL HR1 HR2 HDA HD9 HP2
      by_cases h0 : c = 0
      · have hcb : (c != 0) = false := by simp [h0]
        obtain ⟨ea, eb, ra, rb⟩ := HX0.out h0
        have HFU := Lib.hid (HOK1.out h0)
        have HFV := Lib.hid (HOK2.out h0)
        have HA := Lib.hid ra
        have HB := Lib.hid rb
        clear h0 HX0 HOK1 HOK2 HNO1 HNO2 hxa hxb
        subst ea
        subst eb
        by_cases g1 : 256 < nu
        · have g1b : (256 : Int) < (nu : Int) := by omega
          clear g1
          go_wp2_with fail
          refine (known13_any _).mono ?_
          rintro e w5 ⟨rfl, hb5⟩
          have HB5 := Lib.hid (below_trans HDW.out hb5)
          go_wp2
          go_ret
          exact ⟨rfl, HB5.out⟩
        · have g1b : ¬ (256 : Int) < (nu : Int) := by omega
          by_cases g2 : 256 < nv
          · have g2b : (256 : Int) < (nv : Int) := by omega
            clear g1 g2
            go_wp2_with fail
            refine (known13_any _).mono ?_
            rintro e w5 ⟨rfl, hb5⟩
            have HB5 := Lib.hid (below_trans HDW.out hb5)
            go_wp2
            go_ret
            exact ⟨rfl, HB5.out⟩
          · have g2b : ¬ (256 : Int) < (nv : Int) := by omega
            have HUX := Lib.hid (show hasOk U px py = (hasAny L px py && !hasAny M px py) from by
              rw [hasOk_yes (chk2_zero.2 ⟨by rw [← HNU.out]; omega, by simp, form_right HFU.out (fun x y hx => hx.grid rfl HA.out HB.out), fun r hr => by simp at hr⟩)]
              exact has_form rfl HA.out HB.out HFU.out px py)
            have HVX := Lib.hid (show hasOk V px py = (hasAny L px py && hasAny M px py) from by
              rw [hasOk_yes (chk2_zero.2 ⟨by rw [← HNV.out]; omega, by simp, form_right HFV.out (fun x y hx => hx.grid rfl HA.out HB.out), fun r hr => by simp at hr⟩)]
              exact has_form rfl HA.out HB.out HFV.out px py)
            have HQ1 := Lib.hid (fun X (hX : Below w9.heap.size w9 X) => HRH.out X (below_trans HDW.out hX))
            have HQ2 := Lib.hid (fun X (hX : Below w9.heap.size w9 X) => has13_any X _ U px py (HRU.out.below hX) HU1.out)
            have HQ3 := Lib.hid (fun X (hX : Below w9.heap.size w9 X) => has13_any X _ V px py (HRV.out.below hX) HU2.out)
            have HCC := Lib.hid (fun X (hX : Below w9.heap.size w9 X) => (show X.cell? ⟨w.heap.size, 0, none⟩ = some (.int .i64 px) ∧ X.cell? ⟨w.heap.size, 1, none⟩ = some (.int .i64 py) from ⟨(HPW.out.thru0 hX).cell 0, (HPW.out.thru0 hX).cell 1⟩))
            rw [HUX.out] at HQ2
            rw [HVX.out] at HQ3
            clear g1 g2 HUX HVX HRH
            generalize hasAny L px py = xa at *
            generalize hasAny M px py = xb at *
            obtain ⟨z0, z1⟩ := HCC.out w9 (Below.refl _ _)
            cases xa <;> cases xb
            all_goals
              go_wp2_with fail
              refine (HQ1.out _ (Below.refl _ _)).mono ?_
              rintro e y1 ⟨rfl, hb⟩
              have HY1 := Lib.hid hb
              obtain ⟨z2, z3⟩ := HCC.out _ hb
              clear hb
              go_wp2_with fail
              refine (HQ2.out _ HY1.out).mono ?_
              rintro e y2 ⟨rfl, hb⟩
              have HY2 := Lib.hid (below_trans HY1.out hb)
              obtain ⟨z4, z5⟩ := HCC.out _ HY2.out
              clear hb
              go_wp2_with fail
              refine (HQ3.out _ HY2.out).mono ?_
              rintro e y3 ⟨rfl, hb⟩
              have HY3 := Lib.hid (below_trans HY2.out hb)
              clear hb
              go_wp2_with fail
              refine (known13_any _).mono ?_
              rintro e w5 ⟨rfl, hb5⟩
              have HB5 := Lib.hid (below_trans HDW.out (below_trans HY3.out hb5))
              go_wp2
              go_ret
              exact ⟨rfl, HB5.out⟩
      · have hcb : (c != 0) = true := by simpa using h0
        have hcc : (c == c) = true := by simp
        have e1 : nu = 0 := by rw [HNU.out, HNO1.out h0]; rfl
        have e2 : nv = 0 := by rw [HNV.out, HNO2.out h0]; rfl
        clear h0
        subst e1
        subst e2
        go_wp2_with fail
        refine (known13_any _).mono ?_
        rintro e w5 ⟨rfl, hb5⟩
        have HB5 := Lib.hid (below_trans HDW.out hb5)
        go_wp2
        go_ret
        exact ⟨rfl, HB5.out⟩
theorem walk (a1 : Option Addr) (n1 c1 : Nat) (a2 : Option Addr) (n2 c2 : Nat) (x y : Int) (w : World) (h : IsSl w 4 okBx a1 n1 c1) (k : IsSl w 4 okBx a2 n2 c2) (hx : -9223372036854775808 ≤ x ∧ x ≤ 9223372036854775807) (hy : -9223372036854775808 ≤ y ∧ y ≤ 9223372036854775807) :
    Calls Try.prog 4 #[.slice a1 n1 c1, .slice a2 n2 c2, .agg #[.int .i64 x, .int .i64 y]] w fun e w' => e = .returned (.bool true) ∧ Below w.heap.size w w' := by
  obtain ⟨L, h1, -⟩ := bxs_of h
  obtain ⟨M, k1, -⟩ := bxs_of k
  exact walkN _ _ L M x y w h1 k1
theorem own : ownKnob Try.prog.godebug = none := by kernel_rfl
theorem laidOut : laidOutB Try.prog = true := by kernel_rfl
set_option maxRecDepth 100000 in
theorem lifted (os : Os) (started : os.Started) (H : Type) (enc : TypeId × Value → H) :
    ReturnsInHanded {} Try.checked os 4 .any (Rows.regionPointsSpec.pre6 enc Try.prog Try.f4 Rows.regionPointsRow.domain false) (Rows.regionPointsSpec.post enc Try.prog Try.f4 false true false false) := by
  refine returnsInHanded_of_change_sized (C := Try.checked) own started (by kernel_rfl) Try.func4
    (ChangeSpec.witness6 (enc := enc) (C := Try.checked) false ⟨#[], #[.slice none 0 0, .slice none 0 0, .agg #[.int .i64 0, .int .i64 0]], []⟩ 8 (by kernel_rfl) (by kernel_rfl) (by kernel_rfl) (by kernel_rfl)) ?_
  intro W base args ds gs before hval0 hW hcnd hsz0 _
  have hval : ∀ (j : Nat) t v, Try.f4.params[j]? = some t → args[j]? = some v → Value.okWide Try.prog W .any base t v := hval0
  have hW' := hW
  obtain ⟨p, q, hA0, hV, rfl, hfz, hnd⟩ := hW
  have hA : DataW.TrodAll enc Try.prog W 0 (fun _ => true) true Try.f4.params.toList args.toList ds p := hA0
  rw [Try.params4] at hA hval
  obtain ⟨v0, vs0, d0, ds0, p0, q0, hargs, rfl, rfl, h0, r0⟩ := trodAll_cons hA
  obtain ⟨v1, vs1, d1, ds1, p1, q1, rfl, rfl, rfl, h1, r1⟩ := trodAll_cons r0
  obtain ⟨v2, vs2, d2, ds2, p2, q2, rfl, rfl, rfl, h2, r2⟩ := trodAll_cons r1
  obtain ⟨rfl, rfl, rfl⟩ := trodAll_nil r2
  obtain rfl : args = #[v0, v1, v2] := by cases args; simp_all
  obtain ⟨rfl, rfl⟩ := trodVars_none hV
  have k0 := h0
  have lt0 : ∀ x ∈ p0, x.block < W.heap.size := by obtain ⟨m, hm⟩ := k0; exact DataW.trod_lt m _ _ _ hm
  obtain ⟨a0, len0, cap0, rfl⟩ := okWide_slice Try.underlying22 (hval 0 22 v0 rfl rfl)
  have w0 : IsSl W 4 (okBxW W) a0 len0 cap0 := by
    obtain ⟨fuel, hf⟩ := h0
    exact isSl_of Try.underlying22 (by kernel_rfl) okBxP hf (fun n hn => of_decide_eq_true (List.all_eq_true.1 hsz0 n (DataW.weights_mem_each (j := 0) (t := 22) (d := d0) rfl rfl n hn)))
  have k1 := h1
  have lt1 : ∀ x ∈ p1, x.block < W.heap.size := by obtain ⟨m, hm⟩ := k1; exact DataW.trod_lt m _ _ _ hm
  obtain ⟨a1, len1, cap1, rfl⟩ := okWide_slice Try.underlying22 (hval 1 22 v1 rfl rfl)
  have w1 : IsSl W 4 (okBxW W) a1 len1 cap1 := by
    obtain ⟨fuel, hf⟩ := h1
    exact isSl_of Try.underlying22 (by kernel_rfl) okBxP hf (fun n hn => of_decide_eq_true (List.all_eq_true.1 hsz0 n (DataW.weights_mem_each (j := 1) (t := 22) (d := d1) rfl rfl n hn)))
  have k2 := h2
  have lt2 : ∀ x ∈ p2, x.block < W.heap.size := by obtain ⟨m, hm⟩ := k2; exact DataW.trod_lt m _ _ _ hm
  obtain ⟨c2_0, c2_1, y2_0, y2_1, m2, rfl, rfl, rfl, hy2_0, hy2_1⟩ := Joins.open_agg2 Try.underlying33 (by kernel_rfl) (by kernel_rfl) (hval 2 33 v2 rfl rfl) h2
  obtain ⟨a2_0, e2_0, rfl, w2_0⟩ := DataW.trod_int Try.underlying3 hy2_0
  simp only [List.cons.injEq, and_true] at e2_0
  subst e2_0
  obtain ⟨a2_1, e2_1, rfl, w2_1⟩ := DataW.trod_int Try.underlying3 hy2_1
  simp only [List.cons.injEq, and_true] at e2_1
  subst e2_1
  clear hA0 hval0
  refine (walk a0 len0 cap0 a1 len1 cap1 a2_0 a2_1 W w0 w1 (bounds_i64 w2_0) (bounds_i64 w2_1)).mono fun e W' ⟨he, bel⟩ => ?_
  subst he
  exact ⟨_, rfl, _, _, _, [], _, [], hW', trodAll_mk1 (shut_bool Try.underlying4 _), (trodAll_cons_mk (Below.trod laidOut (by kernel_rfl) (of_decide_eq_true (by kernel_rfl)) k0 bel lt0) (trodAll_cons_mk (Below.trod laidOut (by kernel_rfl) (of_decide_eq_true (by kernel_rfl)) k1 bel lt1) (trodAll_cons_mk (Below.trod laidOut (by kernel_rfl) (of_decide_eq_true (by kernel_rfl)) k2 bel lt2) trodAll_mk0))), rfl, bel.frame _, fun h => by cases h⟩
theorem over : Rows.regionPointsRow.holds Try.pinned (OpenSpec.ofChange Rows.regionPointsSpec) :=
  OpenClaim.holds_of_wide 4 Try.f4 rfl rfl rfl rfl rfl rfl rfl ⟨rfl, rfl, rfl, rfl, rfl⟩ rfl rfl rfl rfl rfl (by kernel_rfl) Try.func4 (by kernel_rfl)
    (of_decide_eq_true (by kernel_rfl)) (by unfold Func.isWrapper; first | (rw [if_pos (by decide +kernel)]; kernel_rfl) | (rw [if_neg (by decide +kernel)]; exact ⟨rfl, rfl⟩))
    (fun os started H enc _ => lifted os started H enc)
/-- The statement. -/
theorem proved : Rows.RegionPointsSaid := over
#print axioms proved
end Go.Proofs.Ytimfcgnnfgoaaaa.regionPoints
