/- AuditPlays: (P17.1, P17.2, P17.3) whatever is done with a trail, step by step it tells what the document says; what was drained and what is left is all that was put in. Conditions: none. -/
import Derived.Test.YtjkkhefdpcpjiaaAuP
namespace Go.Proofs.Ytjkkhefdpcpjiaa.auditPlays
set_option linter.unusedVariables false
set_option linter.unusedSimpArgs false
open Go.ChangeShapes Go.WideShapes Go.ChangeAt Go.RowKit
open Go.ChangeMaps (open_string shut_string)
set_option maxRecDepth 100000 in
set_option maxHeartbeats 32000000 in
theorem walkN (v : Value) (O : List Oa) (u : Int) (w : World) (h : ERd elOa w v O) (hO : ∀ o ∈ O, o.I) :
    Calls Try.prog 3 #[v, .int .i64 u] w fun e w' => e = .returned (.bool true) ∧ Below w.heap.size w w' := by
  obtain ⟨A1, c1, rfl, -, hc2⟩ := h.shape
  have HL := Lib.hid h
  clear h
  obtain ⟨n, hz⟩ : ∃ z, z = O.length := ⟨_, rfl⟩
  rw [← hz] at HL ⊢
  have hmx : n ≤ 9223372036854775807 := by obtain ⟨_, _, e, h1, h2, _⟩ := HL.out; unfold maxLen at h2; omega
  have HN := Lib.hid hz; clear hz hc2
  have HTY := Lib.hid (show Try.prog.underlying 25 = some (.slice elE.T) from Try.underlying25)
  go_enter Try.func3, Try.ntmps3
  go_wp2_with fail
  refine (anew_any _).mono ?_
  rintro e w1 ⟨rfl, hT1, hb1⟩
  have HT1 := Lib.hid hT1
  have HB1 := Lib.hid hb1
  clear hT1 hb1
  obtain ⟨y, hy⟩ : ∃ y, w.heap.size = y := ⟨_, rfl⟩
  rw [hy] at HT1 ⊢
  have HY : Hid (w.heap.size ≤ y) := by unfold Hid; omega
  clear hy
  go_wp2_with fail
  go_loopw [6, 7, 8] (fun a b i wr => ∃ (k : Nat) (v0 av gv : Value), k ≤ n ∧ k ≤ 100 ∧ a = av ∧ b = gv ∧ i = .int .i64 k ∧ Hid (PlA w y k v0 av gv wr)) (fun _ _ i _ => n - (intOf i).toNat)
  case atStart => exact ⟨0, .slice none 0 0, _, _, Nat.zero_le _, Nat.zero_le _, rfl, rfl, rfl, [], 0, 0, [], ⟨HB1.out, HT1.out, HY.out, fun i hi => by simp [Value.ownBlock] at hi, EOwn.nil_ _, fun i hi => by simp [Value.ownBlock] at hi, EOwn.nil_ _, fun i hi => by simp [Value.ownBlock] at hi, by simp [Value.ownBlock], by simp [Value.ownBlock], fun i hi => by simp [Value.ownBlock] at hi, fun i hi => by simp [Value.ownBlock] at hi, fun i hi => by simp [Value.ownBlock] at hi⟩, rfl, Nat.zero_le _, Nat.zero_le _, Nat.zero_le _⟩
  case round =>
    rename World => wr
    clear HT1 HB1
    obtain ⟨k, v0, av, gv, hk, hk2, ha, hg, rfl, HP⟩ := hrel
    have ha' := ha.symm
    have hg' := hg.symm
    clear ha hg
    subst ha'
    subst hg'
    obtain ⟨H, q, g, A, hs, hr, hHl, hAl, hgl⟩ := HP.out
    have HS := Lib.hid hs
    have HR := Lib.hid hr
    have HHL := Lib.hid hHl
    have HAL := Lib.hid hAl
    have HGL := Lib.hid hgl
    have QLE := Lib.hid hs.tr.gone
    clear HP hs hr hHl hAl hgl
    by_cases hlt : k < n
    · have hd1 : decide ((k : Int) < (n : Int)) = true := by simp; exact hlt
      by_cases h100 : k < 100
      · have hd2 : decide ((k : Int) < 100) = true := by simp; omega
        have hkl : k < O.length := by rw [← HN.out]; exact hlt
        have hx : O[k]? = some O[k] := List.getElem?_eq_getElem hkl
        have hI := hO _ (List.getElem_mem hkl)
        have HE := Lib.hid (HL.out.below HS.out.bel)
        generalize O[k] = x at *
        obtain ⟨kd, ⟨x0, x1, x2, x3⟩, nn⟩ := x
        have HNI := Lib.hid hI.n
        have HX := Lib.hid hx
        clear hI hx
        have hlt2 : (k : Int) < n := by omega
        by_cases hk0 : kd = 0
        · have hke : (kd == 0) = true := by simpa using hk0
          clear hk0
          obtain ⟨g1, o1, rfl, a0, a1, a2, a3, a4, a5⟩ := HE.out.six HX.out
          simp only at a0 a1 a2 a3 a4 a5
          go_wp2_with fail
          refine (aput_any wr y v0 H q g ⟨x0, x1, x2, x3⟩ HS.out.tr (by have := HHL.out; omega)).mono ?_
          rintro e w3 ⟨v3, rfl, hA⟩
          have HS3 := Lib.hid (HS.out.act hA)
          clear hA a0 a1 a2 a3 a4 a5 HS HE
          have HE3 := Lib.hid (HL.out.below HS3.out.bel)
          obtain ⟨g1', o1', e1', a0, a1, a2, a3, a4, a5⟩ := HE3.out.six HX.out
          simp only [Option.some.injEq, Addr.mk.injEq, and_true] at e1'
          obtain ⟨rfl, rfl⟩ := e1'
          simp only at a0 a1 a2 a3 a4 a5
          obtain ⟨Aa, ca, eA, _, _⟩ := HS3.out.oa.slice
          subst eA
          have HALL := Lib.hid (show A.length ≤ 1000000 by have := HAL.out; omega)
          go_upto_region 18 with ((at_builtin; refine wpList_epush elE_ok rfl (.tmp 38) (.tmp 44) _ rfl HTY.out _ A ⟨x0, x1, x2, x3⟩ w3.heap.size 1 rfl rfl (HS3.out.oa.below ((Below.refl _ _).alloc (Nat.le_refl _) _)) (new_e w3 _ ⟨x0, x1, x2, x3⟩) HALL.out ?_; intro v2 w4 hA2; have HS4 := Lib.hid (HS3.out.pushA hA2); clear hA2 HS3 HE3 a0 a1 a2 a3 a4 a5))
          have HR4 := Lib.hid (show (H ++ [(⟨x0, x1, x2, x3⟩ : Ev)]).drop q = (A ++ [(⟨x0, x1, x2, x3⟩ : Ev)]).drop g by rw [List.drop_append_of_le_length HGL.out, List.drop_append_of_le_length QLE.out, HR.out])
          have HT4 := Lib.hid (show (A ++ [(⟨x0, x1, x2, x3⟩ : Ev)]).take g = A.take g from List.take_append_of_le_length HGL.out)
          rw [← HT4.out] at HS4
          have HHL4 := Lib.hid (show (H ++ [(⟨x0, x1, x2, x3⟩ : Ev)]).length ≤ k + 1 by have := HHL.out; simp; omega)
          have HAL4 := Lib.hid (show (A ++ [(⟨x0, x1, x2, x3⟩ : Ev)]).length ≤ k + 1 by have := HAL.out; simp; omega)
          have HGL4 := Lib.hid (show g ≤ (A ++ [(⟨x0, x1, x2, x3⟩ : Ev)]).length by have := HGL.out; simp; omega)
          clear HR HHL HAL HGL HT4 HALL QLE
          have HS := HS4
          have HR := HR4
          have HHL := HHL4
          have HAL := HAL4
          have HGL := HGL4
          clear HS4 HR4 HHL4 HAL4 HGL4
          generalize H ++ [(⟨x0, x1, x2, x3⟩ : Ev)] = H at *
          generalize A ++ [(⟨x0, x1, x2, x3⟩ : Ev)] = A at *
          generalize w4 = wr at *
          generalize v3 = v0 at *
          generalize v2 = av at *
          have HRL := Lib.hid (show H.length - q = A.length - g by have := congrArg List.length HR.out; simpa using this)
          have HGT := Lib.hid (show (A.take g).length = g by rw [List.length_take]; exact Nat.min_eq_left HGL.out)
          obtain ⟨Aa, ca, eA, hca, _⟩ := HS.out.oa.slice
          obtain ⟨Ag, cg, eG, _, _⟩ := HS.out.og.slice
          rw [HGT.out] at eG
          have HRD := Lib.hid ((ERd.of_own elE_ok HS.out.oa).cut HGL.out)
          obtain ⟨Ac, cc, eC, _, _⟩ := HRD.out.shape
          rw [List.length_drop] at eC
          rw [eC] at HRD
          rw [eA] at eC
          have HSL := fun w => sl_from Aa g A.length ca HGL.out hca w
          rw [eC] at HSL
          have HHM := Lib.hid (show H.length ≤ 1000000 by have := HHL.out; omega)
          have HLF := Lib.hid (aleft_any wr y v0 H q g HS.out.tr HHM.out)
          rw [HR.out] at HLF
          have HDL := Lib.hid (show (A.drop g).length ≤ 1000000 by have := HAL.out; simp; omega)
          have hga : g ≤ A.length := HGL.out
          have hal100 : A.length ≤ 101 := by have := HAL.out; omega
          subst eA
          subst eG
          obtain ⟨a, ha⟩ : ∃ a, a = A.length := ⟨_, rfl⟩
          rw [← ha] at HS HSL HRD HRL hga hal100 ⊢
          obtain ⟨r, hr⟩ : ∃ r, r = a - g := ⟨_, rfl⟩
          rw [← hr] at HRL HSL HRD
          have HAA := Lib.hid ha
          have HRR := Lib.hid hr
          clear ha hr hca eC
          go_wp2_with fail
          refine HLF.out.mono ?_
          rintro e w5 ⟨lv, rfl, hO, hF, hb⟩
          have HS5 := Lib.hid (HS.out.below hb)
          have HRD5 := Lib.hid (HRD.out.below hb)
          have HO5 := Lib.hid (ERd.of_own elE_ok hO)
          clear hO hF hb HS HRD HLF HSL
          obtain ⟨A5, c5, e5, _, _⟩ := HO5.out.shape
          rw [List.length_drop, ← HAA.out, ← HRR.out] at e5
          subst e5
          go_wp2_with fail
          refine (rsameE_any w5 _ _ _ HO5.out HRD5.out HDL.out).mono ?_
          rintro e w6 ⟨rfl, q6, rfl⟩
          have HS6 := Lib.hid (HS5.out.below (below_drawn (Below.refl _ _) q6))
          have HRD6 := Lib.hid (HRD5.out.below (below_drawn (Below.refl _ _) q6))
          clear HS5 HRD5 HO5
          generalize w5.drewN q6 = w6 at *
          have HLE := Lib.hid (alen_any w6 y v0 H q g HS6.out.tr)
          rw [HRL.out] at HLE
          have hrr : ((r : Int) != (r : Int)) = false := by simp
          have hgg : ((g : Int) != (g : Int)) = false := by simp
          go_wp2_with fail
          refine HLE.out.mono ?_
          rintro e w7 ⟨rfl, q7, rfl⟩
          have HS7 := Lib.hid (HS6.out.below (below_drawn (Below.refl _ _) q7))
          have HRD7 := Lib.hid (HRD6.out.below (below_drawn (Below.refl _ _) q7))
          clear HS6 HRD6 HLE
          generalize w6.drewN q7 = w7 at *
          go_wp2_with fail
          refine (apast_any w7 y v0 H q g HS7.out.tr).mono ?_
          rintro e w8 ⟨rfl, hw8⟩
          subst hw8
          have HCO := Lib.hid (acount_any w7 y v0 H q g u HS7.out.tr HHM.out)
          rw [HR.out] at HCO
          go_wp2_with fail
          refine HCO.out.mono ?_
          rintro e w9 ⟨rfl, hb⟩
          have HS9 := Lib.hid (HS7.out.below hb)
          have HRD9 := Lib.hid (HRD7.out.below hb)
          clear hb HS7 HRD7 HCO
          go_wp2_with fail
          refine (rown_any w9 _ _ u HRD9.out HDL.out).mono ?_
          rintro e w10 ⟨ov, rfl, hFE⟩
          have HS10 := Lib.hid (HS9.out.below hFE.bel)
          obtain ⟨A10, c10, e10, _, _⟩ := hFE.own.slice
          subst e10
          clear hFE HS9 HRD9
          generalize (owns u (A.drop g)).length = cn at *
          have hcn : ((cn : Int) != (cn : Int)) = false := by simp
          clear hrr hgg
          go_wp2
          go_roundw
          case rel => exact ⟨k + 1, v0, _, _, by omega, by omega, rfl, rfl, by go_num, H, q, g, A, HS10.out, HR.out, HHL.out, HAL.out, HGL.out⟩
          case measure => simp [intOf]; omega
        · have hke : (kd == 0) = false := by simpa using hk0
          clear hk0
          obtain ⟨g1, o1, rfl, a0, a1, a2, a3, a4, a5⟩ := HE.out.six HX.out
          simp only at a0 a1 a2 a3 a4 a5
          have HDR := Lib.hid (drain_any wr y v0 H q g nn HS.out.tr (by have := HHL.out; omega))
          have HLEN := Lib.hid (show H.length - q = (A.drop g).length by have := congrArg List.length HR.out; simpa using this)
          go_wp2_with fail
          refine HDR.out.mono ?_
          rintro e w3 ⟨dv, v3, H3, n3, rfl, hD, hF, hA, hd, hl, hap⟩
          rw [HR.out, HLEN.out] at hD hd
          rw [HLEN.out] at hA
          have HK := Lib.hid (show drN (A.drop g).length nn ≤ A.length - g by have := drN_le (A.drop g).length nn; simpa using this)
          have HPG := Lib.hid (drn_page (A.drop g) nn)
          generalize drN (A.drop g).length nn = K at *
          have HTA := Lib.hid (show A.take g ++ (A.drop g).take K = A.take (g + K) from (List.take_add).symm)
          have HGK := Lib.hid (show g + K ≤ A.length by have := HK.out; have := HGL.out; omega)
          rw [Nat.min_eq_left (show g + K ≤ 4611686018427387903 by have := HGK.out; have := HAL.out; omega)] at hA
          rw [List.drop_drop] at hd
          have HD3 := Lib.hid hD
          have HAPG := Lib.hid (show ∀ i, dv.ownBlock = some i → gv.ownBlock ≠ some i from fun i hi e => by have := hF i hi; have := HS.out.og.lt e; omega)
          have HS3 := Lib.hid (HS.out.act hA)
          have HR3 := Lib.hid hd
          have HHL3 := Lib.hid (Nat.le_trans hl HHL.out)
          clear hD hF hA hd hl hap HS HHL HDR HE HR HLEN HK a0 a1 a2 a3 a4 a5
          obtain ⟨g1', o1', e1', a0, a1, a2, a3, a4, a5⟩ := (HL.out.below HS3.out.bel).six HX.out
          simp only [Option.some.injEq, Addr.mk.injEq, and_true] at e1'
          obtain ⟨rfl, rfl⟩ := e1'
          simp only at a0 a1 a2 a3 a4 a5
          have HGT := Lib.hid (show (A.take g).length = g by rw [List.length_take]; exact Nat.min_eq_left HGL.out)
          obtain ⟨Aa, ca, eA, hca, _⟩ := HS3.out.oa.slice
          obtain ⟨Ag, cg, eG, _, _⟩ := HS3.out.og.slice
          rw [HGT.out] at eG
          have HRD := Lib.hid ((ERd.of_own elE_ok HS3.out.oa).cut HGL.out)
          obtain ⟨Ac, cc, eC, _, _⟩ := HRD.out.shape
          rw [eC] at HRD
          rw [eA] at eC
          have HSL := fun w => sl_from Aa g A.length ca HGL.out hca w
          rw [eC] at HSL
          have hga : g ≤ A.length := HGL.out
          have hal100 : A.length ≤ 101 := by have := HAL.out; omega
          subst eA
          subst eG
          have HDL := Lib.hid (show (A.drop g).length ≤ 1000000 by have := HAL.out; simp; omega)
          obtain ⟨a, ha⟩ : ∃ a, a = A.length := ⟨_, rfl⟩
          rw [← ha] at HS3 HSL hga hal100 ⊢
          obtain ⟨r, hr⟩ : ∃ r, r = (A.drop g).length := ⟨_, rfl⟩
          rw [← hr] at HSL HRD HDL
          have HAA := Lib.hid ha
          have HRR := Lib.hid hr
          clear ha hr hca eC
          obtain ⟨Ad, cd, eD, _, _⟩ := HD3.out.slice
          obtain ⟨dl, hdl⟩ : ∃ m, m = ((A.drop g).take K).length := ⟨_, rfl⟩
          rw [← hdl] at eD
          have HDN := Lib.hid hdl
          have hdl100 : dl ≤ 101 := by rw [hdl, List.length_take, List.length_drop, ← HAA.out]; omega
          clear hdl
          subst eD
          go_upto_region 12 with fail
          clear HSL
          have HPA := Lib.hid (rpage_any w3 _ (A.drop g) 0 nn HRD.out (by rw [← HRR.out]; exact HDL.out) (by decide) HNI.out)
          go_wp2_with fail
          refine HPA.out.mono ?_
          rintro e w4 ⟨pv, rfl, hFE⟩
          rw [← HPG.out] at hFE
          have HS4 := Lib.hid (HS3.out.below hFE.bel)
          have HD4 := Lib.hid (HD3.out.below hFE.bel)
          have HO4 := Lib.hid (ERd.of_own elE_ok hFE.own)
          obtain ⟨A4, c4, e4, _, _⟩ := hFE.own.slice
          rw [← HDN.out] at e4
          subst e4
          clear hFE HPA HS3 HD3 HRD a0 a1 a2 a3 a4 a5
          go_wp2_with fail
          refine (rsameE_any w4 _ _ _ (ERd.of_own elE_ok HD4.out) HO4.out (by rw [← HDN.out]; omega)).mono ?_
          rintro e w5 ⟨rfl, q5, rfl⟩
          have HS5 := Lib.hid (HS4.out.below (below_drawn (Below.refl _ _) q5))
          have HD5 := Lib.hid (HD4.out.below (below_drawn (Below.refl _ _) q5))
          clear HS4 HD4 HO4
          generalize w4.drewN q5 = w5 at *
          generalize hDD : (A.drop g).take K = D at *
          have HDD := Lib.hid hDD
          clear hDD
          go_wp2_with fail
          go_loopw [7, 11] (fun b i wr => ∃ (j : Nat) (gv : Value), j ≤ dl ∧ b = gv ∧ i = .int .i64 j ∧ Hid (SP w wr y v3 H3 n3 (g + K) (.slice Aa a ca) A gv (A.take g ++ D.take j)) ∧ Hid (EOwn elE wr (.slice Ad dl cd) D) ∧ Hid (∀ i, (Value.slice Ad dl cd).ownBlock = some i → gv.ownBlock ≠ some i)) (fun _ i _ => dl - (intOf i).toNat)
          case atStart => exact ⟨0, _, Nat.zero_le _, rfl, rfl, by simpa [Hid] using HS5.out, HD5.out, HAPG.out⟩
          case round =>
            rename World => wr
            clear HS5 HD5 HAPG
            obtain ⟨j, gv, hj, hv, rfl, HS, HD, HAP⟩ := hrel
            have hv' := hv.symm
            clear hv
            subst hv'
            by_cases hjm : j < dl
            · have hkl : j < D.length := by rw [← HDN.out]; exact hjm
              have hx : D[j]? = some D[j] := List.getElem?_eq_getElem hkl
              have HTS := Lib.hid (show A.take g ++ D.take (j + 1) = (A.take g ++ D.take j) ++ [D[j]] by rw [List.take_succ_eq_append_getElem hkl, List.append_assoc])
              have HLE := Lib.hid (show (A.take g ++ D.take j).length ≤ 1000000 by simp; omega)
              obtain ⟨gd, rfl, b0, b1, b2, b3⟩ := HD.out.four hx
              generalize D[j] = x at *
              clear hx
              obtain ⟨z0, z1, z2, z3⟩ := x
              simp only at b0 b1 b2 b3 HTS
              have hjm' : (j : Int) < dl := by omega
              obtain ⟨A6, c6, e6, _, _⟩ := HS.out.og.slice
              subst e6
              generalize hFL : A.take g ++ D.take j = FL at *
              have HFL := Lib.hid hFL
              clear hFL
              go_wp2_with ((at_builtin; refine wpList_epush elE_ok rfl (.tmp 73) (.tmp 78) _ rfl HTY.out _ FL ⟨z0, z1, z2, z3⟩ wr.heap.size 1 rfl rfl (HS.out.og.below ((Below.refl _ _).alloc (Nat.le_refl _) _)) (new_e wr _ ⟨z0, z1, z2, z3⟩) HLE.out ?_; intro v2 w6 hA2; have HS6 := Lib.hid (HS.out.pushG hA2); have HD6 := Lib.hid (row_push HD.out HAP.out hA2); clear hA2))
              go_roundw
              case rel => exact ⟨j + 1, _, by omega, rfl, by go_num, by have h9 := HS6.out; rw [← HTS.out] at h9; exact h9, HD6.out.1, HD6.out.2⟩
              case measure => simp [intOf]; omega
            · obtain rfl : j = dl := by omega
              have HS6 := Lib.hid (show SP w wr y v3 H3 n3 (g + K) (.slice Aa a ca) A gv (A.take (g + K)) by rw [← HTA.out]; have h9 := HS.out; have hPj : D.take j = D := List.take_of_length_le (by rw [← HDN.out]; omega); rw [hPj] at h9; exact h9)
              clear HS HD HAP
              go_upto_region 18 with fail
              have HS := HS6
              have HR := HR3
              have HHL := Lib.hid (show H3.length ≤ k + 1 by have := HHL3.out; omega)
              have HAL2 := Lib.hid (show A.length ≤ k + 1 by have := HAL.out; omega)
              clear HAL HGL hga hal100 hdl100 HS6 HR3 HHL3
              have HAL := HAL2
              have HGL := HGK
              clear HAL2 HGK HTA
              generalize g + K = g at *
              generalize H3 = H at *
              generalize n3 = q at *
              generalize v3 = v0 at *
              generalize (Value.slice Aa a ca) = av at *
              have HRL := Lib.hid (show H.length - q = A.length - g by have := congrArg List.length HR.out; simpa using this)
              have HGT := Lib.hid (show (A.take g).length = g by rw [List.length_take]; exact Nat.min_eq_left HGL.out)
              obtain ⟨Aa, ca, eA, hca, _⟩ := HS.out.oa.slice
              obtain ⟨Ag, cg, eG, _, _⟩ := HS.out.og.slice
              rw [HGT.out] at eG
              have HRD := Lib.hid ((ERd.of_own elE_ok HS.out.oa).cut HGL.out)
              obtain ⟨Ac, cc, eC, _, _⟩ := HRD.out.shape
              rw [List.length_drop] at eC
              rw [eC] at HRD
              rw [eA] at eC
              have HSL := fun w => sl_from Aa g A.length ca HGL.out hca w
              rw [eC] at HSL
              have HHM := Lib.hid (show H.length ≤ 1000000 by have := HHL.out; omega)
              have HLF := Lib.hid (aleft_any wr y v0 H q g HS.out.tr HHM.out)
              rw [HR.out] at HLF
              have HDL := Lib.hid (show (A.drop g).length ≤ 1000000 by have := HAL.out; simp; omega)
              have hga : g ≤ A.length := HGL.out
              have hal100 : A.length ≤ 101 := by have := HAL.out; omega
              subst eA
              subst eG
              obtain ⟨a, ha⟩ : ∃ a, a = A.length := ⟨_, rfl⟩
              rw [← ha] at HS HSL HRD HRL hga hal100 ⊢
              obtain ⟨r, hr⟩ : ∃ r, r = a - g := ⟨_, rfl⟩
              rw [← hr] at HRL HSL HRD
              have HAA := Lib.hid ha
              have HRR := Lib.hid hr
              clear ha hr hca eC
              go_wp2_with fail
              refine HLF.out.mono ?_
              rintro e w5 ⟨lv, rfl, hO, hF, hb⟩
              have HS5 := Lib.hid (HS.out.below hb)
              have HRD5 := Lib.hid (HRD.out.below hb)
              have HO5 := Lib.hid (ERd.of_own elE_ok hO)
              clear hO hF hb HS HRD HLF HSL
              obtain ⟨A5, c5, e5, _, _⟩ := HO5.out.shape
              rw [List.length_drop, ← HAA.out, ← HRR.out] at e5
              subst e5
              go_wp2_with fail
              refine (rsameE_any w5 _ _ _ HO5.out HRD5.out HDL.out).mono ?_
              rintro e w6 ⟨rfl, q6, rfl⟩
              have HS6 := Lib.hid (HS5.out.below (below_drawn (Below.refl _ _) q6))
              have HRD6 := Lib.hid (HRD5.out.below (below_drawn (Below.refl _ _) q6))
              clear HS5 HRD5 HO5
              generalize w5.drewN q6 = w6 at *
              have HLE := Lib.hid (alen_any w6 y v0 H q g HS6.out.tr)
              rw [HRL.out] at HLE
              have hrr : ((r : Int) != (r : Int)) = false := by simp
              have hgg : ((g : Int) != (g : Int)) = false := by simp
              go_wp2_with fail
              refine HLE.out.mono ?_
              rintro e w7 ⟨rfl, q7, rfl⟩
              have HS7 := Lib.hid (HS6.out.below (below_drawn (Below.refl _ _) q7))
              have HRD7 := Lib.hid (HRD6.out.below (below_drawn (Below.refl _ _) q7))
              clear HS6 HRD6 HLE
              generalize w6.drewN q7 = w7 at *
              go_wp2_with fail
              refine (apast_any w7 y v0 H q g HS7.out.tr).mono ?_
              rintro e w8 ⟨rfl, hw8⟩
              subst hw8
              have HCO := Lib.hid (acount_any w7 y v0 H q g u HS7.out.tr HHM.out)
              rw [HR.out] at HCO
              go_wp2_with fail
              refine HCO.out.mono ?_
              rintro e w9 ⟨rfl, hb⟩
              have HS9 := Lib.hid (HS7.out.below hb)
              have HRD9 := Lib.hid (HRD7.out.below hb)
              clear hb HS7 HRD7 HCO
              go_wp2_with fail
              refine (rown_any w9 _ _ u HRD9.out HDL.out).mono ?_
              rintro e w10 ⟨ov, rfl, hFE⟩
              have HS10 := Lib.hid (HS9.out.below hFE.bel)
              obtain ⟨A10, c10, e10, _, _⟩ := hFE.own.slice
              subst e10
              clear hFE HS9 HRD9
              generalize (owns u (A.drop g)).length = cn at *
              have hcn : ((cn : Int) != (cn : Int)) = false := by simp
              clear hrr hgg
              go_wp2
              go_roundw
              case rel => exact ⟨k + 1, v0, _, _, by omega, by omega, rfl, rfl, by go_num, H, q, g, A, HS10.out, HR.out, HHL.out, HAL.out, HGL.out⟩
              case measure => simp [intOf]; omega
      · have hd2 : decide ((k : Int) < 100) = false := by simp; omega
        have HGT := Lib.hid (show (A.take g).length = g by rw [List.length_take]; exact Nat.min_eq_left HGL.out)
        obtain ⟨Aa, ca, eA, hca, _⟩ := HS.out.oa.slice
        obtain ⟨Ag, cg, eG, _, _⟩ := HS.out.og.slice
        rw [HGT.out] at eG
        subst eA
        subst eG
        have HRD := Lib.hid ((ERd.of_own elE_ok HS.out.oa).take (n := g) HGL.out)
        have HRG := Lib.hid (ERd.of_own elE_ok HS.out.og)
        have HB := Lib.hid HS.out.bel
        have hsl := fun w => sl_to Aa g A.length ca (Nat.le_trans HGL.out hca) w
        have hga : g ≤ A.length := HGL.out
        have hal100 : A.length ≤ 101 := by have := HAL.out; omega
        obtain ⟨a, ha⟩ : ∃ a, a = A.length := ⟨_, rfl⟩
        rw [← ha] at hsl hga hal100 ⊢
        clear HS ha hca
        go_wp2_with fail
        refine (rsameE_any wr _ _ _ HRG.out HRD.out (by rw [HGT.out]; omega)).mono ?_
        rintro e w4 ⟨rfl, q4, rfl⟩
        have HB4 := Lib.hid (below_drawn HB.out q4)
        clear HB HRD HRG hsl
        generalize wr.drewN q4 = w4 at *
        go_wp2_with fail
        refine (aknown_any _).mono ?_
        rintro e w5 ⟨rfl, hb⟩
        have HB5 := Lib.hid (below_trans HB4.out hb)
        clear hb
        go_wp2
        go_ret
        exact ⟨rfl, HB5.out⟩
    · have hd1 : decide ((k : Int) < (n : Int)) = false := by simp; omega
      have HGT := Lib.hid (show (A.take g).length = g by rw [List.length_take]; exact Nat.min_eq_left HGL.out)
      obtain ⟨Aa, ca, eA, hca, _⟩ := HS.out.oa.slice
      obtain ⟨Ag, cg, eG, _, _⟩ := HS.out.og.slice
      rw [HGT.out] at eG
      subst eA
      subst eG
      have HRD := Lib.hid ((ERd.of_own elE_ok HS.out.oa).take (n := g) HGL.out)
      have HRG := Lib.hid (ERd.of_own elE_ok HS.out.og)
      have HB := Lib.hid HS.out.bel
      have hsl := fun w => sl_to Aa g A.length ca (Nat.le_trans HGL.out hca) w
      have hga : g ≤ A.length := HGL.out
      have hal100 : A.length ≤ 101 := by have := HAL.out; omega
      obtain ⟨a, ha⟩ : ∃ a, a = A.length := ⟨_, rfl⟩
      rw [← ha] at hsl hga hal100 ⊢
      clear HS ha hca
      go_wp2_with fail
      refine (rsameE_any wr _ _ _ HRG.out HRD.out (by rw [HGT.out]; omega)).mono ?_
      rintro e w4 ⟨rfl, q4, rfl⟩
      have HB4 := Lib.hid (below_drawn HB.out q4)
      clear HB HRD HRG hsl
      generalize wr.drewN q4 = w4 at *
      go_wp2_with fail
      refine (aknown_any _).mono ?_
      rintro e w5 ⟨rfl, hb⟩
      have HB5 := Lib.hid (below_trans HB4.out hb)
      clear hb
      go_wp2
      go_ret
      exact ⟨rfl, HB5.out⟩
theorem walk (a : Option Addr) (z c : Nat) (u : Int) (w : World) (h : IsSl w 6 okOa a z c) (hu : -9223372036854775808 ≤ u ∧ u ≤ 9223372036854775807) :
    Calls Try.prog 3 #[.slice a z c, .int .i64 u] w fun e w' => e = .returned (.bool true) ∧ Below w.heap.size w w' := by
  obtain ⟨L, h1, _, h3⟩ := oas_of h
  exact walkN _ L u w h1 h3
theorem own : ownKnob Try.prog.godebug = none := by kernel_rfl
theorem laidOut : laidOutB Try.prog = true := by kernel_rfl
set_option maxRecDepth 100000 in
theorem lifted (os : Os) (started : os.Started) (H : Type) (enc : TypeId × Value → H) :
    ReturnsInHanded {} Try.checked os 3 .any (Rows.auditPlaysSpec.pre6 enc Try.prog Try.f3 Rows.auditPlaysRow.domain false) (Rows.auditPlaysSpec.post enc Try.prog Try.f3 false true false false) := by
  refine returnsInHanded_of_change_sized (C := Try.checked) own started (by kernel_rfl) Try.func3
    (ChangeSpec.witness6 (enc := enc) (C := Try.checked) false ⟨#[], #[.slice none 0 0, .int .i64 0], []⟩ 8 (by kernel_rfl) (by kernel_rfl) (by kernel_rfl) (by kernel_rfl)) ?_
  intro W base args ds gs before hval0 hW hcnd hsz0 _
  have hval : ∀ (j : Nat) t v, Try.f3.params[j]? = some t → args[j]? = some v → Value.okWide Try.prog W .any base t v := hval0
  have hW' := hW
  obtain ⟨p, q, hA0, hV, rfl, hfz, hnd⟩ := hW
  have hA : DataW.TrodAll enc Try.prog W 0 (fun _ => true) true Try.f3.params.toList args.toList ds p := hA0
  rw [Try.params3] at hA hval
  obtain ⟨v0, vs0, d0, ds0, p0, q0, hargs, rfl, rfl, h0, r0⟩ := trodAll_cons hA
  obtain ⟨v1, vs1, d1, ds1, p1, q1, rfl, rfl, rfl, h1, r1⟩ := trodAll_cons r0
  obtain ⟨rfl, rfl, rfl⟩ := trodAll_nil r1
  obtain rfl : args = #[v0, v1] := by cases args; simp_all
  obtain ⟨rfl, rfl⟩ := trodVars_none hV
  have k0 := h0
  have lt0 : ∀ x ∈ p0, x.block < W.heap.size := by obtain ⟨m, hm⟩ := k0; exact DataW.trod_lt m _ _ _ hm
  obtain ⟨a0, len0, cap0, rfl⟩ := okWide_slice Try.underlying22 (hval 0 22 v0 rfl rfl)
  have w0 : IsSl W 6 (okOaW W) a0 len0 cap0 := by
    obtain ⟨fuel, hf⟩ := h0
    exact isSl_of Try.underlying22 (by kernel_rfl) okOaP hf (fun n hn => of_decide_eq_true (List.all_eq_true.1 hsz0 n (DataW.weights_mem_each (j := 0) (t := 22) (d := d0) rfl rfl n hn)))
  have k1 := h1
  have lt1 : ∀ x ∈ p1, x.block < W.heap.size := by obtain ⟨m, hm⟩ := k1; exact DataW.trod_lt m _ _ _ hm
  obtain ⟨a1, rfl, rfl, rfl, w1⟩ := open_int Try.underlying3 (hval 1 3 v1 rfl rfl) h1
  clear hA0 hval0
  refine (walk a0 len0 cap0 a1 W w0 (bounds_i64 w1)).mono fun e W' ⟨he, bel⟩ => ?_
  subst he
  exact ⟨_, rfl, _, _, _, [], _, [], hW', trodAll_mk1 (shut_bool Try.underlying4 _), (trodAll_cons_mk (Below.trod laidOut (by kernel_rfl) (of_decide_eq_true (by kernel_rfl)) k0 bel lt0) (trodAll_cons_mk (Below.trod laidOut (by kernel_rfl) (of_decide_eq_true (by kernel_rfl)) k1 bel lt1) trodAll_mk0)), rfl, bel.frame _, fun h => by cases h⟩
theorem over : Rows.auditPlaysRow.holds Try.pinned (OpenSpec.ofChange Rows.auditPlaysSpec) :=
  OpenClaim.holds_of_wide 3 Try.f3 rfl rfl rfl rfl rfl rfl rfl ⟨rfl, rfl, rfl, rfl, rfl⟩ rfl rfl rfl rfl rfl (by kernel_rfl) Try.func3 (by kernel_rfl)
    (of_decide_eq_true (by kernel_rfl)) (by unfold Func.isWrapper; first | (rw [if_pos (by decide +kernel)]; kernel_rfl) | (rw [if_neg (by decide +kernel)]; exact ⟨rfl, rfl⟩))
    (fun os started H enc _ => lifted os started H enc)
/-- The statement. -/
theorem proved : Rows.AuditPlaysSaid := over
#print axioms proved
end Go.Proofs.Ytjkkhefdpcpjiaa.auditPlays
