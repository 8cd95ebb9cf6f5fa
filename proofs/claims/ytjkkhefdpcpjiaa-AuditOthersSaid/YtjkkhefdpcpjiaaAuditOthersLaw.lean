/- AuditOthers: (P17.5) what others do turns nothing of one's own events. Conditions: none. -/
import Derived.Test.YtjkkhefdpcpjiaaAuF
import Derived.Test.YtjkkhefdpcpjiaaAuH
namespace Go.Proofs.Ytjkkhefdpcpjiaa.auditOthers
set_option linter.unusedVariables false
set_option linter.unusedSimpArgs false
open Go.ChangeShapes Go.WideShapes Go.ChangeAt Go.RowKit
open Go.ChangeMaps (open_string shut_string)
theorem owns_app (u : Int) (A B : List Ev) : owns u (A ++ B) = owns u A ++ owns u B := by simp [owns]
theorem owns_one_no {u : Int} {x : Ev} (h : x.user ≠ u) : owns u [x] = [] := by simp [owns, h]
set_option maxRecDepth 100000 in
set_option maxHeartbeats 16000000 in
theorem walkN (v v' : Value) (L M : List Ev) (u : Int) (w : World) (h : ERd elE w v L) (h' : ERd elE w v' M) :
    Calls Try.prog 6 #[v, v', .int .i64 u] w fun e w' => e = .returned (.bool true) ∧ Below w.heap.size w w' := by
  obtain ⟨A1, c1, rfl, -, -⟩ := h.shape
  obtain ⟨A2, c2, rfl, -, -⟩ := h'.shape
  have HL := Lib.hid h
  have HM := Lib.hid h'
  clear h h'
  have HFI := Lib.hid (filled_any w _ L HL.out)
  obtain ⟨n, hz⟩ : ∃ z, z = L.length := ⟨_, rfl⟩
  rw [← hz] at HL HFI ⊢
  have HN := Lib.hid hz; clear hz
  obtain ⟨m, hz⟩ : ∃ z, z = M.length := ⟨_, rfl⟩
  rw [← hz] at HM ⊢
  have HMN := Lib.hid hz; clear hz
  by_cases h9 : 90 < n
  · have h9' : (90 : Int) < (n : Int) := by omega
    clear h9
    go_enter Try.func6, Try.ntmps6
    go_wp2_with fail
    refine (aknown_any _).mono ?_
    rintro e w1 ⟨rfl, hb⟩
    go_wp2
    go_ret
    exact ⟨rfl, hb⟩
  by_cases h8 : 90 < m
  · have h9' : ¬ (90 : Int) < (n : Int) := by omega
    have h8' : (90 : Int) < (m : Int) := by omega
    clear h9 h8
    go_enter Try.func6, Try.ntmps6
    go_wp2_with fail
    refine (aknown_any _).mono ?_
    rintro e w1 ⟨rfl, hb⟩
    go_wp2
    go_ret
    exact ⟨rfl, hb⟩
  have h9' : ¬ (90 : Int) < (n : Int) := by omega
  have h8' : ¬ (90 : Int) < (m : Int) := by omega
  have hn90 : n ≤ 90 := by omega
  have hm90 : m ≤ 90 := by omega
  have HT := Lib.hid (show L.take 200 = L from List.take_of_length_le (by rw [← HN.out]; omega))
  rw [HT.out] at HFI
  clear h9 h8
  go_enter Try.func6, Try.ntmps6
  go_wp2_with fail
  refine HFI.out.mono ?_
  rintro e w1 ⟨y, v1, rfl, hb, hT, hy, hv⟩
  have HB1 := Lib.hid hb
  have HT1 := Lib.hid hT
  clear hb hT hy hv HFI h9' h8'
  go_wp2_with fail
  refine (anew_any _).mono ?_
  rintro e w2 ⟨rfl, hT, hb⟩
  have HB2 := Lib.hid hb
  have HT2 := Lib.hid hT
  clear hb hT
  obtain ⟨y2, hy⟩ : ∃ y, w1.heap.size = y := ⟨_, rfl⟩
  rw [hy] at HT2 ⊢
  have HY : Hid (w1.heap.size ≤ y2) := by unfold Hid; omega
  clear hy
  go_wp2_with fail
  go_loopw [9] (fun i wr => ∃ (k : Nat) (v0 : Value) (Hu : List Ev), k ≤ 90 ∧ i = .int .i64 k ∧ Hid (Below w1.heap.size w1 wr) ∧ Hid (TR wr y2 v0 Hu 0 0) ∧ Hid (∀ i, v0.ownBlock = some i → w1.heap.size ≤ i) ∧ Hid (owns u Hu = owns u (L.take k)) ∧ Hid (Hu.length ≤ 2 * k)) (fun i _ => 90 - (intOf i).toNat)
  case atStart => exact ⟨0, _, [], Nat.zero_le _, rfl, HB2.out, HT2.out, fun i hi => by simp [Value.ownBlock] at hi, by simp [Hid], by simp [Hid]⟩
  case round =>
    rename World => wr
    clear HT2 HB2
    obtain ⟨k, v0, Hu, hk, rfl, HB, HTU, HV, HO, HLE⟩ := hrel
    by_cases hlm : k < m
    · have hlm' : (k : Int) < (m : Int) := by omega
      have hd2 : decide ((k : Int) < (m : Int)) = true := by simp; exact hlm
      have hkm : k < M.length := by rw [← HMN.out]; exact hlm
      have hx : M[k]? = some M[k] := List.getElem?_eq_getElem hkm
      obtain ⟨g, o, rfl, a0, a1, a2, a3⟩ := (HM.out.below (below_trans HB1.out HB.out)).four hx
      generalize M[k] = x at *
      clear hx
      obtain ⟨x0, x1, x2, x3⟩ := x
      simp only at a0 a1 a2 a3
      by_cases hu : x0 = u
      · have he : (x0 != u) = false := by simpa using hu
        have HLE1 := Lib.hid (show Hu.length ≤ 2 * k + 1 by have := HLE.out; omega)
        clear HLE hu
        have HLE := HLE1
        clear HLE1
        by_cases hln : k < n
        · have hln' : (k : Int) < (n : Int) := by omega
          have hd1 : decide ((k : Int) < (n : Int)) = true := by simp; exact hln
          have hkl : k < L.length := by rw [← HN.out]; exact hln
          have hx : L[k]? = some L[k] := List.getElem?_eq_getElem hkl
          have HTS := Lib.hid (show L.take (k + 1) = L.take k ++ [L[k]] from List.take_succ_eq_append_getElem hkl)
          obtain ⟨g, o, rfl, b0, b1, b2, b3⟩ := (HL.out.below (below_trans HB1.out HB.out)).four hx
          generalize L[k] = x at *
          clear hx
          obtain ⟨x0, x1, x2, x3⟩ := x
          simp only at b0 b1 b2 b3 HTS
          go_wp2_with fail
          refine (aput_any wr y2 v0 Hu 0 0 ⟨x0, x1, x2, x3⟩ HTU.out (by have := HLE.out; omega)).mono ?_
          rintro e w4 ⟨v4, rfl, hA⟩
          have HB4 := Lib.hid (hA.ke.bel HB.out HY.out HV.out)
          have HV4 := Lib.hid (hA.farB HB.out.size HV.out)
          have HT4 := Lib.hid hA.tr
          have HO4 := Lib.hid (show owns u (Hu ++ [⟨x0, x1, x2, x3⟩]) = owns u (L.take (k + 1)) by rw [HTS.out, owns_app, owns_app, HO.out])
          have HLE4 := Lib.hid (show (Hu ++ [(⟨x0, x1, x2, x3⟩ : Ev)]).length ≤ 2 * (k + 1) by have := HLE.out; simp; omega)
          clear hA b0 b1 b2 b3 HB HTU HV
          go_wp2
          go_roundw
          case rel => exact ⟨k + 1, v4, _, by omega, by go_num, HB4, HT4, HV4, HO4, HLE4⟩
          case measure => simp [intOf]; omega
        · have hln' : ¬ (k : Int) < (n : Int) := by omega
          have hd1 : decide ((k : Int) < (n : Int)) = false := by simp; omega
          have HO4 := Lib.hid (show owns u Hu = owns u (L.take (k + 1)) by rw [HO.out, List.take_of_length_le (by rw [← HN.out]; omega), List.take_of_length_le (by rw [← HN.out]; omega)])
          have HLE4 := Lib.hid (show Hu.length ≤ 2 * (k + 1) by have := HLE.out; omega)
          go_wp2
          go_roundw
          case rel => exact ⟨k + 1, v0, _, by omega, by go_num, HB, HTU, HV, HO4, HLE4⟩
          case measure => simp [intOf]; omega
      · have he : (x0 != u) = true := by simpa using hu
        go_wp2_with fail
        refine (aput_any wr y2 v0 Hu 0 0 ⟨x0, x1, x2, x3⟩ HTU.out (by have := HLE.out; omega)).mono ?_
        rintro e w3 ⟨v3, rfl, hA⟩
        have HB3 := Lib.hid (hA.ke.bel HB.out HY.out HV.out)
        have HV3 := Lib.hid (hA.farB HB.out.size HV.out)
        have HT3 := Lib.hid hA.tr
        have HO3 := Lib.hid (show owns u (Hu ++ [⟨x0, x1, x2, x3⟩]) = owns u (L.take k) by rw [owns_app, owns_one_no hu, List.append_nil, HO.out])
        have HLE3 := Lib.hid (show (Hu ++ [(⟨x0, x1, x2, x3⟩ : Ev)]).length ≤ 2 * k + 1 by have := HLE.out; simp; omega)
        clear hA a0 a1 a2 a3 HB HTU HV HO HLE hu he
        have HB := HB3
        have HTU := HT3
        have HV := HV3
        have HO := HO3
        have HLE := HLE3
        clear HB3 HT3 HV3 HO3 HLE3
        generalize Hu ++ [(⟨x0, x1, x2, x3⟩ : Ev)] = Hu at *
        generalize v3 = v0 at *
        generalize w3 = wr at *
        by_cases hln : k < n
        · have hln' : (k : Int) < (n : Int) := by omega
          have hd1 : decide ((k : Int) < (n : Int)) = true := by simp; exact hln
          have hkl : k < L.length := by rw [← HN.out]; exact hln
          have hx : L[k]? = some L[k] := List.getElem?_eq_getElem hkl
          have HTS := Lib.hid (show L.take (k + 1) = L.take k ++ [L[k]] from List.take_succ_eq_append_getElem hkl)
          obtain ⟨g, o, rfl, b0, b1, b2, b3⟩ := (HL.out.below (below_trans HB1.out HB.out)).four hx
          generalize L[k] = x at *
          clear hx
          obtain ⟨x0, x1, x2, x3⟩ := x
          simp only at b0 b1 b2 b3 HTS
          go_wp2_with fail
          refine (aput_any wr y2 v0 Hu 0 0 ⟨x0, x1, x2, x3⟩ HTU.out (by have := HLE.out; omega)).mono ?_
          rintro e w4 ⟨v4, rfl, hA⟩
          have HB4 := Lib.hid (hA.ke.bel HB.out HY.out HV.out)
          have HV4 := Lib.hid (hA.farB HB.out.size HV.out)
          have HT4 := Lib.hid hA.tr
          have HO4 := Lib.hid (show owns u (Hu ++ [⟨x0, x1, x2, x3⟩]) = owns u (L.take (k + 1)) by rw [HTS.out, owns_app, owns_app, HO.out])
          have HLE4 := Lib.hid (show (Hu ++ [(⟨x0, x1, x2, x3⟩ : Ev)]).length ≤ 2 * (k + 1) by have := HLE.out; simp; omega)
          clear hA b0 b1 b2 b3 HB HTU HV
          go_wp2
          go_roundw
          case rel => exact ⟨k + 1, v4, _, by omega, by go_num, HB4, HT4, HV4, HO4, HLE4⟩
          case measure => simp [intOf]; omega
        · have hln' : ¬ (k : Int) < (n : Int) := by omega
          have hd1 : decide ((k : Int) < (n : Int)) = false := by simp; omega
          have HO4 := Lib.hid (show owns u Hu = owns u (L.take (k + 1)) by rw [HO.out, List.take_of_length_le (by rw [← HN.out]; omega), List.take_of_length_le (by rw [← HN.out]; omega)])
          have HLE4 := Lib.hid (show Hu.length ≤ 2 * (k + 1) by have := HLE.out; omega)
          go_wp2
          go_roundw
          case rel => exact ⟨k + 1, v0, _, by omega, by go_num, HB, HTU, HV, HO4, HLE4⟩
          case measure => simp [intOf]; omega
    · have hlm' : ¬ (k : Int) < (m : Int) := by omega
      have hd2 : decide ((k : Int) < (m : Int)) = false := by simp; omega
      by_cases hend : n ≤ k
      · have hd3 : decide ((k : Int) < (n : Int)) = false := by simp; omega
        have hln' : ¬ (k : Int) < (n : Int) := by omega
        have HOE := Lib.hid (show owns u Hu = owns u L by rw [HO.out, List.take_of_length_le (by rw [← HN.out]; omega)])
        have HLL := Lib.hid (show L.length ≤ 1000000 by rw [← HN.out]; omega)
        have HHL := Lib.hid (show Hu.length ≤ 1000000 by have := HLE.out; omega)
        have HT3 := Lib.hid (HT1.out.below HB.out)
        have HBW := Lib.hid (below_trans HB1.out HB.out)
        clear HO HLE HB
        go_wp2_with fail
        refine (aown_any wr y v1 L 0 0 u 0 200 HT3.out HLL.out (by decide) (by decide)).mono ?_
        rintro e w4 ⟨a, rfl, hO, hF, hb⟩
        rw [List.drop_zero] at hO
        have HB4 := Lib.hid (below_trans HBW.out hb)
        have HT4 := Lib.hid (HT3.out.below hb)
        have HU4 := Lib.hid (HTU.out.below hb)
        have HO4 := Lib.hid hO
        clear hO hF hb HBW HT3 HTU
        obtain ⟨A4, c4, rfl, -, -⟩ := HO4.out.slice
        go_wp2_with fail
        refine (aown_any w4 y2 v0 Hu 0 0 u 0 200 HU4.out HHL.out (by decide) (by decide)).mono ?_
        rintro e w5 ⟨b, rfl, hO, hF, hb⟩
        rw [List.drop_zero, HOE.out] at hO
        have HB5 := Lib.hid (below_trans HB4.out hb)
        have HT5 := Lib.hid (HT4.out.below hb)
        have HU5 := Lib.hid (HU4.out.below hb)
        have HO5 := Lib.hid (HO4.out.below hb)
        have HP5 := Lib.hid hO
        clear hO hF hb HB4 HT4 HU4 HO4
        obtain ⟨A5, c5, rfl, -, -⟩ := HP5.out.slice
        have HPL := Lib.hid (show (pageI (owns u L) 0 200).length ≤ 1000000 by
          unfold pageI
          split
          · simp
          · rw [pageL_len]; have := owns_len u L; have := HLL.out; omega)
        go_wp2_with fail
        refine (rsameE_any w5 _ _ _ (ERd.of_own elE_ok HO5.out) (ERd.of_own elE_ok HP5.out) HPL.out).mono ?_
        rintro e w6 ⟨rfl, q, rfl⟩
        have HB6 := Lib.hid (below_drawn HB5.out q)
        have HT6 := Lib.hid (HT5.out.drewN q)
        have HU6 := Lib.hid (HU5.out.drewN q)
        clear HB5 HT5 HU5 HO5 HP5
        generalize w5.drewN q = w6 at *
        go_wp2_with fail
        refine (acount_any w6 y v1 L 0 0 u HT6.out HLL.out).mono ?_
        rintro e w7 ⟨rfl, hb⟩
        have HB7 := Lib.hid (below_trans HB6.out hb)
        have HU7 := Lib.hid (HU6.out.below hb)
        rw [List.drop_zero]
        clear hb HB6 HT6 HU6
        have HCU := Lib.hid (acount_any w7 y2 v0 Hu 0 0 u HU7.out HHL.out)
        rw [List.drop_zero, HOE.out] at HCU
        generalize (owns u L).length = ol at *
        have hoe : ((ol : Int) == (ol : Int)) = true := by simp
        go_wp2_with fail
        refine HCU.out.mono ?_
        rintro e w8 ⟨rfl, hb⟩
        have HB8 := Lib.hid (below_trans HB7.out hb)
        clear hb HB7 HU7 HCU
        go_wp2_with fail
        refine (aknown_any _).mono ?_
        rintro e w9 ⟨rfl, hb⟩
        have HB9 := Lib.hid (below_trans HB8.out hb)
        clear hb
        go_wp2
        go_ret
        exact ⟨rfl, HB9.out⟩
      · have HLE1 := Lib.hid (show Hu.length ≤ 2 * k + 1 by have := HLE.out; omega)
        clear HLE
        have HLE := HLE1
        clear HLE1
        by_cases hln : k < n
        · have hln' : (k : Int) < (n : Int) := by omega
          have hd1 : decide ((k : Int) < (n : Int)) = true := by simp; exact hln
          have hkl : k < L.length := by rw [← HN.out]; exact hln
          have hx : L[k]? = some L[k] := List.getElem?_eq_getElem hkl
          have HTS := Lib.hid (show L.take (k + 1) = L.take k ++ [L[k]] from List.take_succ_eq_append_getElem hkl)
          obtain ⟨g, o, rfl, b0, b1, b2, b3⟩ := (HL.out.below (below_trans HB1.out HB.out)).four hx
          generalize L[k] = x at *
          clear hx
          obtain ⟨x0, x1, x2, x3⟩ := x
          simp only at b0 b1 b2 b3 HTS
          go_wp2_with fail
          refine (aput_any wr y2 v0 Hu 0 0 ⟨x0, x1, x2, x3⟩ HTU.out (by have := HLE.out; omega)).mono ?_
          rintro e w4 ⟨v4, rfl, hA⟩
          have HB4 := Lib.hid (hA.ke.bel HB.out HY.out HV.out)
          have HV4 := Lib.hid (hA.farB HB.out.size HV.out)
          have HT4 := Lib.hid hA.tr
          have HO4 := Lib.hid (show owns u (Hu ++ [⟨x0, x1, x2, x3⟩]) = owns u (L.take (k + 1)) by rw [HTS.out, owns_app, owns_app, HO.out])
          have HLE4 := Lib.hid (show (Hu ++ [(⟨x0, x1, x2, x3⟩ : Ev)]).length ≤ 2 * (k + 1) by have := HLE.out; simp; omega)
          clear hA b0 b1 b2 b3 HB HTU HV
          go_wp2
          go_roundw
          case rel => exact ⟨k + 1, v4, _, by omega, by go_num, HB4, HT4, HV4, HO4, HLE4⟩
          case measure => simp [intOf]; omega
        · exact absurd hln (by omega)
theorem walk (a : Option Addr) (z c : Nat) (a2 : Option Addr) (z2 c2 : Nat) (u : Int) (w : World) (h : IsSl w 4 okEv a z c) (h2 : IsSl w 4 okEv a2 z2 c2) (hn : -9223372036854775808 ≤ u ∧ u ≤ 9223372036854775807) :
    Calls Try.prog 6 #[.slice a z c, .slice a2 z2 c2, .int .i64 u] w fun e w' => e = .returned (.bool true) ∧ Below w.heap.size w w' := by
  obtain ⟨L, h1, _, _⟩ := evs_of h
  obtain ⟨M, h3, _, _⟩ := evs_of h2
  exact walkN _ _ L M u w h1 h3
theorem own : ownKnob Try.prog.godebug = none := by kernel_rfl
theorem laidOut : laidOutB Try.prog = true := by kernel_rfl
set_option maxRecDepth 100000 in
theorem lifted (os : Os) (started : os.Started) (H : Type) (enc : TypeId × Value → H) :
    ReturnsInHanded {} Try.checked os 6 .any (Rows.auditOthersSpec.pre6 enc Try.prog Try.f6 Rows.auditOthersRow.domain false) (Rows.auditOthersSpec.post enc Try.prog Try.f6 false true false false) := by
  refine returnsInHanded_of_change_sized (C := Try.checked) own started (by kernel_rfl) Try.func6
    (ChangeSpec.witness6 (enc := enc) (C := Try.checked) false ⟨#[], #[.slice none 0 0, .slice none 0 0, .int .i64 0], []⟩ 8 (by kernel_rfl) (by kernel_rfl) (by kernel_rfl) (by kernel_rfl)) ?_
  intro W base args ds gs before hval0 hW hcnd hsz0 _
  have hval : ∀ (j : Nat) t v, Try.f6.params[j]? = some t → args[j]? = some v → Value.okWide Try.prog W .any base t v := hval0
  have hW' := hW
  obtain ⟨p, q, hA0, hV, rfl, hfz, hnd⟩ := hW
  have hA : DataW.TrodAll enc Try.prog W 0 (fun _ => true) true Try.f6.params.toList args.toList ds p := hA0
  rw [Try.params6] at hA hval
  obtain ⟨v0, vs0, d0, ds0, p0, q0, hargs, rfl, rfl, h0, r0⟩ := trodAll_cons hA
  obtain ⟨v1, vs1, d1, ds1, p1, q1, rfl, rfl, rfl, h1, r1⟩ := trodAll_cons r0
  obtain ⟨v2, vs2, d2, ds2, p2, q2, rfl, rfl, rfl, h2, r2⟩ := trodAll_cons r1
  obtain ⟨rfl, rfl, rfl⟩ := trodAll_nil r2
  obtain rfl : args = #[v0, v1, v2] := by cases args; simp_all
  obtain ⟨rfl, rfl⟩ := trodVars_none hV
  have k0 := h0
  have lt0 : ∀ x ∈ p0, x.block < W.heap.size := by obtain ⟨m, hm⟩ := k0; exact DataW.trod_lt m _ _ _ hm
  obtain ⟨a0, len0, cap0, rfl⟩ := okWide_slice Try.underlying25 (hval 0 25 v0 rfl rfl)
  have w0 : IsSl W 4 (okEvW W) a0 len0 cap0 := by
    obtain ⟨fuel, hf⟩ := h0
    exact isSl_of Try.underlying25 (by kernel_rfl) okEvP hf (fun n hn => of_decide_eq_true (List.all_eq_true.1 hsz0 n (DataW.weights_mem_each (j := 0) (t := 25) (d := d0) rfl rfl n hn)))
  have k1 := h1
  have lt1 : ∀ x ∈ p1, x.block < W.heap.size := by obtain ⟨m, hm⟩ := k1; exact DataW.trod_lt m _ _ _ hm
  obtain ⟨a1, len1, cap1, rfl⟩ := okWide_slice Try.underlying25 (hval 1 25 v1 rfl rfl)
  have w1 : IsSl W 4 (okEvW W) a1 len1 cap1 := by
    obtain ⟨fuel, hf⟩ := h1
    exact isSl_of Try.underlying25 (by kernel_rfl) okEvP hf (fun n hn => of_decide_eq_true (List.all_eq_true.1 hsz0 n (DataW.weights_mem_each (j := 1) (t := 25) (d := d1) rfl rfl n hn)))
  have k2 := h2
  have lt2 : ∀ x ∈ p2, x.block < W.heap.size := by obtain ⟨m, hm⟩ := k2; exact DataW.trod_lt m _ _ _ hm
  obtain ⟨a2, rfl, rfl, rfl, w2⟩ := open_int Try.underlying3 (hval 2 3 v2 rfl rfl) h2
  clear hA0 hval0
  refine (walk a0 len0 cap0 a1 len1 cap1 a2 W w0 w1 (bounds_i64 w2)).mono fun e W' ⟨he, bel⟩ => ?_
  subst he
  exact ⟨_, rfl, _, _, _, [], _, [], hW', trodAll_mk1 (shut_bool Try.underlying4 _), (trodAll_cons_mk (Below.trod laidOut (by kernel_rfl) (of_decide_eq_true (by kernel_rfl)) k0 bel lt0) (trodAll_cons_mk (Below.trod laidOut (by kernel_rfl) (of_decide_eq_true (by kernel_rfl)) k1 bel lt1) (trodAll_cons_mk (Below.trod laidOut (by kernel_rfl) (of_decide_eq_true (by kernel_rfl)) k2 bel lt2) trodAll_mk0))), rfl, bel.frame _, fun h => by cases h⟩
theorem over : Rows.auditOthersRow.holds Try.pinned (OpenSpec.ofChange Rows.auditOthersSpec) :=
  OpenClaim.holds_of_wide 6 Try.f6 rfl rfl rfl rfl rfl rfl rfl ⟨rfl, rfl, rfl, rfl, rfl⟩ rfl rfl rfl rfl rfl (by kernel_rfl) Try.func6 (by kernel_rfl)
    (of_decide_eq_true (by kernel_rfl)) (by unfold Func.isWrapper; first | (rw [if_pos (by decide +kernel)]; kernel_rfl) | (rw [if_neg (by decide +kernel)]; exact ⟨rfl, rfl⟩))
    (fun os started H enc _ => lifted os started H enc)
/-- The statement. -/
theorem proved : Rows.AuditOthersSaid := over
#print axioms proved
end Go.Proofs.Ytjkkhefdpcpjiaa.auditOthers
