/- lex: the document's token. -/
import Derived.Test.YtileecbccmfpdaaGreatDoorLr7
namespace Go.Proofs.YtileecbccmfpdaaGreatDoor
set_option linter.unusedVariables false
set_option linter.unusedSimpArgs false
open Go.RowKit
theorem mk_eval (c : UInt8) (t : Bs) : mkF (c :: t) = if c.toNat = 61 then some 0 else if c.toNat = 43 then some 1 else if c.toNat = 59 then some 2 else if c.toNat = 46 ∧ t.head?.map (·.toNat) = some 46 then some 3 else none := by
  have e : ∀ k : UInt8, (k == c) = decide (c.toNat = k.toNat) := fun k => by
    by_cases h : c = k
    · subst h; simp
    · have : ¬ c.toNat = k.toNat := fun hh => h (UInt8.toNat_inj.1 hh)
      rw [decide_eq_false this, beq_eq_false_iff_ne]
      exact fun hh => h hh.symm
  have h0 : mkAt (c :: t) 0 = decide (c.toNat = 61) := by
    show (([61] : Bs).isPrefixOf (c :: t)) = _
    simp only [List.isPrefixOf, Bool.and_true, e]; rfl
  have h1 : mkAt (c :: t) 1 = decide (c.toNat = 43) := by
    show (([43] : Bs).isPrefixOf (c :: t)) = _
    simp only [List.isPrefixOf, Bool.and_true, e]; rfl
  have h2 : mkAt (c :: t) 2 = decide (c.toNat = 59) := by
    show (([59] : Bs).isPrefixOf (c :: t)) = _
    simp only [List.isPrefixOf, Bool.and_true, e]; rfl
  have h3 : mkAt (c :: t) 3 = decide (c.toNat = 46 ∧ t.head?.map (·.toNat) = some 46) := by
    show (([46, 46] : Bs).isPrefixOf (c :: t)) = _
    cases t with
    | nil => simp [List.isPrefixOf]
    | cons d r =>
      have e2 : (46 == d) = decide (d.toNat = 46) := by
        by_cases h : d = 46
        · subst h; rfl
        · have : ¬ d.toNat = 46 := fun hh => h (UInt8.toNat_inj.1 hh)
          rw [decide_eq_false this, beq_eq_false_iff_ne]
          exact fun hh => h hh.symm
      simp only [List.isPrefixOf, Bool.and_true, e, e2, List.head?_cons, Option.map_some]
      rw [Bool.eq_iff_iff]
      simp
  unfold mkF
  simp only [List.range, List.range.loop, List.find?_cons, List.find?_nil, h0, h1, h2, h3]
  by_cases a0 : c.toNat = 61
  · rw [decide_eq_true a0, if_pos a0]
  · by_cases a1 : c.toNat = 43
    · rw [decide_eq_false a0, decide_eq_true a1, if_neg a0, if_pos a1]
    · by_cases a2 : c.toNat = 59
      · rw [decide_eq_false a0, decide_eq_false a1, decide_eq_true a2, if_neg a0, if_neg a1, if_pos a2]
      · by_cases a3 : (c.toNat = 46 ∧ t.head?.map (·.toNat) = some 46)
        · rw [decide_eq_false a0, decide_eq_false a1, decide_eq_false a2, decide_eq_true a3, if_neg a0, if_neg a1, if_neg a2, if_pos a3]
        · rw [decide_eq_false a0, decide_eq_false a1, decide_eq_false a2, decide_eq_false a3, if_neg a0, if_neg a1, if_neg a2, if_neg a3]
def RTokP (l : Bs) (w : World) (e : Ending) (w' : World) : Prop :=
  ∃ t0, e = .returned (.tuple #[tokV (tkK l) t0 (tkN l), .int .i64 (tkE l)]) ∧ (tkE l = 0 → t0 = tkT l) ∧ Below w.heap.size w w'
theorem word_short {t : Bs} (h : wordB (bs t) = true) : t.length ≤ 16 := by
  unfold wordB at h
  rw [List.any_eq_true] at h
  obtain ⟨i, hi, he⟩ := h
  have hi' := List.mem_range.1 hi
  have hl : t = wordsL.getD i [] := bs_inj (by simpa [wS] using he)
  have : ∀ i : Fin 11, (wordsL.getD i.1 []).length ≤ 16 := by decide
  rw [hl]
  exact this ⟨i, hi'⟩
theorem ext_take (s : ByteArray) (a n : Nat) (h : a + n ≤ s.size) : s.extract a (a + n) = bs ((s.data.toList.drop a).take n) := by
  apply ByteArray.ext
  apply Array.ext'
  simp [bs, ByteArray.data_extract, List.extract_eq_take_drop]
theorem numBad_rnum (t : Bs) : numBad t = decide (65535 < rnum t) := by
  unfold numBad rnum
  cases lead t <;> by_cases h : 5 < t.length <;> simp [h]
set_option maxRecDepth 100000 in
set_option maxHeartbeats 2000000 in
theorem rtoken_any (s : ByteArray) (at0 : Nat) (w : World) (hl : s.size ≤ 512) (ha : at0 < s.size) : Calls Tryz.prog 44 #[.string s, .int .i64 at0] w fun e w' => RTokP (s.data.toList.drop at0) w e w' := by
  have HSZ : Hid (s.data.toList.length = s.size) := Lib.hid rfl
  have hA : Below w.heap.size w (w.alloc (.cells #[.int .i64 0, .string ⟨#[]⟩, .int .i64 0, .int .i64 0, .int .i64 0] 78)) := (Below.refl _ _).alloc (Nat.le_refl _) _
  have HA := Lib.hid hA
  have HK := Lib.hid (Blk.new w 78 #[.int .i64 0, .string ⟨#[]⟩, .int .i64 0, .int .i64 0, .int .i64 0])
  clear hA
  have hai : (at0 : Int) < (s.size : Int) := by omega
  have HRF := Lib.hid (fun W => run_any s at0 false W hl (by omega))
  have HRT := Lib.hid (fun W => run_any s at0 true W hl (by omega))
  rw [rnd_false] at HRF
  rw [rnd_true] at HRT
  have hdr : s.data.toList.drop at0 = s[at0] :: s.data.toList.drop (at0 + 1) := List.drop_eq_getElem_cons (by rw [HSZ.out]; exact ha)
  have hln : (s.data.toList.drop at0).length = s.size - at0 := by rw [List.length_drop, HSZ.out]
  have HEX := Lib.hid (fun n (h : n ≤ (s.data.toList.drop at0).length) => ext_take s at0 n (by omega))
  have hcb : (s[at0].toNat : Int) < 256 := by have := s[at0].toNat_lt; omega
  have HL1 := Lib.hid (fun W => rletter_any s[at0] W)
  have HD1 := Lib.hid (fun W => rdigit_any s[at0] W)
  have HOL : Hid (on isLet (s.data.toList.drop at0) = isLet s[at0]) := Lib.hid (by rw [hdr]; rfl)
  have HOD : Hid (on isDg (s.data.toList.drop at0) = isDg s[at0]) := Lib.hid (by rw [hdr]; rfl)
  have HDR := Lib.hid hdr
  have hl2 : (s.data.toList.drop at0).length ≤ 512 := by omega
  have HLE := Lib.hid hln
  clear hdr hln
  generalize hL : s.data.toList.drop at0 = l at *
  have HLL := Lib.hid hL
  clear hL
  cases h1 : isLet s[at0] with
  | true =>
    rw [h1] at HL1 HOL
    have hq : l.takeWhile ofNm = l.take (l.takeWhile ofNm).length := (List.prefix_iff_eq_take.1 (List.takeWhile_prefix ofNm))
    have hext := HEX.out _ (take_len ofNm l)
    rw [← hq] at hext
    have hal := take_len ofNm l
    have HE := Lib.hid (show tkK l = nameKd (l.takeWhile ofNm) ∧ tkT l = nameTx (l.takeWhile ofNm) ∧ tkN l = 0 ∧ tkE l = nameE (l.takeWhile ofNm) by simp [tkA, tkK, tkT, tkN, tkE, HOL.out])
    generalize l.takeWhile ofNm = a at *
    have hal2 : (at0 : Int) + (a.length : Int) ≤ (s.size : Int) := by have := HLE.out; omega
    have ha0 : (0 : Int) ≤ (at0 : Int) + (a.length : Int) := by omega
    have htn : ((at0 : Int) + (a.length : Int)).toNat = at0 + a.length := by omega
    have haa : (at0 : Int) ≤ (at0 : Int) + (a.length : Int) := by omega
    have hss : ((bs a).size : Int) = (a.length : Int) := by rw [bs_size]
    have HW := Lib.hid (fun W => rword_any (bs a) W)
    clear h1 hq HEX HD1 HRT HOL HOD
    by_cases h16 : 16 < a.length
    · have hgt : (16 : Int) < (a.length : Int) := by omega
      have hnw : wordB (bs a) = false := by
        cases hw : wordB (bs a) with
        | false => rfl
        | true => have := word_short hw; omega
      have HR := Lib.hid (show nameKd a = 0 ∧ nameE a = 2 by simp [nameKd, nameE, hnw, h16])
      clear hnw HW
      go_enter Tryz.func44, Tryz.ntmps44
      go_wp2_with fail
      generalize (w.alloc (.cells #[.int .i64 0, .string ⟨#[]⟩, .int .i64 0, .int .i64 0, .int .i64 0] 78)) = W at *
      refine (HL1.out _).mono ?_
      rintro e w9 ⟨rfl, hw9⟩
      subst hw9
      go_wp2_with fail
      refine (HRF.out _).mono ?_
      rintro e w9 ⟨rfl, hw9⟩
      subst hw9
      have u0 : _ = some (Value.int .i64 0) := HK.out.cell 0
      have u1 : _ = some (Value.string ⟨#[]⟩) := HK.out.cell 1
      have u2 : _ = some (Value.int .i64 0) := HK.out.cell 2
      have u3 : _ = some (Value.int .i64 0) := HK.out.cell 3
      have u4 : _ = some (Value.int .i64 0) := HK.out.cell 4
      have f0 := HK.out.frozen 0
      have f1 := HK.out.frozen 1
      have f2 := HK.out.frozen 2
      have f3 := HK.out.frozen 3
      have f4 := HK.out.frozen 4
      go_wp2_with fail
      have HBF := Lib.hid (((((HA.out.setCell (p := ⟨w.heap.size, 0, none⟩) (Nat.le_refl _) (.int .i64 0)).setCell (p := ⟨w.heap.size, 1, none⟩) (Nat.le_refl _) (.string (bs a))).setCell (p := ⟨w.heap.size, 2, none⟩) (Nat.le_refl _) (.int .i64 0)).setCell (p := ⟨w.heap.size, 3, none⟩) (Nat.le_refl _) (.int .i64 0)).setCell (p := ⟨w.heap.size, 4, none⟩) (Nat.le_refl _) (.int .i64 0))
      refine bodyPost_ret (v := .tuple #[.agg #[.int .i64 0, .string (bs a), .int .i64 0, .int .i64 0, .int .i64 0], .int .i64 2]) ?_ rfl ⟨a, by rw [HE.out.1, HE.out.2.2.1, HE.out.2.2.2, HR.out.1, HR.out.2]; rfl, (fun h => by rw [HE.out.2.2.2, HR.out.2] at h; cases h), HBF.out⟩
      simp [results, Tryz.results44, go_sem, *]
    · have hgt : (a.length : Int) ≤ 16 := by omega
      generalize hw : wordB (bs a) = wb at *
      cases wb with
      | true =>
        have HR := Lib.hid (show nameKd a = 2 ∧ nameE a = 0 ∧ nameTx a = a by simp [nameKd, nameE, nameTx, hw])
        clear hw
        go_enter Tryz.func44, Tryz.ntmps44
        go_wp2_with fail
        generalize (w.alloc (.cells #[.int .i64 0, .string ⟨#[]⟩, .int .i64 0, .int .i64 0, .int .i64 0] 78)) = W at *
        refine (HL1.out _).mono ?_
        rintro e w9 ⟨rfl, hw9⟩
        subst hw9
        go_wp2_with fail
        refine (HRF.out _).mono ?_
        rintro e w9 ⟨rfl, hw9⟩
        subst hw9
        go_wp2_with fail
        refine (HW.out _).mono ?_
        rintro e w2 ⟨rfl, hb2⟩
        have HB2 := Lib.hid (below_trans HA.out hb2)
        have HK2 := Lib.hid (HK.out.thru0 hb2)
        clear hb2 HA HK
        have u0 : _ = some (Value.int .i64 0) := HK2.out.cell 0
        have u1 : _ = some (Value.string ⟨#[]⟩) := HK2.out.cell 1
        have u2 : _ = some (Value.int .i64 0) := HK2.out.cell 2
        have u3 : _ = some (Value.int .i64 0) := HK2.out.cell 3
        have u4 : _ = some (Value.int .i64 0) := HK2.out.cell 4
        have f0 := HK2.out.frozen 0
        have f1 := HK2.out.frozen 1
        have f2 := HK2.out.frozen 2
        have f3 := HK2.out.frozen 3
        have f4 := HK2.out.frozen 4
        go_wp2_with fail
        have HBF := Lib.hid (((((HB2.out.setCell (p := ⟨w.heap.size, 0, none⟩) (Nat.le_refl _) (.int .i64 2)).setCell (p := ⟨w.heap.size, 1, none⟩) (Nat.le_refl _) (.string (bs a))).setCell (p := ⟨w.heap.size, 2, none⟩) (Nat.le_refl _) (.int .i64 0)).setCell (p := ⟨w.heap.size, 3, none⟩) (Nat.le_refl _) (.int .i64 0)).setCell (p := ⟨w.heap.size, 4, none⟩) (Nat.le_refl _) (.int .i64 0))
        refine bodyPost_ret (v := .tuple #[.agg #[.int .i64 2, .string (bs a), .int .i64 0, .int .i64 0, .int .i64 0], .int .i64 0]) ?_ rfl ⟨a, by rw [HE.out.1, HE.out.2.2.1, HE.out.2.2.2, HR.out.1, HR.out.2.1]; rfl, (fun _ => by rw [HE.out.2.1, HR.out.2.2]), HBF.out⟩
        simp [results, Tryz.results44, go_sem, *]
      | false =>
        have HR := Lib.hid (show nameKd a = 1 ∧ nameE a = 0 ∧ nameTx a = a by simp [nameKd, nameE, nameTx, hw, h16])
        clear hw
        go_enter Tryz.func44, Tryz.ntmps44
        go_wp2_with fail
        generalize (w.alloc (.cells #[.int .i64 0, .string ⟨#[]⟩, .int .i64 0, .int .i64 0, .int .i64 0] 78)) = W at *
        refine (HL1.out _).mono ?_
        rintro e w9 ⟨rfl, hw9⟩
        subst hw9
        go_wp2_with fail
        refine (HRF.out _).mono ?_
        rintro e w9 ⟨rfl, hw9⟩
        subst hw9
        go_wp2_with fail
        refine (HW.out _).mono ?_
        rintro e w2 ⟨rfl, hb2⟩
        have HB2 := Lib.hid (below_trans HA.out hb2)
        have HK2 := Lib.hid (HK.out.thru0 hb2)
        clear hb2 HA HK
        have u0 : _ = some (Value.int .i64 0) := HK2.out.cell 0
        have u1 : _ = some (Value.string ⟨#[]⟩) := HK2.out.cell 1
        have u2 : _ = some (Value.int .i64 0) := HK2.out.cell 2
        have u3 : _ = some (Value.int .i64 0) := HK2.out.cell 3
        have u4 : _ = some (Value.int .i64 0) := HK2.out.cell 4
        have f0 := HK2.out.frozen 0
        have f1 := HK2.out.frozen 1
        have f2 := HK2.out.frozen 2
        have f3 := HK2.out.frozen 3
        have f4 := HK2.out.frozen 4
        go_wp2_with fail
        have HBF := Lib.hid (((((HB2.out.setCell (p := ⟨w.heap.size, 0, none⟩) (Nat.le_refl _) (.int .i64 1)).setCell (p := ⟨w.heap.size, 1, none⟩) (Nat.le_refl _) (.string (bs a))).setCell (p := ⟨w.heap.size, 2, none⟩) (Nat.le_refl _) (.int .i64 0)).setCell (p := ⟨w.heap.size, 3, none⟩) (Nat.le_refl _) (.int .i64 0)).setCell (p := ⟨w.heap.size, 4, none⟩) (Nat.le_refl _) (.int .i64 0))
        refine bodyPost_ret (v := .tuple #[.agg #[.int .i64 1, .string (bs a), .int .i64 0, .int .i64 0, .int .i64 0], .int .i64 0]) ?_ rfl ⟨a, by rw [HE.out.1, HE.out.2.2.1, HE.out.2.2.2, HR.out.1, HR.out.2.1]; rfl, (fun _ => by rw [HE.out.2.1, HR.out.2.2]), HBF.out⟩
        simp [results, Tryz.results44, go_sem, *]
  | false =>
    rw [h1] at HL1 HOL
    cases h2 : isDg s[at0] with
    | true =>
      rw [h2] at HD1 HOD
      have hq : l.takeWhile isDg = l.take (l.takeWhile isDg).length := (List.prefix_iff_eq_take.1 (List.takeWhile_prefix isDg))
      have hext := HEX.out _ (take_len isDg l)
      rw [← hq] at hext
      have hal := take_len isDg l
      have HE := Lib.hid (show tkK l = numKd (l.takeWhile isDg) ∧ tkT l = numTx (l.takeWhile isDg) ∧ tkN l = numV (l.takeWhile isDg) ∧ tkE l = numE (l.takeWhile isDg) by simp [tkA, tkK, tkT, tkN, tkE, HOL.out, HOD.out])
      have HNE := Lib.hid (show l.takeWhile isDg ≠ [] by
        rw [HDR.out, List.takeWhile_cons_of_pos h2]; simp)
      have HNU := Lib.hid (fun W => rnumber_any (l.takeWhile isDg) W (digL_take l) HNE.out (by omega))
      generalize l.takeWhile isDg = a at *
      have hal2 : (at0 : Int) + (a.length : Int) ≤ (s.size : Int) := by have := HLE.out; omega
      have ha0 : (0 : Int) ≤ (at0 : Int) + (a.length : Int) := by omega
      have htn : ((at0 : Int) + (a.length : Int)).toNat = at0 + a.length := by omega
      have haa : (at0 : Int) ≤ (at0 : Int) + (a.length : Int) := by omega
      have hss : ((bs a).size : Int) = (a.length : Int) := by rw [bs_size]
      have HNB := Lib.hid (numBad_rnum a)
      have HVL := Lib.hid (show numBad a = false → (rnum a : Int) = (vl a : Int) from fun h => by
        have hb : (lead a || decide (5 < a.length)) = false := by
          unfold numBad at h
          cases hh : (lead a || decide (5 < a.length)) with
          | false => rfl
          | true => rw [hh] at h; simp at h
        unfold rnum
        rw [hb]; rfl)
      clear h1 h2 hq HEX HRF HOL HOD
      by_cases hb : 65535 < rnum a
      · have hgt : (65535 : Int) < (rnum a : Int) := by omega
        have HR := Lib.hid (show numKd a = 0 ∧ numE a = 10 ∧ numV a = 0 by simp [numKd, numE, numV, HNB.out, hb])
        clear HVL hb
        go_enter Tryz.func44, Tryz.ntmps44
        go_wp2_with fail
        generalize (w.alloc (.cells #[.int .i64 0, .string ⟨#[]⟩, .int .i64 0, .int .i64 0, .int .i64 0] 78)) = W at *
        refine (HL1.out _).mono ?_
        rintro e w9 ⟨rfl, hw9⟩
        subst hw9
        go_wp2_with fail
        refine (HD1.out _).mono ?_
        rintro e w9 ⟨rfl, hw9⟩
        subst hw9
        go_wp2_with fail
        refine (HRT.out _).mono ?_
        rintro e w9 ⟨rfl, hw9⟩
        subst hw9
        go_wp2_with fail
        refine (HNU.out _).mono ?_
        rintro e w9 ⟨rfl, hw9⟩
        subst hw9
        have u0 : _ = some (Value.int .i64 0) := HK.out.cell 0
        have u1 : _ = some (Value.string ⟨#[]⟩) := HK.out.cell 1
        have u2 : _ = some (Value.int .i64 0) := HK.out.cell 2
        have u3 : _ = some (Value.int .i64 0) := HK.out.cell 3
        have u4 : _ = some (Value.int .i64 0) := HK.out.cell 4
        have f0 := HK.out.frozen 0
        have f1 := HK.out.frozen 1
        have f2 := HK.out.frozen 2
        have f3 := HK.out.frozen 3
        have f4 := HK.out.frozen 4
        go_wp2_with fail
        have HBF := Lib.hid (((((HA.out.setCell (p := ⟨w.heap.size, 0, none⟩) (Nat.le_refl _) (.int .i64 0)).setCell (p := ⟨w.heap.size, 1, none⟩) (Nat.le_refl _) (.string (bs a))).setCell (p := ⟨w.heap.size, 2, none⟩) (Nat.le_refl _) (.int .i64 0)).setCell (p := ⟨w.heap.size, 3, none⟩) (Nat.le_refl _) (.int .i64 0)).setCell (p := ⟨w.heap.size, 4, none⟩) (Nat.le_refl _) (.int .i64 0))
        refine bodyPost_ret (v := .tuple #[.agg #[.int .i64 0, .string (bs a), .int .i64 0, .int .i64 0, .int .i64 0], .int .i64 10]) ?_ rfl ⟨a, by rw [HE.out.1, HE.out.2.2.1, HE.out.2.2.2, HR.out.1, HR.out.2.1, HR.out.2.2]; rfl, (fun h => by rw [HE.out.2.2.2, HR.out.2.1] at h; cases h), HBF.out⟩
        simp [results, Tryz.results44, go_sem, *]
      · have hgt : (rnum a : Int) ≤ 65535 := by omega
        have hnb : numBad a = false := by rw [HNB.out]; exact decide_eq_false hb
        have HR := Lib.hid (show numKd a = 3 ∧ numE a = 0 ∧ numV a = (rnum a : Int) ∧ numTx a = a by rw [HVL.out hnb]; simp [numKd, numE, numV, numTx, hnb])
        clear HVL hb hnb
        go_enter Tryz.func44, Tryz.ntmps44
        go_wp2_with fail
        generalize (w.alloc (.cells #[.int .i64 0, .string ⟨#[]⟩, .int .i64 0, .int .i64 0, .int .i64 0] 78)) = W at *
        refine (HL1.out _).mono ?_
        rintro e w9 ⟨rfl, hw9⟩
        subst hw9
        go_wp2_with fail
        refine (HD1.out _).mono ?_
        rintro e w9 ⟨rfl, hw9⟩
        subst hw9
        go_wp2_with fail
        refine (HRT.out _).mono ?_
        rintro e w9 ⟨rfl, hw9⟩
        subst hw9
        go_wp2_with fail
        refine (HNU.out _).mono ?_
        rintro e w9 ⟨rfl, hw9⟩
        subst hw9
        have u0 : _ = some (Value.int .i64 0) := HK.out.cell 0
        have u1 : _ = some (Value.string ⟨#[]⟩) := HK.out.cell 1
        have u2 : _ = some (Value.int .i64 0) := HK.out.cell 2
        have u3 : _ = some (Value.int .i64 0) := HK.out.cell 3
        have u4 : _ = some (Value.int .i64 0) := HK.out.cell 4
        have f0 := HK.out.frozen 0
        have f1 := HK.out.frozen 1
        have f2 := HK.out.frozen 2
        have f3 := HK.out.frozen 3
        have f4 := HK.out.frozen 4
        go_wp2_with fail
        have HBF := Lib.hid (((((HA.out.setCell (p := ⟨w.heap.size, 0, none⟩) (Nat.le_refl _) (.int .i64 3)).setCell (p := ⟨w.heap.size, 1, none⟩) (Nat.le_refl _) (.string (bs a))).setCell (p := ⟨w.heap.size, 2, none⟩) (Nat.le_refl _) (.int .i64 (rnum a : Int))).setCell (p := ⟨w.heap.size, 3, none⟩) (Nat.le_refl _) (.int .i64 0)).setCell (p := ⟨w.heap.size, 4, none⟩) (Nat.le_refl _) (.int .i64 0))
        refine bodyPost_ret (v := .tuple #[.agg #[.int .i64 3, .string (bs a), .int .i64 (rnum a : Int), .int .i64 0, .int .i64 0], .int .i64 0]) ?_ rfl ⟨a, by rw [HE.out.1, HE.out.2.2.1, HE.out.2.2.2, HR.out.1, HR.out.2.1, HR.out.2.2.1]; rfl, (fun _ => by rw [HE.out.2.1, HR.out.2.2.2]), HBF.out⟩
        simp [results, Tryz.results44, go_sem, *]
    | false =>
      rw [h2] at HD1 HOD
      have HE := Lib.hid (show tkK l = mkKd l ∧ tkT l = mkTx l ∧ tkN l = 0 ∧ tkE l = mkE l by simp [tkA, tkK, tkT, tkN, tkE, HOL.out, HOD.out])
      have hext := HEX.out 1 (by rw [HDR.out]; simp)
      have ht1 : l.take 1 = [s[at0]] := by rw [HDR.out]; rfl
      rw [ht1] at hext
      have hal2 : (at0 : Int) + 1 ≤ (s.size : Int) := by omega
      have ha0 : (0 : Int) ≤ (at0 : Int) + 1 := by omega
      have htn : ((at0 : Int) + 1).toNat = at0 + 1 := by omega
      have haa : (at0 : Int) ≤ (at0 : Int) + 1 := by omega
      clear h1 h2 HEX HRF HRT HOL HOD ht1
      by_cases hc : s[at0].toNat = 61
      · have b61 : ((s[at0].toNat : Int) == 61) = true := beq_iff_eq.2 (by omega)
        have HM := Lib.hid (show mkF l = some 0 by rw [HDR.out, mk_eval]; simp [hc])
        have HR := Lib.hid (show mkKd l = 4 ∧ mkE l = 0 ∧ mkTx l = [s[at0]] by
          refine ⟨by simp [mkKd, HM.out], by simp [mkE, HM.out], ?_⟩
          unfold mkTx
          rw [HM.out]
          show mL 0 = [s[at0]]
          have : s[at0] = 61 := UInt8.toNat_inj.1 hc
          rw [this]; rfl)
        clear HM hc
        go_enter Tryz.func44, Tryz.ntmps44
        go_wp2_with fail
        generalize (w.alloc (.cells #[.int .i64 0, .string ⟨#[]⟩, .int .i64 0, .int .i64 0, .int .i64 0] 78)) = W at *
        refine (HL1.out _).mono ?_
        rintro e w9 ⟨rfl, hw9⟩
        subst hw9
        go_wp2_with fail
        refine (HD1.out _).mono ?_
        rintro e w9 ⟨rfl, hw9⟩
        subst hw9
        have u0 : _ = some (Value.int .i64 0) := HK.out.cell 0
        have u1 : _ = some (Value.string ⟨#[]⟩) := HK.out.cell 1
        have u2 : _ = some (Value.int .i64 0) := HK.out.cell 2
        have u3 : _ = some (Value.int .i64 0) := HK.out.cell 3
        have u4 : _ = some (Value.int .i64 0) := HK.out.cell 4
        have f0 := HK.out.frozen 0
        have f1 := HK.out.frozen 1
        have f2 := HK.out.frozen 2
        have f3 := HK.out.frozen 3
        have f4 := HK.out.frozen 4
        go_wp2_with fail
        have HBF := Lib.hid (((((HA.out.setCell (p := ⟨w.heap.size, 0, none⟩) (Nat.le_refl _) (.int .i64 4)).setCell (p := ⟨w.heap.size, 1, none⟩) (Nat.le_refl _) (.string (bs [s[at0]]))).setCell (p := ⟨w.heap.size, 2, none⟩) (Nat.le_refl _) (.int .i64 0)).setCell (p := ⟨w.heap.size, 3, none⟩) (Nat.le_refl _) (.int .i64 0)).setCell (p := ⟨w.heap.size, 4, none⟩) (Nat.le_refl _) (.int .i64 0))
        refine bodyPost_ret (v := .tuple #[.agg #[.int .i64 4, .string (bs [s[at0]]), .int .i64 0, .int .i64 0, .int .i64 0], .int .i64 0]) ?_ rfl ⟨[s[at0]], by rw [HE.out.1, HE.out.2.2.1, HE.out.2.2.2, HR.out.1, HR.out.2.1]; rfl, (fun _ => by rw [HE.out.2.1, HR.out.2.2]), HBF.out⟩
        simp [results, Tryz.results44, go_sem, *]
      · have b61 : ((s[at0].toNat : Int) == 61) = false := beq_eq_false_iff_ne.2 (by omega)
        have n61 := hc
        clear hc
        by_cases hc : s[at0].toNat = 43
        · have b43 : ((s[at0].toNat : Int) == 43) = true := beq_iff_eq.2 (by omega)
          clear n61
          have HM := Lib.hid (show mkF l = some 1 by rw [HDR.out, mk_eval]; simp [hc])
          have HR := Lib.hid (show mkKd l = 4 ∧ mkE l = 0 ∧ mkTx l = [s[at0]] by
            refine ⟨by simp [mkKd, HM.out], by simp [mkE, HM.out], ?_⟩
            unfold mkTx
            rw [HM.out]
            show mL 1 = [s[at0]]
            have : s[at0] = 43 := UInt8.toNat_inj.1 hc
            rw [this]; rfl)
          clear HM hc
          go_enter Tryz.func44, Tryz.ntmps44
          go_wp2_with fail
          generalize (w.alloc (.cells #[.int .i64 0, .string ⟨#[]⟩, .int .i64 0, .int .i64 0, .int .i64 0] 78)) = W at *
          refine (HL1.out _).mono ?_
          rintro e w9 ⟨rfl, hw9⟩
          subst hw9
          go_wp2_with fail
          refine (HD1.out _).mono ?_
          rintro e w9 ⟨rfl, hw9⟩
          subst hw9
          have u0 : _ = some (Value.int .i64 0) := HK.out.cell 0
          have u1 : _ = some (Value.string ⟨#[]⟩) := HK.out.cell 1
          have u2 : _ = some (Value.int .i64 0) := HK.out.cell 2
          have u3 : _ = some (Value.int .i64 0) := HK.out.cell 3
          have u4 : _ = some (Value.int .i64 0) := HK.out.cell 4
          have f0 := HK.out.frozen 0
          have f1 := HK.out.frozen 1
          have f2 := HK.out.frozen 2
          have f3 := HK.out.frozen 3
          have f4 := HK.out.frozen 4
          go_wp2_with fail
          have HBF := Lib.hid (((((HA.out.setCell (p := ⟨w.heap.size, 0, none⟩) (Nat.le_refl _) (.int .i64 4)).setCell (p := ⟨w.heap.size, 1, none⟩) (Nat.le_refl _) (.string (bs [s[at0]]))).setCell (p := ⟨w.heap.size, 2, none⟩) (Nat.le_refl _) (.int .i64 0)).setCell (p := ⟨w.heap.size, 3, none⟩) (Nat.le_refl _) (.int .i64 0)).setCell (p := ⟨w.heap.size, 4, none⟩) (Nat.le_refl _) (.int .i64 0))
          refine bodyPost_ret (v := .tuple #[.agg #[.int .i64 4, .string (bs [s[at0]]), .int .i64 0, .int .i64 0, .int .i64 0], .int .i64 0]) ?_ rfl ⟨[s[at0]], by rw [HE.out.1, HE.out.2.2.1, HE.out.2.2.2, HR.out.1, HR.out.2.1]; rfl, (fun _ => by rw [HE.out.2.1, HR.out.2.2]), HBF.out⟩
          simp [results, Tryz.results44, go_sem, *]
        · have b43 : ((s[at0].toNat : Int) == 43) = false := beq_eq_false_iff_ne.2 (by omega)
          have n43 := hc
          clear hc
          by_cases hc : s[at0].toNat = 59
          · have b59 : ((s[at0].toNat : Int) == 59) = true := beq_iff_eq.2 (by omega)
            clear n61 n43
            have HM := Lib.hid (show mkF l = some 2 by rw [HDR.out, mk_eval]; simp [hc])
            have HR := Lib.hid (show mkKd l = 4 ∧ mkE l = 0 ∧ mkTx l = [s[at0]] by
              refine ⟨by simp [mkKd, HM.out], by simp [mkE, HM.out], ?_⟩
              unfold mkTx
              rw [HM.out]
              show mL 2 = [s[at0]]
              have : s[at0] = 59 := UInt8.toNat_inj.1 hc
              rw [this]; rfl)
            clear HM hc
            go_enter Tryz.func44, Tryz.ntmps44
            go_wp2_with fail
            generalize (w.alloc (.cells #[.int .i64 0, .string ⟨#[]⟩, .int .i64 0, .int .i64 0, .int .i64 0] 78)) = W at *
            refine (HL1.out _).mono ?_
            rintro e w9 ⟨rfl, hw9⟩
            subst hw9
            go_wp2_with fail
            refine (HD1.out _).mono ?_
            rintro e w9 ⟨rfl, hw9⟩
            subst hw9
            have u0 : _ = some (Value.int .i64 0) := HK.out.cell 0
            have u1 : _ = some (Value.string ⟨#[]⟩) := HK.out.cell 1
            have u2 : _ = some (Value.int .i64 0) := HK.out.cell 2
            have u3 : _ = some (Value.int .i64 0) := HK.out.cell 3
            have u4 : _ = some (Value.int .i64 0) := HK.out.cell 4
            have f0 := HK.out.frozen 0
            have f1 := HK.out.frozen 1
            have f2 := HK.out.frozen 2
            have f3 := HK.out.frozen 3
            have f4 := HK.out.frozen 4
            go_wp2_with fail
            have HBF := Lib.hid (((((HA.out.setCell (p := ⟨w.heap.size, 0, none⟩) (Nat.le_refl _) (.int .i64 4)).setCell (p := ⟨w.heap.size, 1, none⟩) (Nat.le_refl _) (.string (bs [s[at0]]))).setCell (p := ⟨w.heap.size, 2, none⟩) (Nat.le_refl _) (.int .i64 0)).setCell (p := ⟨w.heap.size, 3, none⟩) (Nat.le_refl _) (.int .i64 0)).setCell (p := ⟨w.heap.size, 4, none⟩) (Nat.le_refl _) (.int .i64 0))
            refine bodyPost_ret (v := .tuple #[.agg #[.int .i64 4, .string (bs [s[at0]]), .int .i64 0, .int .i64 0, .int .i64 0], .int .i64 0]) ?_ rfl ⟨[s[at0]], by rw [HE.out.1, HE.out.2.2.1, HE.out.2.2.2, HR.out.1, HR.out.2.1]; rfl, (fun _ => by rw [HE.out.2.1, HR.out.2.2]), HBF.out⟩
            simp [results, Tryz.results44, go_sem, *]
          · have b59 : ((s[at0].toNat : Int) == 59) = false := beq_eq_false_iff_ne.2 (by omega)
            have n59 := hc
            clear hc
            by_cases hnx : at0 + 1 < s.size
            · have hnx2 : (at0 : Int) + 1 < (s.size : Int) := by omega
              have HTH := Lib.hid (show (s.data.toList.drop (at0 + 1)).head? = some s[at0 + 1] by
                rw [List.drop_eq_getElem_cons (show at0 + 1 < s.data.toList.length by rw [HSZ.out]; exact hnx)]; rfl)
              have hcb2 : (s[at0 + 1].toNat : Int) < 256 := by have := s[at0 + 1].toNat_lt; omega
              by_cases hc : s[at0].toNat = 46
              · have b46 : ((s[at0].toNat : Int) == 46) = true := beq_iff_eq.2 (by omega)
                by_cases hd : s[at0 + 1].toNat = 46
                · have d46 : ((s[at0 + 1].toNat : Int) == 46) = true := beq_iff_eq.2 (by omega)
                  have HM := Lib.hid (show mkF l = some 3 by rw [HDR.out, mk_eval, if_neg n61, if_neg n43, if_neg n59, if_pos ⟨hc, by rw [HTH.out]; simp [hd]⟩])
                  have HR := Lib.hid (show mkKd l = 4 ∧ mkE l = 0 ∧ mkTx l = [46, 46] by
                    refine ⟨by simp [mkKd, HM.out], by simp [mkE, HM.out], ?_⟩
                    unfold mkTx
                    rw [HM.out]; rfl)
                  clear HM hc hd n61 n43 n59 HTH
                  go_enter Tryz.func44, Tryz.ntmps44
                  go_wp2_with fail
                  generalize (w.alloc (.cells #[.int .i64 0, .string ⟨#[]⟩, .int .i64 0, .int .i64 0, .int .i64 0] 78)) = W at *
                  refine (HL1.out _).mono ?_
                  rintro e w9 ⟨rfl, hw9⟩
                  subst hw9
                  go_wp2_with fail
                  refine (HD1.out _).mono ?_
                  rintro e w9 ⟨rfl, hw9⟩
                  subst hw9
                  have u0 : _ = some (Value.int .i64 0) := HK.out.cell 0
                  have u1 : _ = some (Value.string ⟨#[]⟩) := HK.out.cell 1
                  have u2 : _ = some (Value.int .i64 0) := HK.out.cell 2
                  have u3 : _ = some (Value.int .i64 0) := HK.out.cell 3
                  have u4 : _ = some (Value.int .i64 0) := HK.out.cell 4
                  have f0 := HK.out.frozen 0
                  have f1 := HK.out.frozen 1
                  have f2 := HK.out.frozen 2
                  have f3 := HK.out.frozen 3
                  have f4 := HK.out.frozen 4
                  go_wp2_with fail
                  have HBF := Lib.hid (((((HA.out.setCell (p := ⟨w.heap.size, 0, none⟩) (Nat.le_refl _) (.int .i64 4)).setCell (p := ⟨w.heap.size, 1, none⟩) (Nat.le_refl _) (.string ⟨#[46, 46]⟩)).setCell (p := ⟨w.heap.size, 2, none⟩) (Nat.le_refl _) (.int .i64 0)).setCell (p := ⟨w.heap.size, 3, none⟩) (Nat.le_refl _) (.int .i64 0)).setCell (p := ⟨w.heap.size, 4, none⟩) (Nat.le_refl _) (.int .i64 0))
                  refine bodyPost_ret (v := .tuple #[.agg #[.int .i64 4, .string ⟨#[46, 46]⟩, .int .i64 0, .int .i64 0, .int .i64 0], .int .i64 0]) ?_ rfl ⟨[46, 46], by rw [HE.out.1, HE.out.2.2.1, HE.out.2.2.2, HR.out.1, HR.out.2.1]; rfl, (fun _ => by rw [HE.out.2.1, HR.out.2.2]), HBF.out⟩
                  simp [results, Tryz.results44, go_sem, *]
                · have d46 : ((s[at0 + 1].toNat : Int) == 46) = false := beq_eq_false_iff_ne.2 (by omega)
                  have HM := Lib.hid (show mkF l = none by rw [HDR.out, mk_eval, if_neg n61, if_neg n43, if_neg n59, if_neg (fun h => by have h2 := h.2; rw [HTH.out] at h2; simp at h2; exact hd h2)])
                  have HR := Lib.hid (show mkKd l = 0 ∧ mkE l = 30 by exact ⟨by simp [mkKd, HM.out], by simp [mkE, HM.out]⟩)
                  clear HM n61 n43 n59 HTH hc hd
                  go_enter Tryz.func44, Tryz.ntmps44
                  go_wp2_with fail
                  generalize (w.alloc (.cells #[.int .i64 0, .string ⟨#[]⟩, .int .i64 0, .int .i64 0, .int .i64 0] 78)) = W at *
                  refine (HL1.out _).mono ?_
                  rintro e w9 ⟨rfl, hw9⟩
                  subst hw9
                  go_wp2_with fail
                  refine (HD1.out _).mono ?_
                  rintro e w9 ⟨rfl, hw9⟩
                  subst hw9
                  have u0 : _ = some (Value.int .i64 0) := HK.out.cell 0
                  have u1 : _ = some (Value.string ⟨#[]⟩) := HK.out.cell 1
                  have u2 : _ = some (Value.int .i64 0) := HK.out.cell 2
                  have u3 : _ = some (Value.int .i64 0) := HK.out.cell 3
                  have u4 : _ = some (Value.int .i64 0) := HK.out.cell 4
                  have f0 := HK.out.frozen 0
                  have f1 := HK.out.frozen 1
                  have f2 := HK.out.frozen 2
                  have f3 := HK.out.frozen 3
                  have f4 := HK.out.frozen 4
                  go_wp2_with fail
                  have HBF := Lib.hid (((((HA.out.setCell (p := ⟨w.heap.size, 0, none⟩) (Nat.le_refl _) (.int .i64 0)).setCell (p := ⟨w.heap.size, 1, none⟩) (Nat.le_refl _) (.string ⟨#[]⟩)).setCell (p := ⟨w.heap.size, 2, none⟩) (Nat.le_refl _) (.int .i64 0)).setCell (p := ⟨w.heap.size, 3, none⟩) (Nat.le_refl _) (.int .i64 0)).setCell (p := ⟨w.heap.size, 4, none⟩) (Nat.le_refl _) (.int .i64 0))
                  refine bodyPost_ret (v := .tuple #[.agg #[.int .i64 0, .string ⟨#[]⟩, .int .i64 0, .int .i64 0, .int .i64 0], .int .i64 30]) ?_ rfl ⟨[], by rw [HE.out.1, HE.out.2.2.1, HE.out.2.2.2, HR.out.1, HR.out.2]; rfl, (fun h => by rw [HE.out.2.2.2, HR.out.2] at h; cases h), HBF.out⟩
                  simp [results, Tryz.results44, go_sem, *]
              · have b46 : ((s[at0].toNat : Int) == 46) = false := beq_eq_false_iff_ne.2 (by omega)
                have HM := Lib.hid (show mkF l = none by rw [HDR.out, mk_eval, if_neg n61, if_neg n43, if_neg n59, if_neg (fun h => hc h.1)])
                have HR := Lib.hid (show mkKd l = 0 ∧ mkE l = 30 by exact ⟨by simp [mkKd, HM.out], by simp [mkE, HM.out]⟩)
                clear HM n61 n43 n59 HTH hc
                go_enter Tryz.func44, Tryz.ntmps44
                go_wp2_with fail
                generalize (w.alloc (.cells #[.int .i64 0, .string ⟨#[]⟩, .int .i64 0, .int .i64 0, .int .i64 0] 78)) = W at *
                refine (HL1.out _).mono ?_
                rintro e w9 ⟨rfl, hw9⟩
                subst hw9
                go_wp2_with fail
                refine (HD1.out _).mono ?_
                rintro e w9 ⟨rfl, hw9⟩
                subst hw9
                have u0 : _ = some (Value.int .i64 0) := HK.out.cell 0
                have u1 : _ = some (Value.string ⟨#[]⟩) := HK.out.cell 1
                have u2 : _ = some (Value.int .i64 0) := HK.out.cell 2
                have u3 : _ = some (Value.int .i64 0) := HK.out.cell 3
                have u4 : _ = some (Value.int .i64 0) := HK.out.cell 4
                have f0 := HK.out.frozen 0
                have f1 := HK.out.frozen 1
                have f2 := HK.out.frozen 2
                have f3 := HK.out.frozen 3
                have f4 := HK.out.frozen 4
                go_wp2_with fail
                have HBF := Lib.hid (((((HA.out.setCell (p := ⟨w.heap.size, 0, none⟩) (Nat.le_refl _) (.int .i64 0)).setCell (p := ⟨w.heap.size, 1, none⟩) (Nat.le_refl _) (.string ⟨#[]⟩)).setCell (p := ⟨w.heap.size, 2, none⟩) (Nat.le_refl _) (.int .i64 0)).setCell (p := ⟨w.heap.size, 3, none⟩) (Nat.le_refl _) (.int .i64 0)).setCell (p := ⟨w.heap.size, 4, none⟩) (Nat.le_refl _) (.int .i64 0))
                refine bodyPost_ret (v := .tuple #[.agg #[.int .i64 0, .string ⟨#[]⟩, .int .i64 0, .int .i64 0, .int .i64 0], .int .i64 30]) ?_ rfl ⟨[], by rw [HE.out.1, HE.out.2.2.1, HE.out.2.2.2, HR.out.1, HR.out.2]; rfl, (fun h => by rw [HE.out.2.2.2, HR.out.2] at h; cases h), HBF.out⟩
                simp [results, Tryz.results44, go_sem, *]
            · have hnx2 : (s.size : Int) ≤ (at0 : Int) + 1 := by omega
              have HTH := Lib.hid (show s.data.toList.drop (at0 + 1) = [] from List.drop_of_length_le (by rw [HSZ.out]; omega))
              have HM := Lib.hid (show mkF l = none by rw [HDR.out, mk_eval, if_neg n61, if_neg n43, if_neg n59, if_neg (fun h => by have h2 := h.2; rw [HTH.out] at h2; simp at h2)])
              have HR := Lib.hid (show mkKd l = 0 ∧ mkE l = 30 by exact ⟨by simp [mkKd, HM.out], by simp [mkE, HM.out]⟩)
              clear HM n61 n43 n59 HTH
              go_enter Tryz.func44, Tryz.ntmps44
              go_wp2_with fail
              generalize (w.alloc (.cells #[.int .i64 0, .string ⟨#[]⟩, .int .i64 0, .int .i64 0, .int .i64 0] 78)) = W at *
              refine (HL1.out _).mono ?_
              rintro e w9 ⟨rfl, hw9⟩
              subst hw9
              go_wp2_with fail
              refine (HD1.out _).mono ?_
              rintro e w9 ⟨rfl, hw9⟩
              subst hw9
              have u0 : _ = some (Value.int .i64 0) := HK.out.cell 0
              have u1 : _ = some (Value.string ⟨#[]⟩) := HK.out.cell 1
              have u2 : _ = some (Value.int .i64 0) := HK.out.cell 2
              have u3 : _ = some (Value.int .i64 0) := HK.out.cell 3
              have u4 : _ = some (Value.int .i64 0) := HK.out.cell 4
              have f0 := HK.out.frozen 0
              have f1 := HK.out.frozen 1
              have f2 := HK.out.frozen 2
              have f3 := HK.out.frozen 3
              have f4 := HK.out.frozen 4
              go_wp2_with fail
              have HBF := Lib.hid (((((HA.out.setCell (p := ⟨w.heap.size, 0, none⟩) (Nat.le_refl _) (.int .i64 0)).setCell (p := ⟨w.heap.size, 1, none⟩) (Nat.le_refl _) (.string ⟨#[]⟩)).setCell (p := ⟨w.heap.size, 2, none⟩) (Nat.le_refl _) (.int .i64 0)).setCell (p := ⟨w.heap.size, 3, none⟩) (Nat.le_refl _) (.int .i64 0)).setCell (p := ⟨w.heap.size, 4, none⟩) (Nat.le_refl _) (.int .i64 0))
              refine bodyPost_ret (v := .tuple #[.agg #[.int .i64 0, .string ⟨#[]⟩, .int .i64 0, .int .i64 0, .int .i64 0], .int .i64 30]) ?_ rfl ⟨[], by rw [HE.out.1, HE.out.2.2.1, HE.out.2.2.2, HR.out.1, HR.out.2]; rfl, (fun h => by rw [HE.out.2.2.2, HR.out.2] at h; cases h), HBF.out⟩
              simp [results, Tryz.results44, go_sem, *]
end Go.Proofs.YtileecbccmfpdaaGreatDoor
