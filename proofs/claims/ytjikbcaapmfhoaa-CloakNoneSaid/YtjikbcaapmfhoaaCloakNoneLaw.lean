/- CloakNone: (P9.5) there is no cloak just if the whole grid does not do. Conditions: none. -/
import Derived.Test.YtjikbcaapmfhoaaCk6
import Derived.Lib.SmallJoins
namespace Go.Proofs.Ytjikbcaapmfhoaa.cloakNone
set_option linter.unusedVariables false
set_option linter.unusedSimpArgs false
open Go.ChangeShapes Go.WideShapes Go.ChangeAt Go.RowKit
open Go.ChangeMaps (open_string shut_string)
theorem code0 (p : Pn) : codeAt 0 p = 0 := by
  unfold codeAt codU
  split
  · rfl
  · rfl
theorem cnt_root (S : List Pn) : cntC S 0 0 0 = S.length := by
  have h : okC 0 0 0 = true := by decide
  rw [cntC, if_pos h, cnt]
  have e : codU 0 0 0 = 0 := rfl
  rw [e, List.countP_eq_length]
  intro p _
  rw [show (0 : Int).toNat = 0 from rfl, code0]; rfl
theorem cnt_le (S : List Pn) (l : Nat) (c : Int) : cnt S l c ≤ S.length := List.countP_le_length
theorem cnt_two (S : List Pn) (l : Nat) (c d : Int) (h : c ≠ d) : cnt S l c + cnt S l d ≤ S.length := by
  induction S with
  | nil => simp [cnt]
  | cons p S ih =>
    rw [cnt_cons, cnt_cons, List.length_cons]
    by_cases h1 : c = codeAt l p
    · have h2 : ¬ d = codeAt l p := fun e => h (h1.trans e.symm)
      rw [if_pos h1, if_neg h2]; omega
    · rw [if_neg h1]; split <;> omega
theorem cntC_le (S : List Pn) (L x y : Int) : cntC S L x y ≤ S.length := by
  unfold cntC; split
  · exact cnt_le _ _ _
  · omega
theorem cntC_two (S : List Pn) (L x y X Y : Int) (h : x ≠ X ∨ y ≠ Y) : cntC S L x y + cntC S L X Y ≤ S.length := by
  unfold cntC
  by_cases h1 : okC L x y = true
  · by_cases h2 : okC L X Y = true
    · rw [if_pos h1, if_pos h2]
      refine cnt_two S _ _ _ fun e => ?_
      have a := code_back _ _ _ h1
      have b := code_back _ _ _ h2
      rw [e] at a
      rcases h with h | h
      · exact h (a.2.2.1.symm.trans b.2.2.1)
      · exact h (a.2.2.2.symm.trans b.2.2.2)
    · rw [if_pos h1, if_neg h2]; have := cnt_le S L.toNat (codU L x y); omega
  · rw [if_neg h1]
    split
    · have := cnt_le S L.toNat (codU L X Y); omega
    · omega
theorem oth_ne (n : Int) : n ≠ oth n := by unfold oth; split <;> omega
theorem area_le (a b c d : Int) : areaU a b c d ≤ 4294967296 := by
  unfold areaU
  split
  · rename_i h
    rw [rightB_iff] at h
    exact (mul_bd (c - a + 1) (d - b + 1) (by omega) (by omega) (by omega) (by omega)).2
  · omega
theorem tried_n {S : List Pn} {L x y : Int} {k : Ck} (h : k ∈ triedK S L x y) : k.n ≤ S.length := by
  have ho : (ownK S L x y).n ≤ S.length := Int.ofNat_le.2 (cntC_le S L x y)
  unfold triedK at h
  split at h
  · rename_i hb
    have e0 : d0 L x y = L := by rw [d0, if_pos hb]
    have e1' : d1 L x y = oth x := by rw [d1, if_pos hb]
    have e2' : d2 L x y = y := by rw [d2, if_pos hb]
    have e3' : e1 L x y = x := by rw [e1, if_pos hb]
    have e4' : e2 L x y = oth y := by rw [e2, if_pos hb]
    have hB : (besK S L x y).n ≤ S.length := by
      have := cntC_two S L x y (oth x) y (.inl (oth_ne x))
      show ((cntC S L x y : Int) + (cntC S (d0 L x y) (d1 L x y) (d2 L x y) : Int)) ≤ _
      rw [e0, e1', e2']; omega
    have hO : (ovrK S L x y).n ≤ S.length := by
      have := cntC_two S L x y x (oth y) (.inr (oth_ne y))
      show ((cntC S L x y : Int) + (cntC S (d0 L x y) (e1 L x y) (e2 L x y) : Int)) ≤ _
      rw [e0, e3', e4']; omega
    split at h
    · simp only [List.mem_cons, List.not_mem_nil, or_false] at h
      rcases h with rfl | rfl | rfl
      · exact ho
      · exact hO
      · exact hB
    · simp only [List.mem_cons, List.not_mem_nil, or_false] at h
      rcases h with rfl | rfl | rfl
      · exact ho
      · exact hB
      · exact hO
  · simp only [List.mem_cons, List.not_mem_nil, or_false] at h
    rcases h with rfl; exact ho
theorem first_none {S : List Pn} {K A L x y : Int} (h : doesP K A S.length 4294967296 = false) : firstK K A (triedK S L x y) = none := by
  unfold firstK
  rw [List.find?_eq_none]
  intro k hk hd
  have h1 := tried_n hk
  have h2 := area_le k.a k.b k.c k.d
  simp only [doesP, Bool.and_eq_true, decide_eq_true_eq] at hd
  have : doesP K A S.length 4294967296 = true := by
    simp only [doesP, Bool.and_eq_true, decide_eq_true_eq]
    exact ⟨⟨hd.1.1, by omega⟩, by omega⟩
  rw [h] at this; cases this
theorem seek_none {S : List Pn} {K A : Int} (h : doesP K A S.length 4294967296 = false) : ∀ (l : Nat) (x y : Int), seekK S K A l x y = none := by
  intro l
  induction l with
  | zero => intro x y; rw [seekK]; exact first_none h
  | succ l ih => intro x y; rw [seekK, first_none h, ih]; rfl
theorem root_box {S : List Pn} : ownK S 0 0 0 = ⟨0, 0, 65535, 65535, 0, 0, 0, 0, (cntC S 0 0 0 : Int)⟩ := rfl
theorem seek_some {S : List Pn} {K A : Int} (h : doesP K A S.length 4294967296 = true) : ∀ (l : Nat) (x y : Int), okC (l : Int) x y = true → (seekK S K A l x y).isSome = true := by
  intro l
  induction l with
  | zero =>
    intro x y ho
    have hb := (okC_iff _ _ _).1 ho
    simp at hb
    have hx : x = 0 := by omega
    have hy : y = 0 := by omega
    subst hx; subst hy
    rw [seekK]
    have e : triedK S 0 0 0 = [ownK S 0 0 0] := by rw [triedK, if_neg (by decide)]
    rw [e, root_box, cnt_root, firstK, List.find?_cons]
    have e2 : areaU 0 0 65535 65535 = 4294967296 := by decide
    simp only [e2, h]
    rfl
  | succ l ih =>
    intro x y ho
    rw [seekK, Option.isSome_or]
    have h2 := ih (x / 2) (y / 2) (by
      have h := (okC_iff _ _ _).1 ho
      rw [okC_iff]
      simp only [Int.toNat_natCast] at h ⊢
      rw [Int.pow_succ] at h
      omega)
    rw [h2, Bool.or_true]
theorem find_none {S : List Pn} {K A px py : Int} (hf : fitsB px py = true) (hr : rightP K = true) :
    (doesP K A S.length 4294967296 = true ∧ findE S K A px py = 0) ∨ (doesP K A S.length 4294967296 = false ∧ findE S K A px py = 21) := by
  rw [findE, if_pos ⟨hf, hr⟩]
  cases hd : doesP K A S.length 4294967296 with
  | true => exact .inl ⟨rfl, by rw [seek_some hd 16 px py (by rw [show ((16 : Nat) : Int) = 16 from rfl, ← fits_okC]; exact hf)]; rfl⟩
  | false => exact .inr ⟨rfl, by rw [seek_none hd]; rfl⟩
def Two_ (w0 : World) (px py K A : Int) (W : World) : Prop := Blk W w0.heap.size 24 #[.int .i64 px, .int .i64 py] ∧ Blk W (w0.heap.size + 1) 27 #[.int .i64 K, .int .u64 A]
theorem Two_.below {w0 W X : World} {px py K A : Int} (h : Two_ w0 px py K A W) (hb : Below W.heap.size W X) : Two_ w0 px py K A X := ⟨h.1.thru0 hb, h.2.thru0 hb⟩
set_option maxRecDepth 100000 in
set_option maxHeartbeats 8000000 in
theorem walk (a : Option Addr) (len cap0 : Nat) (px py K A : Int) (w : World) (h : IsSl w 2 (PntOk w) a len cap0) (c0 : -9223372036854775808 ≤ px ∧ px ≤ 9223372036854775807) (c1 : -9223372036854775808 ≤ py ∧ py ≤ 9223372036854775807) (c2 : -9223372036854775808 ≤ K ∧ K ≤ 9223372036854775807) (c3 : 0 ≤ A ∧ A ≤ 18446744073709551615) :
    Calls Try.prog 6 #[.slice a len cap0, .agg #[.int .i64 px, .int .i64 py], .agg #[.int .i64 K, .int .u64 A]] w fun e w' => e = .returned (.bool true) ∧ Below w.heap.size w w' := by
  have hlc := h.le
  obtain ⟨hlc1, hlc2⟩ := hlc
  unfold maxLen at hlc2
  obtain ⟨S, hS⟩ := rd_of h
  clear h c0 c1 c2 c3
  have hA : Below w.heap.size w ((w.alloc (.cells #[.int .i64 px, .int .i64 py] 24)).alloc (.cells #[.int .i64 K, .int .u64 A] 27)) := ((Below.refl _ _).alloc (Nat.le_refl _) _).alloc (by simp) _
  have HK : Hid (Two_ w px py K A ((w.alloc (.cells #[.int .i64 px, .int .i64 py] 24)).alloc (.cells #[.int .i64 K, .int .u64 A] 27))) := Lib.hid (blk_two w 24 27 #[.int .i64 px, .int .i64 py] #[.int .i64 K, .int .u64 A])
  have HR := Lib.hid (hS.below hA)
  have HA := Lib.hid hA
  clear hS hA
  by_cases hbig : 60 < len
  · have hbi : (60 : Int) < (len : Int) := by omega
    go_enter Try.func6, Try.ntmps6
    go_wp2_with fail
    refine (built_big a len cap0 _ hbig).mono ?_
    rintro e w1 ⟨rfl, hb1⟩
    have HB := Lib.hid (below_trans HA.out hb1)
    clear hb1
    go_wp2_with fail
    refine (ckknown_any _).mono ?_
    rintro e w5 ⟨rfl, hb5⟩
    have HB5 := Lib.hid (below_trans HB.out hb5)
    clear hb5
    go_wp2
    go_ret
    exact ⟨rfl, HB5.out⟩
  · have hbi : (len : Int) ≤ 60 := by omega
    have HBT := Lib.hid (built_any a len cap0 S _ HR.out (by omega))
    have hlen := haveK_len S len
    go_enter Try.func6, Try.ntmps6
    go_wp2_with fail
    refine HBT.out.mono ?_
    rintro e w1 ⟨y, cs, A1, c1', rfl, hp⟩
    have HB1 := Lib.hid (below_trans HA.out hp.2.2.1)
    have HPY := Lib.hid hp.1
    replace HK := Lib.hid (HK.out.below hp.2.2.1)
    clear hp HBT HR HA
    have HL : Hid ((haveK S len).length ≤ 500000) := Lib.hid (by omega)
    clear hlen
    generalize haveK S len = H at *
    have p0 := HK.out.1.cell 0
    have p1 := HK.out.1.cell 1
    have f0 := HK.out.2.cell 0
    have f1 := HK.out.2.cell 1
    simp only [List.getElem?_toArray, List.getElem?_cons_zero, List.getElem?_cons_succ] at p0 p1 f0 f1
    have HFT := Lib.hid (ref_fits px py)
    have HRR := Lib.hid (rright_pr K A)
    cases hf : fitsB px py with
    | false =>
      rw [hf] at HFT
      clear hf
      go_wp2_with fail
      refine (HFT.out _).mono ?_
      rintro e w2 ⟨rfl, hb2⟩
      have HB2 := Lib.hid (below_trans HB1.out hb2)
      clear hb2
      go_wp2_with fail
      refine (ckknown_any _).mono ?_
      rintro e w5 ⟨rfl, hb5⟩
      have HB5 := Lib.hid (below_trans HB2.out hb5)
      clear hb5
      go_wp2
      go_ret
      exact ⟨rfl, HB5.out⟩
    | true =>
      rw [hf] at HFT
      go_wp2_with fail
      refine (HFT.out _).mono ?_
      rintro e w2 ⟨rfl, hb2⟩
      have HB2 := Lib.hid (below_trans HB1.out hb2)
      replace HK := Lib.hid (HK.out.below hb2)
      have HPY2 := Lib.hid (HPY.out.below hb2)
      clear hb2 HPY HB1
      clear p0 p1 f0 f1
      have p0 := HK.out.1.cell 0
      have p1 := HK.out.1.cell 1
      have f0 := HK.out.2.cell 0
      have f1 := HK.out.2.cell 1
      simp only [List.getElem?_toArray, List.getElem?_cons_zero, List.getElem?_cons_succ] at p0 p1 f0 f1
      cases hr : rightP K with
      | false =>
        rw [hr] at HRR
        clear hr hf
        go_wp2_with fail
        refine (HRR.out _).mono ?_
        rintro e w3 ⟨rfl, hb3⟩
        have HB3 := Lib.hid (below_trans HB2.out hb3)
        clear hb3
        go_wp2_with fail
        refine (ckknown_any _).mono ?_
        rintro e w5 ⟨rfl, hb5⟩
        have HB5 := Lib.hid (below_trans HB3.out hb5)
        clear hb5
        go_wp2
        go_ret
        exact ⟨rfl, HB5.out⟩
      | true =>
        rw [hr] at HRR
        have HOR := Lib.hid (find_none (S := H) (A := A) hf hr)
        clear hr hf
        go_wp2_with fail
        refine (HRR.out _).mono ?_
        rintro e w3 ⟨rfl, hb3⟩
        have HB3 := Lib.hid (below_trans HB2.out hb3)
        replace HK := Lib.hid (HK.out.below hb3)
        have HPY3 := Lib.hid (HPY2.out.below hb3)
        clear hb3 HPY2 HB2
        clear p0 p1 f0 f1
        have p0 := HK.out.1.cell 0
        have p1 := HK.out.1.cell 1
        have f0 := HK.out.2.cell 0
        have f1 := HK.out.2.cell 1
        simp only [List.getElem?_toArray, List.getElem?_cons_zero, List.getElem?_cons_succ] at p0 p1 f0 f1
        have HFA := Lib.hid (find_any y cs H (17 * len) px py K A w3 HPY3.out HL.out)
        unfold FindP at HFA
        go_wp2_with fail
        refine HFA.out.mono ?_
        rintro e w4 ⟨rfl, hb4⟩
        generalize (findK H K A px py).getD ck0 = ka at *
        generalize findE H K A px py = ea at *
        have hA4 : Below w4.heap.size w4 (w4.alloc (.cells #[.int .i64 ka.a, .int .i64 ka.b, .int .i64 ka.c, .int .i64 ka.d, .int .i64 ka.L, .int .i64 ka.x, .int .i64 ka.y, .int .i64 ka.kd, .int .i64 ka.n] 37)) := (Below.refl _ _).alloc (Nat.le_refl _) _
        have HB4 := Lib.hid (below_trans (below_trans HB3.out hb4) hA4)
        replace HK := Lib.hid ((HK.out.below hb4).below hA4)
        clear hb4 hA4 HFA HPY3 HB3
        clear p0 p1 f0 f1
        have p0 := HK.out.1.cell 0
        have p1 := HK.out.1.cell 1
        have f0 := HK.out.2.cell 0
        have f1 := HK.out.2.cell 1
        simp only [List.getElem?_toArray, List.getElem?_cons_zero, List.getElem?_cons_succ] at p0 p1 f0 f1
        unfold Ck.val
        have HDO := Lib.hid (rdoes_any K A (H.length : Int) 4294967296)
        rcases HOR.out with ⟨hd, rfl⟩ | ⟨hd, rfl⟩
        all_goals
          rw [hd] at HDO
          clear hd HOR
          go_wp2_with fail
          generalize (w4.alloc (.cells #[.int .i64 ka.a, .int .i64 ka.b, .int .i64 ka.c, .int .i64 ka.d, .int .i64 ka.L, .int .i64 ka.x, .int .i64 ka.y, .int .i64 ka.kd, .int .i64 ka.n] 37)) = W4 at *
          refine (HDO.out _).mono ?_
          rintro e w5 ⟨rfl, hb5⟩
          have HB5 := Lib.hid (below_trans HB4.out hb5)
          replace HK := Lib.hid (HK.out.below hb5)
          clear hb5
          clear p0 p1 f0 f1
          have p0 := HK.out.1.cell 0
          have p1 := HK.out.1.cell 1
          have f0 := HK.out.2.cell 0
          have f1 := HK.out.2.cell 1
          simp only [List.getElem?_toArray, List.getElem?_cons_zero, List.getElem?_cons_succ] at p0 p1 f0 f1
          go_wp2_with fail
          refine (HDO.out _).mono ?_
          rintro e w6 ⟨rfl, hb6⟩
          have HB6 := Lib.hid (below_trans HB5.out hb6)
          clear hb6
          go_wp2_with fail
          refine (ckknown_any _).mono ?_
          rintro e w7 ⟨rfl, hb7⟩
          have HB7 := Lib.hid (below_trans HB6.out hb7)
          clear hb7
          go_wp2
          go_ret
          exact ⟨rfl, HB7.out⟩

theorem own : ownKnob Try.prog.godebug = none := by kernel_rfl
theorem laidOut : laidOutB Try.prog = true := by kernel_rfl
set_option maxRecDepth 100000 in
theorem lifted (os : Os) (started : os.Started) (H : Type) (enc : TypeId × Value → H) :
    ReturnsInHanded {} Try.checked os 6 .any (Rows.cloakNoneSpec.pre6 enc Try.prog Try.f6 Rows.cloakNoneRow.domain false) (Rows.cloakNoneSpec.post enc Try.prog Try.f6 false true false false) := by
  refine returnsInHanded_of_change_sized (C := Try.checked) own started (by kernel_rfl) Try.func6
    (ChangeSpec.witness6 (enc := enc) (C := Try.checked) false ⟨#[], #[.slice none 0 0, .agg #[.int .i64 0, .int .i64 0], .agg #[.int .i64 0, .int .u64 0]], []⟩ 8 (by kernel_rfl) (by kernel_rfl) (by kernel_rfl) (by kernel_rfl)) ?_
  intro W base args ds gs before hval0 hW hcnd hsz0 _
  have hval : ∀ (j : Nat) t v, Try.f6.params[j]? = some t → args[j]? = some v → Value.okWide Try.prog W .any base t v := hval0
  have hW' := hW
  obtain ⟨p, q, hA0, hV, rfl, hfz, hnd⟩ := hW
  have hA : DataW.TrodAll enc Try.prog W 0 (fun _ => true) true Try.f6.params.toList args.toList ds p := hA0
  rw [Try.params6] at hA hval
  obtain ⟨v0, vs0, d0, ds0, p0, q0, hargs, rfl, rfl, h0, r0⟩ := trodAll_cons hA
  obtain ⟨v1, vs1, d1, ds1, p1, q1, rfl, rfl, rfl, h1, r1⟩ := trodAll_cons r0
  obtain ⟨v2, vs2, d2, ds2, p2, q2, rfl, rfl, rfl, h2, r2⟩ := trodAll_cons r1
  obtain ⟨rfl, rfl, rfl⟩ := trodAll_nil r2
  obtain rfl : args = #[v0, v1, v2] := by cases args; simp_all
  obtain ⟨rfl, rfl⟩ := trodVars_none hV
  have k0 := h0
  have lt0 : ∀ x ∈ p0, x.block < W.heap.size := by obtain ⟨m, hm⟩ := k0; exact DataW.trod_lt m _ _ _ hm
  obtain ⟨a0, len0, cap0, rfl⟩ := okWide_slice Try.underlying22 (hval 0 22 v0 rfl rfl)
  have w0 : IsSl W 2 (PntOk W) a0 len0 cap0 := by
    obtain ⟨fuel, hf⟩ := h0
    exact isSl_of Try.underlying22 (by kernel_rfl) pntOk_of hf (fun n hn => of_decide_eq_true (List.all_eq_true.1 hsz0 n (DataW.weights_mem_each (j := 0) (t := 22) (d := d0) rfl rfl n hn)))
  have k1 := h1
  have lt1 : ∀ x ∈ p1, x.block < W.heap.size := by obtain ⟨m, hm⟩ := k1; exact DataW.trod_lt m _ _ _ hm
  obtain ⟨c1_0, c1_1, y1_0, y1_1, m1, rfl, rfl, rfl, hy1_0, hy1_1⟩ := Joins.open_agg2 Try.underlying24 (by kernel_rfl) (by kernel_rfl) (hval 1 24 v1 rfl rfl) h1
  obtain ⟨a1_0, e1_0, rfl, w1_0⟩ := DataW.trod_int Try.underlying3 hy1_0
  simp only [List.cons.injEq, and_true] at e1_0
  subst e1_0
  obtain ⟨a1_1, e1_1, rfl, w1_1⟩ := DataW.trod_int Try.underlying3 hy1_1
  simp only [List.cons.injEq, and_true] at e1_1
  subst e1_1
  have k2 := h2
  have lt2 : ∀ x ∈ p2, x.block < W.heap.size := by obtain ⟨m, hm⟩ := k2; exact DataW.trod_lt m _ _ _ hm
  obtain ⟨c2_0, c2_1, y2_0, y2_1, m2, rfl, rfl, rfl, hy2_0, hy2_1⟩ := Joins.open_agg2 Try.underlying27 (by kernel_rfl) (by kernel_rfl) (hval 2 27 v2 rfl rfl) h2
  obtain ⟨a2_0, e2_0, rfl, w2_0⟩ := DataW.trod_int Try.underlying3 hy2_0
  simp only [List.cons.injEq, and_true] at e2_0
  subst e2_0
  obtain ⟨a2_1, e2_1, rfl, w2_1⟩ := DataW.trod_int Try.underlying25 hy2_1
  simp only [List.cons.injEq, and_true] at e2_1
  subst e2_1
  clear hA0 hval0
  refine (walk a0 len0 cap0 a1_0 a1_1 a2_0 a2_1 W w0 (bounds_i64 w1_0) (bounds_i64 w1_1) (bounds_i64 w2_0) (bounds_u64 w2_1)).mono fun e W' ⟨he, bel⟩ => ?_
  subst he
  exact ⟨_, rfl, _, _, _, [], _, [], hW', trodAll_mk1 (shut_bool Try.underlying4 _), (trodAll_cons_mk (Below.trod laidOut (by kernel_rfl) (of_decide_eq_true (by kernel_rfl)) k0 bel lt0) (trodAll_cons_mk (Below.trod laidOut (by kernel_rfl) (of_decide_eq_true (by kernel_rfl)) k1 bel lt1) (trodAll_cons_mk (Below.trod laidOut (by kernel_rfl) (of_decide_eq_true (by kernel_rfl)) k2 bel lt2) trodAll_mk0))), rfl, bel.frame _, fun h => by cases h⟩
theorem over : Rows.cloakNoneRow.holds Try.pinned (OpenSpec.ofChange Rows.cloakNoneSpec) :=
  OpenClaim.holds_of_wide 6 Try.f6 rfl rfl rfl rfl rfl rfl rfl ⟨rfl, rfl, rfl, rfl, rfl⟩ rfl rfl rfl rfl rfl (by kernel_rfl) Try.func6 (by kernel_rfl)
    (of_decide_eq_true (by kernel_rfl)) (by unfold Func.isWrapper; first | (rw [if_pos (by decide +kernel)]; kernel_rfl) | (rw [if_neg (by decide +kernel)]; exact ⟨rfl, rfl⟩))
    (fun os started H enc _ => lifted os started H enc)
/-- The statement. -/
theorem proved : Rows.CloakNoneSaid := over
#print axioms proved
end Go.Proofs.Ytjikbcaapmfhoaa.cloakNone
