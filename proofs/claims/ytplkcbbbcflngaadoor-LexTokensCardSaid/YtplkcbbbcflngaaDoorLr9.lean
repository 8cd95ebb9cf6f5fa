/- lex: the document's Tokens. -/
import Derived.Test.YtplkcbbbcflngaaDoorLr8
import Derived.Test.YtplkcbbbcflngaaDoorLr3
import Derived.Deep.RegionLaw
namespace Go.Proofs.YtplkcbbbcflngaaDoor
set_option linter.unusedVariables false
set_option linter.unusedSimpArgs false
open Go.RowKit
structure RlSt (w0 : World) (s : ByteArray) (F : List Tk × Fl) (v : Value) (acc : List Tk) (at0 : Nat) (W : World) : Prop where
  le : at0 ≤ s.size
  flt : Blk W w0.heap.size 27 #[.int .i64 0, .int .i64 0, .int .i64 0]
  own : EOwn elT W v acc
  far : ∀ i, v.ownBlock = some i → w0.heap.size < i
  below : Below w0.heap.size w0 W
  res : F = app acc (tz (s.size - at0 + 1) (s.data.toList.drop at0) (advs (1, 1) (s.data.toList.take at0)))
  few : acc.length + (s.size - at0) ≤ 512
/-- Where a skip ends. -/
theorem skip_to (s : ByteArray) (at0 : Nat) (ha : at0 ≤ s.size) (p : Pl) : (skp false (s.data.toList.drop at0) p).1 = s.data.toList.drop (s.size - (skp false (s.data.toList.drop at0) (1, 1)).1.length) := by
  obtain ⟨a, h⟩ := skp_suffix false (s.data.toList.drop at0) (1, 1)
  rw [skp_place _ _ p (1, 1)]
  generalize (skp false (s.data.toList.drop at0) (1, 1)).1 = r at *
  have hl : (s.data.toList.drop at0).length = s.size - at0 := by rw [List.length_drop]; rfl
  have h2 := congrArg List.length h
  rw [hl, List.length_append] at h2
  have e : s.size - r.length = at0 + a.length := by omega
  rw [e, ← List.drop_drop, h, List.drop_left]
theorem skip_pos (s : ByteArray) (at0 : Nat) (ha : at0 ≤ s.size) : (skp false (s.data.toList.drop at0) (advs (1, 1) (s.data.toList.take at0))).2 = advs (1, 1) (s.data.toList.take (s.size - (skp false (s.data.toList.drop at0) (1, 1)).1.length)) := by
  rw [skp_advs, ← advs_app, skp_place _ _ _ (1, 1)]
  have hl : (s.data.toList.drop at0).length = s.size - at0 := by rw [List.length_drop]; rfl
  have hle := skp_len false (s.data.toList.drop at0) (1, 1)
  rw [hl] at hle ⊢
  congr 1
  rw [← List.take_add]
  congr 1
  omega
set_option maxRecDepth 100000 in
set_option maxHeartbeats 2000000 in
theorem rtokens_any (s : ByteArray) (w : World) (hlen : s.size ≤ 140737488355328) : Calls Tryd.prog 9 #[.string s] w fun e w' => TokensP s.data.toList w e w' := by
  have HSZ : Hid (s.data.toList.length = s.size) := Lib.hid rfl
  have hA : Below w.heap.size w (w.alloc (.cells #[.int .i64 0, .int .i64 0, .int .i64 0] 27)) := (Below.refl _ _).alloc (Nat.le_refl _) _
  have HA := Lib.hid hA
  have HB := Lib.hid (Blk.new w 27 #[.int .i64 0, .int .i64 0, .int .i64 0])
  clear hA
  by_cases h512 : 512 < s.size
  · have hgt : (512 : Int) < (s.size : Int) := by omega
    have HE := Lib.hid (show toks s.data.toList = ([], some (2, (1, 1))) by rw [toks, if_pos (by rw [HSZ.out]; exact h512)])
    go_enter Tryd.func9, Tryd.ntmps9
    have HALL := Lib.hid trivial
    go_upto_region 3 with fail
    generalize (w.alloc (.cells #[.int .i64 0, .int .i64 0, .int .i64 0] 27)) = W at *
    have u0 : _ = some (Value.int .i64 0) := HB.out.cell 0
    have u1 : _ = some (Value.int .i64 0) := HB.out.cell 1
    have u2 : _ = some (Value.int .i64 0) := HB.out.cell 2
    have f0 := HB.out.frozen 0
    have f1 := HB.out.frozen 1
    have f2 := HB.out.frozen 2
    go_wp2_with fail
    have HBF := Lib.hid (Below.set3 (b := w.heap.size) HA.out (Nat.le_refl _) (.int .i64 2) (.int .i64 1) (.int .i64 1))
    refine bodyPost_ret (v := .tuple #[.slice none 0 0, .agg #[.int .i64 2, .int .i64 1, .int .i64 1]]) ?_ rfl ⟨.slice none 0 0, by rw [HE.out]; rfl, by rw [HE.out]; exact EOwn.nil_ _, HBF.out, fun i hi => by simp [Value.ownBlock] at hi⟩
    simp [results, Tryd.results9, go_sem, *]
  · have hgt : (s.size : Int) ≤ 512 := by omega
    have HE := Lib.hid (show toks s.data.toList = tz (s.data.toList.length + 1) (skp false s.data.toList (1, 1)).1 (skp false s.data.toList (1, 1)).2 by rw [toks, if_neg (by rw [HSZ.out]; exact h512)])
    have HSK := Lib.hid (fun W => rskip_any s 0 W (by omega) (by omega))
    have HSL := Lib.hid (skp_len false s.data.toList (1, 1))
    have HT0 := Lib.hid (skip_to s 0 (by omega) (1, 1))
    have HP0 := Lib.hid (skip_pos s 0 (by omega))
    rw [List.drop_zero] at HSK HT0 HP0
    rw [List.take_zero] at HP0
    generalize hn1 : s.size - (skp false s.data.toList (1, 1)).1.length = n1 at *
    go_enter Tryd.func9, Tryd.ntmps9
    go_wp2_with fail
    generalize (w.alloc (.cells #[.int .i64 0, .int .i64 0, .int .i64 0] 27)) = W at *
    generalize hFT : toks s.data.toList = F at *
    have HFT := Lib.hid hFT
    clear hFT
    refine (HSK.out W).mono ?_
    rintro e w9 ⟨rfl, hw9⟩
    subst hw9
    have HS0 := Lib.hid (show RlSt w s F (.slice none 0 0) [] n1 W from ⟨by omega, HB.out, EOwn.nil_ _, fun i hi => by simp [Value.ownBlock] at hi, HA.out, by
      have h2 : (skp false s.data.toList (1, 1)).2 = advs (1, 1) (s.data.toList.take n1) := HP0.out
      rw [HE.out, h2, HT0.out, app_nil _ (tz_shape _ _ _)]
      have hl : (s.data.toList.drop n1).length = s.size - n1 := by rw [List.length_drop, HSZ.out]
      refine tz_more _ _ _ _ ?_ ?_
      · rw [hl, HSZ.out]; omega
      · rw [hl]; omega, by simp; omega⟩)
    clear hn1
    clear HE HSK HSL HT0 HP0 HA HB
    go_wp2_with fail
    go_loopw [4, 5] (fun v i wr => ∃ acc at0, i = .int .i64 (at0 : Nat) ∧ Hid (RlSt w s F v acc at0 wr)) (fun _ i _ => s.size - (intOf i).toNat)
    case atStart => exact ⟨[], n1, rfl, HS0⟩
    case round =>
      obtain ⟨acc, at0, rfl, HS⟩ := hrel
      have hle := HS.out.le
      by_cases hlt : at0 < s.size
      · have hlti : (at0 : Int) < (s.size : Int) := by omega
        have HTK := Lib.hid (rtoken_any s at0 wr (by omega) hlt)
        have hlen2 : (s.data.toList.drop at0).length = s.size - at0 := by rw [List.length_drop, HSZ.out]
        have hne : s.data.toList.drop at0 ≠ [] := by intro e; rw [e] at hlen2; simp at hlen2; omega
        have HR1 := Lib.hid (show tkE (s.data.toList.drop at0) ≠ 0 → F = ([], some (tkE (s.data.toList.drop at0), advs (1, 1) (s.data.toList.take at0))) from fun h => by rw [HS.out.res, tz_err hne (by omega) h]; rfl)
        have HN := Lib.hid (show tkE (s.data.toList.drop at0) = 0 → 0 < (tkA (s.data.toList.drop at0)).length ∧ at0 + (tkA (s.data.toList.drop at0)).length ≤ s.size from fun h => by
          have := tkA_pos h hne
          omega)
        have HR0 := Lib.hid (show tkE (s.data.toList.drop at0) = 0 → ∀ n1, n1 = s.size - (skp false (s.data.toList.drop (at0 + (tkA (s.data.toList.drop at0)).length)) (1, 1)).1.length → F = app (acc ++ [⟨tkK (s.data.toList.drop at0), tkT (s.data.toList.drop at0), tkN (s.data.toList.drop at0), advs (1, 1) (s.data.toList.take at0)⟩]) (tz (s.size - n1 + 1) (s.data.toList.drop n1) (advs (1, 1) (s.data.toList.take n1))) ∧ at0 < n1 ∧ n1 ≤ s.size from fun h n1 hn1 => by
          have hA := HN.out h
          have hsk := skp_len false (s.data.toList.drop (at0 + (tkA (s.data.toList.drop at0)).length)) (1, 1)
          have hl3 : (s.data.toList.drop (at0 + (tkA (s.data.toList.drop at0)).length)).length = s.size - (at0 + (tkA (s.data.toList.drop at0)).length) := by rw [List.length_drop, HSZ.out]
          rw [hl3] at hsk
          refine ⟨?_, by omega, by omega⟩
          have e2 : advs (advs (1, 1) (s.data.toList.take at0)) (tkA (s.data.toList.drop at0)) = advs (1, 1) (s.data.toList.take (at0 + (tkA (s.data.toList.drop at0)).length)) := by
            rw [← advs_app, List.take_add, tkA_take]
          rw [HS.out.res, tz_ok hne h, app_app, List.drop_drop, e2, skip_to s _ hA.2, skip_pos s _ hA.2, ← hn1]
          congr 1
          have hl4 : (s.data.toList.drop n1).length = s.size - n1 := by rw [List.length_drop, HSZ.out]
          refine tz_more _ _ _ _ ?_ ?_
          · rw [hl4]; omega
          · rw [hl4]; omega)
        have HPL := Lib.hid (fun W => place_any s at0 W (by omega) (by omega))
        have HFW := Lib.hid HS.out.few
        have HFAR := Lib.hid HS.out.far
        have HTT := Lib.hid (fun h => @tkT_A (s.data.toList.drop at0) h)
        have HSKX := Lib.hid (fun n (h : at0 + n ≤ s.size) W => rskip_any s (at0 + n) W (by omega) h)
        unfold RTokP tokV at HTK
        generalize advs (1, 1) (s.data.toList.take at0) = p at *
        clear hne hlen2
        go_wp2_with fail
        refine HTK.out.mono ?_
        rintro e w2 ⟨t0, rfl, ht0, hb2⟩
        have hal : Below w2.heap.size w2 (w2.alloc (.cells #[.int .i64 (tkK (s.data.toList.drop at0)), .string (bs t0), .int .i64 (tkN (s.data.toList.drop at0)), .int .i64 0, .int .i64 0] 38)) := (Below.refl _ _).alloc (Nat.le_refl _) _
        have hbb := below_trans hb2 hal
        have HP6 := Lib.hid (Blk.new w2 38 #[.int .i64 (tkK (s.data.toList.drop at0)), .string (bs t0), .int .i64 (tkN (s.data.toList.drop at0)), .int .i64 0, .int .i64 0])
        have HFL := Lib.hid (HS.out.flt.thru0 hbb)
        have HOW := Lib.hid (HS.out.own.below hbb)
        have HBE := Lib.hid (Below.trans HS.out.below (hbb.mono (by have := HS.out.below.size; omega)))
        have HZ6 := Lib.hid (show w.heap.size < w2.heap.size by have := HS.out.flt.lt; have := hb2.size; omega)
        have HOL6 := Lib.hid (show ∀ i, u4.ownBlock = some i → i < w2.heap.size from fun i hi => by have := HS.out.own.lt hi; have := hb2.size; omega)
        have HT0 := Lib.hid ht0
        clear hal hbb hb2 ht0 HS HTK
        go_upto_region 8 with fail
        generalize hp6 : w2.heap.size = p6 at *
        generalize hk1 : tkK (s.data.toList.drop at0) = k1 at *
        generalize hn1' : tkN (s.data.toList.drop at0) = n1' at *
        clear hk1 hn1'
        generalize (w2.alloc (.cells #[.int .i64 k1, .string (bs t0), .int .i64 n1', .int .i64 0, .int .i64 0] 38)) = W3 at *
        by_cases he : tkE (s.data.toList.drop at0) = 0
        · have heb : (tkE (s.data.toList.drop at0) == 0) = true := beq_iff_eq.2 he
          have HNN := Lib.hid (HN.out he)
          have HFF := Lib.hid (HR0.out he)
          have HT1 := Lib.hid (show t0 = tkT (s.data.toList.drop at0) from HT0.out he)
          have HT2 := Lib.hid (show (bs t0).size = (tkA (s.data.toList.drop at0)).length by rw [bs_size, HT1.out, HTT.out he])
          have HSK2 := Lib.hid (HSKX.out _ HNN.out.2)
          have hts : ((bs t0).size : Int) = ((tkA (s.data.toList.drop at0)).length : Int) := by rw [HT2.out]
          rw [← HT1.out] at HFF
          rw [he]
          clear he heb HN HR0 HR1 HTT HT0 HSKX HT2 HT1
          generalize (tkA (s.data.toList.drop at0)).length = n2 at *
          have hn2 : (at0 : Int) + (n2 : Int) ≤ (s.size : Int) := by have := HNN.out.2; omega
          go_wp2_with fail
          refine (HPL.out _).mono ?_
          rintro e w4 ⟨rfl, hb4⟩
          have HP64 := Lib.hid (HP6.out.thru0 hb4)
          have HFL4 := Lib.hid (HFL.out.thru0 hb4)
          have HOW4 := Lib.hid (HOW.out.below hb4)
          have HBE4 := Lib.hid (Below.trans HBE.out (hb4.mono (by have := HBE.out.size; omega)))
          clear hb4 HP6 HFL HOW HBE HPL
          have y3 : _ = some (Value.int .i64 0) := HP64.out.cell 3
          have y4 : _ = some (Value.int .i64 0) := HP64.out.cell 4
          have g3 := HP64.out.frozen 3
          have g4 := HP64.out.frozen 4
          go_upto_region 11 with fail
          have h7b := (HP64.out.set_ 3 (.int .i64 p.1)).set_ 4 (.int .i64 p.2)
          have HP65 := Lib.hid (show Blk _ p6 38 #[.int .i64 k1, .string (bs t0), .int .i64 n1', .int .i64 p.1, .int .i64 p.2] from by simpa using h7b)
          have HFL5 := Lib.hid ((Blk.far HFL4.out (p := ⟨p6, 3, none⟩) (by show w.heap.size ≠ p6; have := HZ6.out; omega) (.int .i64 p.1)).far (p := ⟨p6, 4, none⟩) (by show w.heap.size ≠ p6; have := HZ6.out; omega) (.int .i64 p.2))
          have HOW5 := Lib.hid (HOW4.out.keep (w' := (w4.setCell ⟨p6, 3, none⟩ (.int .i64 p.1)).setCell ⟨p6, 4, none⟩ (.int .i64 p.2)) (fun i hi e => by
            have := HOL6.out i e
            rw [Below.heap_setCell _ _ _ _ (by show i ≠ p6; omega), Below.heap_setCell _ _ _ _ (by show i ≠ p6; omega)]))
          have HBE5 := Lib.hid ((HBE4.out.setCell (p := ⟨p6, 3, none⟩) (by show w.heap.size ≤ p6; have := HZ6.out; omega) (.int .i64 p.1)).setCell (p := ⟨p6, 4, none⟩) (by show w.heap.size ≤ p6; have := HZ6.out; omega) (.int .i64 p.2))
          clear h7b y3 y4 g3 g4 HP64 HFL4 HOW4 HBE4
          generalize ((w4.setCell ⟨p6, 3, none⟩ (.int .i64 p.1)).setCell ⟨p6, 4, none⟩ (.int .i64 p.2)) = W5 at *
          have z0 : _ = some (Value.int .i64 k1) := HP65.out.cell 0
          have z1 : _ = some (Value.string (bs t0)) := HP65.out.cell 1
          have z2 : _ = some (Value.int .i64 n1') := HP65.out.cell 2
          have z3 : _ = some (Value.int .i64 p.1) := HP65.out.cell 3
          have z4 : _ = some (Value.int .i64 p.2) := HP65.out.cell 4
          have hal5 : Below W5.heap.size W5 (W5.alloc (.cells #[.int .i64 k1, .string (bs t0), .int .i64 n1', .int .i64 p.1, .int .i64 p.2] 38)) := (Below.refl _ _).alloc (Nat.le_refl _) _
          have HAL := Lib.hid hal5
          clear hal5
          go_wp2_with ((at_builtin; refine wpList_epush elT_ok rfl _ _ 22 rfl (by kernel_rfl) _ acc ⟨k1, t0, n1', p⟩ W5.heap.size 1 rfl rfl (HOW5.out.below HAL.out) (fun j u hu => new_cell W5 _ _ j (by simpa [elT] using hu)) (by have := HFW.out; omega) ?_; intro v' w6 hAp; have z1 := (Eq.trans (World.cell?_of_block (hAp.keep (k := p6) (by have := HP65.out.lt; have := HAL.out.size; omega) (fun e => by have := HOL6.out _ e; omega))) (cell_later HAL.out z1) : w6.cell? ⟨p6, 1, none⟩ = some (.string (bs t0)))))
          have hfar5 : ∀ i, u4.ownBlock = some i → w.heap.size + 1 ≤ i := fun i hi => by have := HFAR.out i hi; omega
          have hs5 : w.heap.size + 1 ≤ (W5.alloc (.cells #[.int .i64 k1, .string (bs t0), .int .i64 n1', .int .i64 p.1, .int .i64 p.2] 38)).heap.size := by
            have h1 := HFL5.out.lt
            simp; omega
          have HFR6 := Lib.hid (hAp.far hs5 hfar5)
          have HFL6 : Hid (Blk w6 w.heap.size 27 #[.int .i64 0, .int .i64 0, .int .i64 0]) := Lib.hid ((hAp.keep (k := w.heap.size) (by omega) (fun e => by have := hfar5 _ e; omega)).trans (Blk.thru0 HFL5.out HAL.out))
          have HOW6 := Lib.hid hAp.own
          have HBE6 := Lib.hid (Below.trans (Below.trans HBE5.out (HAL.out.mono (by have := HBE5.out.size; omega))) (hAp.below (B := w.heap.size) (by omega) (fun i hi => by have := hfar5 i hi; omega)).1)
          clear hAp hfar5 hs5 HP65 HFL5 HOW5 HBE5 HAL z0 z1 z2 z3 z4
          have hsk := HSK2.out w6
          rw [show (((at0 + n2 : Nat)) : Int) = (at0 : Int) + (n2 : Int) from Int.natCast_add _ _] at hsk
          obtain ⟨hf1, hf2, hf3⟩ := HFF.out _ rfl
          generalize s.size - (skp false (s.data.toList.drop (at0 + n2)) (1, 1)).1.length = n3 at *
          have HSKF := Lib.hid hsk
          have HF1 := Lib.hid hf1
          clear hsk hf1 HFF HSK2
          refine HSKF.out.mono ?_
          rintro e w9 ⟨rfl, hw9⟩
          subst hw9
          have HNX := Lib.hid (show RlSt w s F v' (acc ++ [⟨k1, t0, n1', p⟩]) n3 w6 from ⟨hf3, HFL6.out, HOW6.out, fun i hi => by have := HFR6.out i hi; omega, HBE6.out, HF1.out, by have := HFW.out; simp; omega⟩)
          go_wp2_with fail
          go_roundw
          case rel => exact ⟨_, n3, rfl, HNX⟩
          case measure => simp [intOf]; omega
        · have HF := Lib.hid (HR1.out he)
          have heb : (tkE (s.data.toList.drop at0) == 0) = false := beq_eq_false_iff_ne.2 he
          clear he HR0 HR1 HN HTT HT0 HSKX
          generalize tkE (s.data.toList.drop at0) = e1 at *
          go_wp2_with fail
          have ha3 : Below W3.heap.size W3 (W3.alloc (.cells #[] 38)) := (Below.refl _ _).alloc (Nat.le_refl _) _
          have HER : Hid (EOwn elT (W3.alloc (.cells #[] 38)) (.slice (some ⟨W3.heap.size, 0, none⟩) 0 0) []) := Lib.hid (.inr ⟨W3.heap.size, 0, rfl, #[], Blk.new _ _ _, by rfl, Nat.le_refl _, Nat.zero_le _, rfl⟩)
          have HFL3 := Lib.hid (HFL.out.thru0 ha3)
          have HBE3 := Lib.hid (Below.trans HBE.out (ha3.mono (by have := HBE.out.size; omega)))
          have HW3 := Lib.hid (show w.heap.size < W3.heap.size from HFL.out.lt)
          clear ha3 HFL HBE HOW HP6
          refine (HPL.out _).mono ?_
          rintro e w4 ⟨rfl, hb4⟩
          have HER4 := Lib.hid (HER.out.below hb4)
          have HFL4 := Lib.hid (HFL3.out.thru0 hb4)
          have HBE4 := Lib.hid (Below.trans HBE3.out (hb4.mono (by have := HBE3.out.size; omega)))
          clear hb4 HER HFL3 HBE3
          have u0 : _ = some (Value.int .i64 0) := HFL4.out.cell 0
          have u1 : _ = some (Value.int .i64 0) := HFL4.out.cell 1
          have u2 : _ = some (Value.int .i64 0) := HFL4.out.cell 2
          have f0 := HFL4.out.frozen 0
          have f1 := HFL4.out.frozen 1
          have f2 := HFL4.out.frozen 2
          go_wp2_with fail
          have HBF := Lib.hid (Below.set3 (b := w.heap.size) HBE4.out (Nat.le_refl _) (.int .i64 e1) (.int .i64 p.1) (.int .i64 p.2))
          have HOF := Lib.hid (EOwn.far3 (b := w.heap.size) HER4.out (fun i hi => by simp [Value.ownBlock] at hi; have := HW3.out; omega) (.int .i64 e1) (.int .i64 p.1) (.int .i64 p.2))
          refine bodyPost_ret (v := .tuple #[.slice (some ⟨W3.heap.size, 0, none⟩) 0 0, .agg #[.int .i64 e1, .int .i64 p.1, .int .i64 p.2]]) ?_ rfl ⟨_, by rw [HFT.out, HF.out]; rfl, by rw [HFT.out, HF.out]; exact HOF.out, HBF.out, fun i hi => by simp [Value.ownBlock] at hi; have := HW3.out; omega⟩
          simp [results, Tryd.results9, go_sem, *]
      · obtain rfl : at0 = s.size := by omega
        have HF := Lib.hid (show F = (acc, none) by
          rw [HS.out.res, List.drop_of_length_le (by rw [HSZ.out]; exact Nat.le_refl _), tz_nil]; simp [app])
        have u0 : _ = some (Value.int .i64 0) := HS.out.flt.cell 0
        have u1 : _ = some (Value.int .i64 0) := HS.out.flt.cell 1
        have u2 : _ = some (Value.int .i64 0) := HS.out.flt.cell 2
        have f0 := HS.out.flt.frozen 0
        have f1 := HS.out.flt.frozen 1
        have f2 := HS.out.flt.frozen 2
        go_wp2_with fail
        have HBF := Lib.hid (Below.set3 (b := w.heap.size) HS.out.below (Nat.le_refl _) (.int .i64 0) (.int .i64 0) (.int .i64 0))
        have HOF := Lib.hid (EOwn.far3 (b := w.heap.size) HS.out.own (fun i hi => by have := HS.out.far i hi; omega) (.int .i64 0) (.int .i64 0) (.int .i64 0))
        have HFR := Lib.hid HS.out.far
        refine bodyPost_ret (v := .tuple #[u4, .agg #[.int .i64 0, .int .i64 0, .int .i64 0]]) ?_ rfl ⟨u4, by rw [HFT.out, HF.out]; rfl, by rw [HFT.out, HF.out]; exact HOF.out, HBF.out, fun i hi => by have := HFR.out i hi; omega⟩
        simp [results, Tryd.results9, go_sem, *]
end Go.Proofs.YtplkcbbbcflngaaDoor
