/- region: the runs of a row, with a closure (runsM). -/
import Derived.Test.YtimfcgnnfgoaaaaRgG
import Derived.Deep.DeepCutAuto
namespace Go.Proofs.Ytimfcgnnfgoaaaa
set_option linter.unusedVariables false
set_option linter.unusedSimpArgs false
open Go.RowKit
set_option maxRecDepth 100000 in
set_option maxHeartbeats 16000000 in
theorem runsM (w : World) (v : Value) (E : List En) (row : Int) (h : ERd elEd w v E) (hl : E.length ≤ 100000) (hok : ∀ e ∈ E, EnOk e) :
    Calls Try.prog 57 #[v, .int .i64 row, .func (.func 28) #[] #[]] w (RunsP w (fun p q : Bool => p && !q) row E) := by
  obtain ⟨A1, c1, rfl, -, -⟩ := h.shape
  have HL := Lib.hid h
  have HOK := Lib.hid hok
  clear h hok
  obtain ⟨C, hC⟩ : ∃ C, C = (fun p q : Bool => p && !q) := ⟨_, rfl⟩
  rw [← hC]
  have HC := Lib.hid hC; clear hC
  obtain ⟨n, hn⟩ : ∃ n, n = E.length := ⟨_, rfl⟩
  rw [← hn] at HL hl ⊢
  have HN := Lib.hid hn; clear hn
  have hW0 : Below w.heap.size w (w.alloc (.cells #[.int .i64 0, .int .i64 0] 94)) := (Below.refl _ _).alloc (Nat.le_refl _) _
  have HST := Lib.hid (show RnSt w w.heap.size (.slice none 0 0) (scan C row (E.take 0) ⟨[], 0, 0, 0⟩).l (scan C row (E.take 0) ⟨[], 0, 0, 0⟩).p (scan C row (E.take 0) ⟨[], 0, 0, 0⟩).q (w.alloc (.cells #[.int .i64 0, .int .i64 0] 94)) from ⟨by simpa [scan] using FE.nil_ (E := elRn) w _ hW0, by simpa [scan] using Blk.new w 94 #[.int .i64 0, .int .i64 0], by simp [Value.ownBlock], Nat.le_refl _⟩)
  clear hW0
  go_enter Try.func57, Try.ntmps57
  go_wp2_with fail
  generalize (w.alloc (.cells #[.int .i64 0, .int .i64 0] 94)) = W0 at *
  generalize hb : w.heap.size = b at *
  have HBW := Lib.hid hb
  clear hb
  go_loopw [7, 9, 14] (fun v vx i wr => ∃ (j : Nat) (v0 : Value) (x : Int), j ≤ n ∧ v = v0 ∧ vx = .int .i64 x ∧ i = .int .i64 j ∧ Hid (x = (scan C row (E.take j) ⟨[], 0, 0, 0⟩).x ∧ RnSt w b v0 (scan C row (E.take j) ⟨[], 0, 0, 0⟩).l (scan C row (E.take j) ⟨[], 0, 0, 0⟩).p (scan C row (E.take j) ⟨[], 0, 0, 0⟩).q wr)) (fun _ _ i _ => n - (intOf i).toNat)
  case atStart => exact ⟨0, _, 0, Nat.zero_le _, rfl, rfl, rfl, Lib.hid ⟨rfl, HST.out⟩⟩
  case round =>
    rename World => wr
    obtain ⟨j, v0, xx, hj, hv, rfl, rfl, HS0⟩ := hrel
    have hv' := hv.symm
    clear hv
    subst hv'
    by_cases hlt : j < n
    · have hji : (j : Int) < (n : Int) := by omega
      have hkl : j < E.length := by rw [← HN.out]; exact hlt
      have hx : E[j]? = some E[j] := List.getElem?_eq_getElem hkl
      have hrx := HOK.out _ (List.getElem_mem hkl)
      have hsn := scan_snoc C row hkl ⟨[], 0, 0, 0⟩
      have hbd := scan_bd C row (E.take j) ⟨[], 0, 0, 0⟩ (fun e he => HOK.out e (List.mem_of_mem_take he)) (Int.le_refl _) (by decide)
      have hln := scan_len C row (E.take j) ⟨[], 0, 0, 0⟩
      have htl : (E.take j).length = j := by rw [List.length_take]; omega
      rw [htl] at hbd hln
      obtain ⟨g, o, rfl, hg, a0, a1, a2, a3, a4⟩ := (HL.out.below HS0.out.2.fe.bel).endE hx
      generalize E[j] = e9 at *
      clear hx hg htl
      obtain ⟨x0, x1, x2, x3, x4⟩ := e9
      unfold EnOk at hrx
      generalize hz : scan C row (E.take j) ⟨[], 0, 0, 0⟩ = z at *
      obtain ⟨zl, zx, zp, zq⟩ := z
      simp only at a0 a1 a2 a3 a4 hrx hbd hln HS0
      obtain ⟨rfl, hst⟩ := HS0.out
      have HS := Lib.hid (hst.below (W := wr.alloc (.cells #[.int .i64 x0, .int .i64 x1, .int .i64 x2, .int .i64 x3, .int .i64 x4] 80)) ((Below.refl _ _).alloc (Nat.le_refl _) _))
      have HEB := Lib.hid (Blk.new wr 80 #[.int .i64 x0, .int .i64 x1, .int .i64 x2, .int .i64 x3, .int .i64 x4])
      have HNB := Lib.hid (show v0.ownBlock ≠ some wr.heap.size from fun e => by have := hst.fe.own.lt e; omega)
      have HLN := Lib.hid (show zl.length ≤ 1000000 by simp at hln; omega)
      have HSN := Lib.hid hsn
      have hp1 : wrap64 (zp + x4) = zp + x4 := by unfold wrap64; simp at hbd; omega
      have hq1 : wrap64 (zq + x4) = zq + x4 := by unfold wrap64; simp at hbd; omega
      have hx1 : wrap64 (x0 - 1) = x0 - 1 := by unfold wrap64; omega
      have HXR := Lib.hid (show 0 ≤ xx ∧ xx ≤ 100000 by simp at hbd; omega)
      have hk := hrx.2.2.2.2.2.1
      clear hst hz hbd hln hsn hrx HS0
      by_cases hrel : x1 ≤ row ∧ row ≤ x2
      · have HRE := Lib.hid (show relE ⟨x0, x1, x2, x3, x4⟩ row = true by simpa [relE] using hrel)
        have r1 : ¬ row < x1 := by omega
        have r2 : ¬ x2 < row := by omega
        clear hrel
        by_cases hxx : xx < x0
        · by_cases hp : 0 < zp <;> by_cases hq : 0 < zq
          · have HCC := Lib.hid (show C (decide (0 < zp)) (decide (0 < zq)) = false by rw [HC.out]; simp [hp, hq])
            have HCA := Lib.hid (fun W => minus1_any true true W)
            simp only [Bool.not_true, Bool.not_false, Bool.and_true, Bool.and_false, Bool.true_and, Bool.false_and, Bool.or_true, Bool.or_false, Bool.true_or, Bool.false_or, bne_self_eq_false, Bool.true_bne, Bool.false_bne] at HCA
            have HSC := Lib.hid (sc_off (z := ⟨zl, xx, zp, zq⟩) (C := C) HRE.out (by rw [HCC.out]; simp))
            have y0 := HS.out.blk.cell 0
            have y1 := HS.out.blk.cell 1
            have yf := HS.out.blk.frozen 0
            have yg := HS.out.blk.frozen 1
            simp only [List.getElem?_toArray, List.getElem?_cons_zero, List.getElem?_cons_succ] at y0 y1
            rcases hk with rfl | rfl
            · go_wp2_with (first | (go_at_call 28; refine (HCA.out _).mono ?_; rintro e w9 ⟨rfl, hw9⟩; subst hw9))
              go_region
              go_wp2_with fail
              have HN9 := Lib.hid (HS.out.set0 (zp + x4))
              have HND := Lib.hid (HS.out.set0d (zp + x4))
              go_roundw
              case rel => exact ⟨j + 1, _, x0, by omega, rfl, rfl, by go_num, by rw [HSN.out, HSC.out]; exact Lib.hid ⟨rfl, by first | (simpa using HND.out) | (simpa using HN9.out)⟩⟩
              case measure => simp [intOf]; omega
            · go_wp2_with (first | (go_at_call 28; refine (HCA.out _).mono ?_; rintro e w9 ⟨rfl, hw9⟩; subst hw9))
              go_region
              go_wp2_with fail
              have HN9 := Lib.hid (HS.out.set1 (zq + x4))
              have HND := Lib.hid (HS.out.set1d (zq + x4))
              go_roundw
              case rel => exact ⟨j + 1, _, x0, by omega, rfl, rfl, by go_num, by rw [HSN.out, HSC.out]; exact Lib.hid ⟨rfl, by first | (simpa using HND.out) | (simpa using HN9.out)⟩⟩
              case measure => simp [intOf]; omega
          · have HCC := Lib.hid (show C (decide (0 < zp)) (decide (0 < zq)) = true by rw [HC.out]; simp [hp, hq])
            have HCA := Lib.hid (fun W => minus1_any true false W)
            simp only [Bool.not_true, Bool.not_false, Bool.and_true, Bool.and_false, Bool.true_and, Bool.false_and, Bool.or_true, Bool.or_false, Bool.true_or, Bool.false_or, bne_self_eq_false, Bool.true_bne, Bool.false_bne] at HCA
            have HSC := Lib.hid (sc_on (z := ⟨zl, xx, zp, zq⟩) HRE.out hxx HCC.out)
            obtain ⟨Av, cv, rfl, -, -⟩ := HS.out.fe.own.slice
            have y0 := HS.out.blk.cell 0
            have y1 := HS.out.blk.cell 1
            simp only [List.getElem?_toArray, List.getElem?_cons_zero, List.getElem?_cons_succ] at y0 y1
            have HFO := Lib.hid (follow_any (wr.alloc (.cells #[.int .i64 x0, .int .i64 x1, .int .i64 x2, .int .i64 x3, .int .i64 x4] 80)) _ zl ⟨xx, x0 - 1⟩ HS.out.fe.own HLN.out HXR.out)
            rcases hk with rfl | rfl
            · go_wp2_with (first | (go_at_call 28; refine (HCA.out _).mono ?_; rintro e w9 ⟨rfl, hw9⟩; subst hw9) | (go_at_call 63; refine HFO.out.mono ?_; intro e w5 hfo; obtain ⟨v5, he5, hs5, hkp⟩ := HS.out.follow hfo; subst he5; have HS5 := Lib.hid hs5; have HE5 := Lib.hid (hkp _ _ _ HEB.out HNB.out); clear hfo hs5 hkp; have e0 := HE5.out.cell 0; have e3 := HE5.out.cell 3; have e4 := HE5.out.cell 4; have z0 := HS5.out.blk.cell 0; have zf := HS5.out.blk.frozen 0; simp only [List.getElem?_toArray, List.getElem?_cons_zero, List.getElem?_cons_succ] at e0 e3 e4 z0))
              go_region
              go_wp2_with fail
              have HN9 := Lib.hid (HS5.out.set0 (zp + x4))
              have HND := Lib.hid (HS5.out.set0d (zp + x4))
              go_roundw
              case rel => exact ⟨j + 1, _, x0, by omega, rfl, rfl, by go_num, by rw [HSN.out, HSC.out]; exact Lib.hid ⟨rfl, by first | (simpa using HND.out) | (simpa using HN9.out)⟩⟩
              case measure => simp [intOf]; omega
            · go_wp2_with (first | (go_at_call 28; refine (HCA.out _).mono ?_; rintro e w9 ⟨rfl, hw9⟩; subst hw9) | (go_at_call 63; refine HFO.out.mono ?_; intro e w5 hfo; obtain ⟨v5, he5, hs5, hkp⟩ := HS.out.follow hfo; subst he5; have HS5 := Lib.hid hs5; have HE5 := Lib.hid (hkp _ _ _ HEB.out HNB.out); clear hfo hs5 hkp; have e0 := HE5.out.cell 0; have e3 := HE5.out.cell 3; have e4 := HE5.out.cell 4; have z0 := HS5.out.blk.cell 1; have zf := HS5.out.blk.frozen 1; simp only [List.getElem?_toArray, List.getElem?_cons_zero, List.getElem?_cons_succ] at e0 e3 e4 z0))
              go_region
              go_wp2_with fail
              have HN9 := Lib.hid (HS5.out.set1 (zq + x4))
              have HND := Lib.hid (HS5.out.set1d (zq + x4))
              go_roundw
              case rel => exact ⟨j + 1, _, x0, by omega, rfl, rfl, by go_num, by rw [HSN.out, HSC.out]; exact Lib.hid ⟨rfl, by first | (simpa using HND.out) | (simpa using HN9.out)⟩⟩
              case measure => simp [intOf]; omega
          · have HCC := Lib.hid (show C (decide (0 < zp)) (decide (0 < zq)) = false by rw [HC.out]; simp [hp, hq])
            have HCA := Lib.hid (fun W => minus1_any false true W)
            simp only [Bool.not_true, Bool.not_false, Bool.and_true, Bool.and_false, Bool.true_and, Bool.false_and, Bool.or_true, Bool.or_false, Bool.true_or, Bool.false_or, bne_self_eq_false, Bool.true_bne, Bool.false_bne] at HCA
            have HSC := Lib.hid (sc_off (z := ⟨zl, xx, zp, zq⟩) (C := C) HRE.out (by rw [HCC.out]; simp))
            have y0 := HS.out.blk.cell 0
            have y1 := HS.out.blk.cell 1
            have yf := HS.out.blk.frozen 0
            have yg := HS.out.blk.frozen 1
            simp only [List.getElem?_toArray, List.getElem?_cons_zero, List.getElem?_cons_succ] at y0 y1
            rcases hk with rfl | rfl
            · go_wp2_with (first | (go_at_call 28; refine (HCA.out _).mono ?_; rintro e w9 ⟨rfl, hw9⟩; subst hw9))
              go_region
              go_wp2_with fail
              have HN9 := Lib.hid (HS.out.set0 (zp + x4))
              have HND := Lib.hid (HS.out.set0d (zp + x4))
              go_roundw
              case rel => exact ⟨j + 1, _, x0, by omega, rfl, rfl, by go_num, by rw [HSN.out, HSC.out]; exact Lib.hid ⟨rfl, by first | (simpa using HND.out) | (simpa using HN9.out)⟩⟩
              case measure => simp [intOf]; omega
            · go_wp2_with (first | (go_at_call 28; refine (HCA.out _).mono ?_; rintro e w9 ⟨rfl, hw9⟩; subst hw9))
              go_region
              go_wp2_with fail
              have HN9 := Lib.hid (HS.out.set1 (zq + x4))
              have HND := Lib.hid (HS.out.set1d (zq + x4))
              go_roundw
              case rel => exact ⟨j + 1, _, x0, by omega, rfl, rfl, by go_num, by rw [HSN.out, HSC.out]; exact Lib.hid ⟨rfl, by first | (simpa using HND.out) | (simpa using HN9.out)⟩⟩
              case measure => simp [intOf]; omega
          · have HCC := Lib.hid (show C (decide (0 < zp)) (decide (0 < zq)) = false by rw [HC.out]; simp [hp, hq])
            have HCA := Lib.hid (fun W => minus1_any false false W)
            simp only [Bool.not_true, Bool.not_false, Bool.and_true, Bool.and_false, Bool.true_and, Bool.false_and, Bool.or_true, Bool.or_false, Bool.true_or, Bool.false_or, bne_self_eq_false, Bool.true_bne, Bool.false_bne] at HCA
            have HSC := Lib.hid (sc_off (z := ⟨zl, xx, zp, zq⟩) (C := C) HRE.out (by rw [HCC.out]; simp))
            have y0 := HS.out.blk.cell 0
            have y1 := HS.out.blk.cell 1
            have yf := HS.out.blk.frozen 0
            have yg := HS.out.blk.frozen 1
            simp only [List.getElem?_toArray, List.getElem?_cons_zero, List.getElem?_cons_succ] at y0 y1
            rcases hk with rfl | rfl
            · go_wp2_with (first | (go_at_call 28; refine (HCA.out _).mono ?_; rintro e w9 ⟨rfl, hw9⟩; subst hw9))
              go_region
              go_wp2_with fail
              have HN9 := Lib.hid (HS.out.set0 (zp + x4))
              have HND := Lib.hid (HS.out.set0d (zp + x4))
              go_roundw
              case rel => exact ⟨j + 1, _, x0, by omega, rfl, rfl, by go_num, by rw [HSN.out, HSC.out]; exact Lib.hid ⟨rfl, by first | (simpa using HND.out) | (simpa using HN9.out)⟩⟩
              case measure => simp [intOf]; omega
            · go_wp2_with (first | (go_at_call 28; refine (HCA.out _).mono ?_; rintro e w9 ⟨rfl, hw9⟩; subst hw9))
              go_region
              go_wp2_with fail
              have HN9 := Lib.hid (HS.out.set1 (zq + x4))
              have HND := Lib.hid (HS.out.set1d (zq + x4))
              go_roundw
              case rel => exact ⟨j + 1, _, x0, by omega, rfl, rfl, by go_num, by rw [HSN.out, HSC.out]; exact Lib.hid ⟨rfl, by first | (simpa using HND.out) | (simpa using HN9.out)⟩⟩
              case measure => simp [intOf]; omega
        · have HSC := Lib.hid (sc_off (z := ⟨zl, xx, zp, zq⟩) (C := C) HRE.out (fun h9 => hxx h9.1))
          have y0 := HS.out.blk.cell 0
          have y1 := HS.out.blk.cell 1
          have yf := HS.out.blk.frozen 0
          have yg := HS.out.blk.frozen 1
          simp only [List.getElem?_toArray, List.getElem?_cons_zero, List.getElem?_cons_succ] at y0 y1
          rcases hk with rfl | rfl
          · go_wp2_with fail
            go_region
            go_wp2_with fail
            have HN9 := Lib.hid (HS.out.set0 (zp + x4))
            have HND := Lib.hid (HS.out.set0d (zp + x4))
            go_roundw
            case rel => exact ⟨j + 1, _, x0, by omega, rfl, rfl, by go_num, by rw [HSN.out, HSC.out]; exact Lib.hid ⟨rfl, by first | (simpa using HND.out) | (simpa using HN9.out)⟩⟩
            case measure => simp [intOf]; omega
          · go_wp2_with fail
            go_region
            go_wp2_with fail
            have HN9 := Lib.hid (HS.out.set1 (zq + x4))
            have HND := Lib.hid (HS.out.set1d (zq + x4))
            go_roundw
            case rel => exact ⟨j + 1, _, x0, by omega, rfl, rfl, by go_num, by rw [HSN.out, HSC.out]; exact Lib.hid ⟨rfl, by first | (simpa using HND.out) | (simpa using HN9.out)⟩⟩
            case measure => simp [intOf]; omega
      · have HRE := Lib.hid (show relE ⟨x0, x1, x2, x3, x4⟩ row = false by unfold relE; exact decide_eq_false hrel)
        have HSC := Lib.hid (sc_skip (C := C) (z := ⟨zl, xx, zp, zq⟩) HRE.out)
        have HSK := Lib.hid (show Hid (xx = (scan C row (E.take (j + 1)) ⟨[], 0, 0, 0⟩).x ∧ RnSt w b v0 (scan C row (E.take (j + 1)) ⟨[], 0, 0, 0⟩).l (scan C row (E.take (j + 1)) ⟨[], 0, 0, 0⟩).p (scan C row (E.take (j + 1)) ⟨[], 0, 0, 0⟩).q (wr.alloc (.cells #[.int .i64 x0, .int .i64 x1, .int .i64 x2, .int .i64 x3, .int .i64 x4] 80))) by rw [HSN.out, HSC.out]; exact Lib.hid ⟨rfl, HS.out⟩)
        by_cases r1 : row < x1
        · go_wp2_with fail
          go_roundw
          case rel => exact ⟨j + 1, _, xx, by omega, rfl, rfl, by go_num, HSK.out⟩
          case measure => simp [intOf]; omega
        · have r2 : x2 < row := by omega
          clear hrel
          go_wp2_with fail
          go_roundw
          case rel => exact ⟨j + 1, _, xx, by omega, rfl, rfl, by go_num, HSK.out⟩
          case measure => simp [intOf]; omega
    · obtain rfl : j = n := by omega
      have HZ := Lib.hid (show RunsP w C row E (.returned v0) wr from ⟨v0, rfl, by
        have h9 := HS0.out.2.fe
        rw [List.take_of_length_le (by rw [← HN.out]; omega)] at h9
        exact h9⟩)
      go_wp2
      go_ret
      exact HZ.out
end Go.Proofs.Ytimfcgnnfgoaaaa
