/- rules: the document's Right of a rule, by contract. -/
import Derived.Test.YtmgamlpjgghieaaGreatDoorZbRu6
import Derived.Test.YtmgamlpjgghieaaGreatDoorZbGeomRef
namespace Go.Proofs.YtmgamlpjgghieaaGreatDoor
set_option linter.unusedVariables false
set_option linter.unusedSimpArgs false
open Go.RowKit
theorem rset_any (n : Int) (w : World) : Calls Tryz.prog 55 #[.int .i64 n] w fun e w' => e = .returned (.bool (withinB n 255)) ∧ w = w' := by
  unfold withinB
  by_cases h : 0 ≤ n
  · go_enter Tryz.func55, Tryz.ntmps55
    go_wp2_with fail
    go_ret
    exact ⟨by simp [h], rfl⟩
  · go_enter Tryz.func55, Tryz.ntmps55
    go_wp2_with fail
    go_ret
    exact ⟨by simp; omega, rfl⟩
set_option maxRecDepth 100000 in
set_option maxHeartbeats 8000000 in
theorem rrur_any (w : World) (r : Rc) (bv : Value) (h : ERd elR w bv r.bx) :
    Calls Tryz.prog 34 #[ruV r bv] w fun e w' => e = .returned (.bool (rurB r)) ∧ Below w.heap.size w w' := by
  obtain ⟨A1, c1, rfl, hl1, hl2, -⟩ := id h
  obtain ⟨k, roles, lo, hi, labels, L, zoom⟩ := r
  simp only at h hl1 hl2
  have hl : L.length ≤ 9223372036854775807 := by unfold maxLen at hl2; omega
  have HL := Lib.hid hl
  have H1 := Lib.hid h
  have HB0 := Lib.hid (show Below w.heap.size w (w.alloc (.cells #[.int .i64 k, .int .i64 roles, .int .i64 lo, .int .i64 hi, .int .i64 labels, .slice A1 L.length c1, .int .i64 zoom] 59)) from (Below.refl _ _).alloc (Nat.le_refl _) _)
  have HK0 := Lib.hid (Blk.new w 59 #[.int .i64 k, .int .i64 roles, .int .i64 lo, .int .i64 hi, .int .i64 labels, .slice A1 L.length c1, .int .i64 zoom])
  have HRO := Lib.hid (fun W => rset_any roles W)
  have HLA := Lib.hid (fun W => rset_any labels W)
  clear h hl1 hl2 hl
  simp only [ruV]
  go_enter Tryz.func34, Tryz.ntmps34
  go_upto_region 2 with fail
  generalize (w.alloc (.cells #[.int .i64 k, .int .i64 roles, .int .i64 lo, .int .i64 hi, .int .i64 labels, .slice A1 L.length c1, .int .i64 zoom] 59)) = W0 at *
  go_loopw [3] (fun i wr => ∃ j : Nat, j ≤ L.length ∧ i = .int .i64 j ∧ Hid (Below w.heap.size w wr ∧ Blk wr w.heap.size 59 #[.int .i64 k, .int .i64 roles, .int .i64 lo, .int .i64 hi, .int .i64 labels, .slice A1 L.length c1, .int .i64 zoom] ∧ (L.take j).all bxR = true)) (fun i _ => L.length - (intOf i).toNat)
  case atStart => exact ⟨0, by omega, rfl, Lib.hid ⟨HB0.out, HK0.out, by simp⟩⟩
  case round =>
    rename_i wr
    clear HB0 HK0
    obtain ⟨j, hj, rfl, HS⟩ := hrel
    by_cases hlt : j < L.length
    · have hki : (j : Int) < (L.length : Int) := by omega
      have hkb : (j : Int) < 9223372036854775807 := by have := HL.out; omega
      have hx : L[j]? = some L[j] := List.getElem?_eq_getElem hlt
      obtain ⟨g1, o1, rfl, hc1⟩ := (H1.out.below HS.out.1).cell hx
      have HTK := Lib.hid (show L.take (j + 1) = L.take j ++ [L[j]] from (List.take_append_getElem hlt).symm)
      have HAL := Lib.hid (show bxR L[j] = false → L.all bxR = false from fun hf => by
        rw [List.all_eq_false]
        exact ⟨L[j], List.getElem_mem hlt, by simp [hf]⟩)
      have HNE := Lib.hid (show L ≠ [] by rintro rfl; simp at hlt)
      generalize L[j] = x at *
      have a0 : wr.cell? ⟨g1, o1 + j * 4, none⟩ = some (.int .i64 x.x0) := hc1 0 _ rfl
      have a1 : wr.cell? ⟨g1, o1 + j * 4 + 1, none⟩ = some (.int .i64 x.y0) := hc1 1 _ rfl
      have a2 : wr.cell? ⟨g1, o1 + j * 4 + 2, none⟩ = some (.int .i64 x.x1) := hc1 2 _ rfl
      have a3 : wr.cell? ⟨g1, o1 + j * 4 + 3, none⟩ = some (.int .i64 x.y1) := hc1 3 _ rfl
      have x5 := HS.out.2.1.cell 5
      simp only [List.getElem?_toArray, List.getElem?_cons_zero, List.getElem?_cons_succ] at x5
      have HG := Lib.hid (fun W => ref_right x.x0 x.y0 x.x1 x.y1 W)
      rw [show rightB x.x0 x.y0 x.x1 x.y1 = bxR x from rfl] at HG
      clear hc1 hx
      go_wp2_with fail
      refine (HG.out _).mono ?_
      rintro e w1 ⟨rfl, hb⟩
      have HB1 := Lib.hid (HS.out.1.trans (hb.mono HS.out.1.size))
      have HK1 := Lib.hid (Blk.thru0 HS.out.2.1 hb)
      clear hb a0 a1 a2 a3 x5 HG
      cases hR : bxR x with
      | false =>
        have HF := Lib.hid (HAL.out hR)
        have HE := Lib.hid (show rurB ⟨k, roles, lo, hi, labels, L, zoom⟩ = false by
          have h1 := HF.out
          have h2 := HNE.out
          unfold rurB
          simp only [h1, h2]
          simp)
        go_wp2_with fail
        go_ret
        exact ⟨by rw [HE.out]; rfl, HB1.out⟩
      | true =>
        have HN := Lib.hid (show Below w.heap.size w w1 ∧ Blk w1 w.heap.size 59 _ ∧ (L.take (j + 1)).all bxR = true from ⟨HB1.out, HK1.out, by rw [HTK.out, List.all_append, HS.out.2.2]; simp [hR]⟩)
        clear hR
        go_wp2_with fail
        go_roundw
        case rel => exact ⟨j + 1, by omega, by go_num, HN⟩
        case measure => simp [intOf]; omega
    · obtain rfl : j = L.length := by omega
      have HAL := Lib.hid (show L.all bxR = true by have := HS.out.2.2; rwa [List.take_length] at this)
      have HB := Lib.hid HS.out.1
      have x0 := HS.out.2.1.cell 0
      have x1 := HS.out.2.1.cell 1
      have x2 := HS.out.2.1.cell 2
      have x3 := HS.out.2.1.cell 3
      have x4 := HS.out.2.1.cell 4
      have x5 := HS.out.2.1.cell 5
      have x6 := HS.out.2.1.cell 6
      simp only [List.getElem?_toArray, List.getElem?_cons_zero, List.getElem?_cons_succ] at x0 x1 x2 x3 x4 x5 x6
      clear HS hj
      by_cases h6 : k = 6
      · subst h6
        cases hro : withinB roles 255 with
        | false =>
          rw [hro] at HRO
          have HE := Lib.hid (show rurB ⟨6, roles, lo, hi, labels, L, zoom⟩ = false from by
            have hal := HAL.out
            have e1 : withinB lo hi = (decide (0 ≤ lo) && decide (lo ≤ hi)) := rfl
            have e2 : withinB zoom 16 = (decide (0 ≤ zoom) && decide (zoom ≤ 16)) := rfl
            simp [rurB, e1, e2, *])
          clear hro
          go_wp2_with fail
          refine (HRO.out _).mono ?_
          rintro e w5 ⟨rfl, hw5⟩
          subst hw5
          go_wp2_with fail
          go_ret
          exact ⟨by rw [HE.out]; first | rfl | (simp; omega), HB.out⟩
        | true =>
          rw [hro] at HRO
          by_cases n0 : lo = 0
          · have m0 : (lo == 0) = true := by simp [n0]
            by_cases n1 : hi = 0
            · have m1 : (hi == 0) = true := by simp [n1]
              by_cases n2 : labels = 0
              · have m2 : (labels == 0) = true := by simp [n2]
                by_cases n3 : L = []
                · have m3 : ((L.length : Int) == 0) = true := by rw [n3]; rfl
                  by_cases n4 : zoom = 0
                  · have m4 : (zoom == 0) = true := by simp [n4]
                    have HE := Lib.hid (show rurB ⟨6, roles, lo, hi, labels, L, zoom⟩ = true from by
                      have hal := HAL.out
                      have e1 : withinB lo hi = (decide (0 ≤ lo) && decide (lo ≤ hi)) := rfl
                      have e2 : withinB zoom 16 = (decide (0 ≤ zoom) && decide (zoom ≤ 16)) := rfl
                      simp [rurB, e1, e2, *])
                    clear hro n0 n1 n2 n3 n4
                    go_wp2_with fail
                    refine (HRO.out _).mono ?_
                    rintro e w5 ⟨rfl, hw5⟩
                    subst hw5
                    go_wp2_with fail
                    go_ret
                    exact ⟨by rw [HE.out]; first | rfl | (simp; omega), HB.out⟩
                  · have m4 : (zoom == 0) = false := beq_eq_false_iff_ne.2 n4
                    have HE := Lib.hid (show rurB ⟨6, roles, lo, hi, labels, L, zoom⟩ = false from by
                      have hal := HAL.out
                      have e1 : withinB lo hi = (decide (0 ≤ lo) && decide (lo ≤ hi)) := rfl
                      have e2 : withinB zoom 16 = (decide (0 ≤ zoom) && decide (zoom ≤ 16)) := rfl
                      simp [rurB, e1, e2, *])
                    clear hro n0 n1 n2 n3 n4
                    go_wp2_with fail
                    refine (HRO.out _).mono ?_
                    rintro e w5 ⟨rfl, hw5⟩
                    subst hw5
                    go_wp2_with fail
                    go_ret
                    exact ⟨by rw [HE.out]; first | rfl | (simp; omega), HB.out⟩
                · have m3 : ((L.length : Int) == 0) = false := by
                    have := List.length_pos_iff.2 n3
                    exact beq_eq_false_iff_ne.2 (by omega)
                  have HE := Lib.hid (show rurB ⟨6, roles, lo, hi, labels, L, zoom⟩ = false from by
                    have hal := HAL.out
                    have e1 : withinB lo hi = (decide (0 ≤ lo) && decide (lo ≤ hi)) := rfl
                    have e2 : withinB zoom 16 = (decide (0 ≤ zoom) && decide (zoom ≤ 16)) := rfl
                    simp [rurB, e1, e2, *])
                  clear hro n0 n1 n2 n3
                  go_wp2_with fail
                  refine (HRO.out _).mono ?_
                  rintro e w5 ⟨rfl, hw5⟩
                  subst hw5
                  go_wp2_with fail
                  go_ret
                  exact ⟨by rw [HE.out]; first | rfl | (simp; omega), HB.out⟩
              · have m2 : (labels == 0) = false := beq_eq_false_iff_ne.2 n2
                have HE := Lib.hid (show rurB ⟨6, roles, lo, hi, labels, L, zoom⟩ = false from by
                  have hal := HAL.out
                  have e1 : withinB lo hi = (decide (0 ≤ lo) && decide (lo ≤ hi)) := rfl
                  have e2 : withinB zoom 16 = (decide (0 ≤ zoom) && decide (zoom ≤ 16)) := rfl
                  simp [rurB, e1, e2, *])
                clear hro n0 n1 n2
                go_wp2_with fail
                refine (HRO.out _).mono ?_
                rintro e w5 ⟨rfl, hw5⟩
                subst hw5
                go_wp2_with fail
                go_ret
                exact ⟨by rw [HE.out]; first | rfl | (simp; omega), HB.out⟩
            · have m1 : (hi == 0) = false := beq_eq_false_iff_ne.2 n1
              have HE := Lib.hid (show rurB ⟨6, roles, lo, hi, labels, L, zoom⟩ = false from by
                have hal := HAL.out
                have e1 : withinB lo hi = (decide (0 ≤ lo) && decide (lo ≤ hi)) := rfl
                have e2 : withinB zoom 16 = (decide (0 ≤ zoom) && decide (zoom ≤ 16)) := rfl
                simp [rurB, e1, e2, *])
              clear hro n0 n1
              go_wp2_with fail
              refine (HRO.out _).mono ?_
              rintro e w5 ⟨rfl, hw5⟩
              subst hw5
              go_wp2_with fail
              go_ret
              exact ⟨by rw [HE.out]; first | rfl | (simp; omega), HB.out⟩
          · have m0 : (lo == 0) = false := beq_eq_false_iff_ne.2 n0
            have HE := Lib.hid (show rurB ⟨6, roles, lo, hi, labels, L, zoom⟩ = false from by
              have hal := HAL.out
              have e1 : withinB lo hi = (decide (0 ≤ lo) && decide (lo ≤ hi)) := rfl
              have e2 : withinB zoom 16 = (decide (0 ≤ zoom) && decide (zoom ≤ 16)) := rfl
              simp [rurB, e1, e2, *])
            clear hro n0
            go_wp2_with fail
            refine (HRO.out _).mono ?_
            rintro e w5 ⟨rfl, hw5⟩
            subst hw5
            go_wp2_with fail
            go_ret
            exact ⟨by rw [HE.out]; first | rfl | (simp; omega), HB.out⟩
      · have h6b : (k == 6) = false := beq_eq_false_iff_ne.2 h6
        by_cases h4 : k = 4
        · subst h4
          clear h6 h6b
          cases hro : withinB roles 255 with
          | false =>
            rw [hro] at HRO
            have HE := Lib.hid (show rurB ⟨4, roles, lo, hi, labels, L, zoom⟩ = false from by
              have hal := HAL.out
              have e1 : withinB lo hi = (decide (0 ≤ lo) && decide (lo ≤ hi)) := rfl
              have e2 : withinB zoom 16 = (decide (0 ≤ zoom) && decide (zoom ≤ 16)) := rfl
              simp [rurB, e1, e2, *])
            clear hro
            go_wp2_with fail
            refine (HRO.out _).mono ?_
            rintro e w5 ⟨rfl, hw5⟩
            subst hw5
            go_wp2_with fail
            go_ret
            exact ⟨by rw [HE.out]; first | rfl | (simp; omega), HB.out⟩
          | true =>
            rw [hro] at HRO
            cases hla : withinB labels 255 with
            | false =>
              rw [hla] at HLA
              have HE := Lib.hid (show rurB ⟨4, roles, lo, hi, labels, L, zoom⟩ = false from by
                have hal := HAL.out
                have e1 : withinB lo hi = (decide (0 ≤ lo) && decide (lo ≤ hi)) := rfl
                have e2 : withinB zoom 16 = (decide (0 ≤ zoom) && decide (zoom ≤ 16)) := rfl
                simp [rurB, e1, e2, *])
              clear hro hla
              go_wp2_with fail
              refine (HRO.out _).mono ?_
              rintro e w5 ⟨rfl, hw5⟩
              subst hw5
              go_wp2_with fail
              refine (HLA.out _).mono ?_
              rintro e w5 ⟨rfl, hw5⟩
              subst hw5
              go_wp2_with fail
              go_ret
              exact ⟨by rw [HE.out]; first | rfl | (simp; omega), HB.out⟩
            | true =>
              rw [hla] at HLA
              by_cases n0 : 0 ≤ lo
              · skip
                by_cases n1 : lo ≤ hi
                · skip
                  by_cases n2 : hi ≤ 7
                  · skip
                    by_cases n3 : 0 ≤ zoom
                    · skip
                      by_cases n4 : zoom ≤ 16
                      · skip
                        have HE := Lib.hid (show rurB ⟨4, roles, lo, hi, labels, L, zoom⟩ = true from by
                          have hal := HAL.out
                          have e1 : withinB lo hi = (decide (0 ≤ lo) && decide (lo ≤ hi)) := rfl
                          have e2 : withinB zoom 16 = (decide (0 ≤ zoom) && decide (zoom ≤ 16)) := rfl
                          simp [rurB, e1, e2, *])
                        clear hro hla
                        go_wp2_with fail
                        refine (HRO.out _).mono ?_
                        rintro e w5 ⟨rfl, hw5⟩
                        subst hw5
                        go_wp2_with fail
                        refine (HLA.out _).mono ?_
                        rintro e w5 ⟨rfl, hw5⟩
                        subst hw5
                        go_wp2_with fail
                        go_ret
                        exact ⟨by rw [HE.out]; first | rfl | (simp; omega), HB.out⟩
                      · skip
                        have HE := Lib.hid (show rurB ⟨4, roles, lo, hi, labels, L, zoom⟩ = false from by
                          have hal := HAL.out
                          have e1 : withinB lo hi = (decide (0 ≤ lo) && decide (lo ≤ hi)) := rfl
                          have e2 : withinB zoom 16 = (decide (0 ≤ zoom) && decide (zoom ≤ 16)) := rfl
                          simp [rurB, e1, e2, *])
                        clear hro hla
                        go_wp2_with fail
                        refine (HRO.out _).mono ?_
                        rintro e w5 ⟨rfl, hw5⟩
                        subst hw5
                        go_wp2_with fail
                        refine (HLA.out _).mono ?_
                        rintro e w5 ⟨rfl, hw5⟩
                        subst hw5
                        go_wp2_with fail
                        go_ret
                        exact ⟨by rw [HE.out]; first | rfl | (simp; omega), HB.out⟩
                    · skip
                      have HE := Lib.hid (show rurB ⟨4, roles, lo, hi, labels, L, zoom⟩ = false from by
                        have hal := HAL.out
                        have e1 : withinB lo hi = (decide (0 ≤ lo) && decide (lo ≤ hi)) := rfl
                        have e2 : withinB zoom 16 = (decide (0 ≤ zoom) && decide (zoom ≤ 16)) := rfl
                        simp [rurB, e1, e2, *])
                      clear hro hla
                      go_wp2_with fail
                      refine (HRO.out _).mono ?_
                      rintro e w5 ⟨rfl, hw5⟩
                      subst hw5
                      go_wp2_with fail
                      refine (HLA.out _).mono ?_
                      rintro e w5 ⟨rfl, hw5⟩
                      subst hw5
                      go_wp2_with fail
                      go_ret
                      exact ⟨by rw [HE.out]; first | rfl | (simp; omega), HB.out⟩
                  · skip
                    have HE := Lib.hid (show rurB ⟨4, roles, lo, hi, labels, L, zoom⟩ = false from by
                      have hal := HAL.out
                      have e1 : withinB lo hi = (decide (0 ≤ lo) && decide (lo ≤ hi)) := rfl
                      have e2 : withinB zoom 16 = (decide (0 ≤ zoom) && decide (zoom ≤ 16)) := rfl
                      simp [rurB, e1, e2, *])
                    clear hro hla
                    go_wp2_with fail
                    refine (HRO.out _).mono ?_
                    rintro e w5 ⟨rfl, hw5⟩
                    subst hw5
                    go_wp2_with fail
                    refine (HLA.out _).mono ?_
                    rintro e w5 ⟨rfl, hw5⟩
                    subst hw5
                    go_wp2_with fail
                    go_ret
                    exact ⟨by rw [HE.out]; first | rfl | (simp; omega), HB.out⟩
                · skip
                  have HE := Lib.hid (show rurB ⟨4, roles, lo, hi, labels, L, zoom⟩ = false from by
                    have hal := HAL.out
                    have e1 : withinB lo hi = (decide (0 ≤ lo) && decide (lo ≤ hi)) := rfl
                    have e2 : withinB zoom 16 = (decide (0 ≤ zoom) && decide (zoom ≤ 16)) := rfl
                    simp [rurB, e1, e2, *])
                  clear hro hla
                  go_wp2_with fail
                  refine (HRO.out _).mono ?_
                  rintro e w5 ⟨rfl, hw5⟩
                  subst hw5
                  go_wp2_with fail
                  refine (HLA.out _).mono ?_
                  rintro e w5 ⟨rfl, hw5⟩
                  subst hw5
                  go_wp2_with fail
                  go_ret
                  exact ⟨by rw [HE.out]; first | rfl | (simp; omega), HB.out⟩
              · skip
                have HE := Lib.hid (show rurB ⟨4, roles, lo, hi, labels, L, zoom⟩ = false from by
                  have hal := HAL.out
                  have e1 : withinB lo hi = (decide (0 ≤ lo) && decide (lo ≤ hi)) := rfl
                  have e2 : withinB zoom 16 = (decide (0 ≤ zoom) && decide (zoom ≤ 16)) := rfl
                  simp [rurB, e1, e2, *])
                clear hro hla
                go_wp2_with fail
                refine (HRO.out _).mono ?_
                rintro e w5 ⟨rfl, hw5⟩
                subst hw5
                go_wp2_with fail
                refine (HLA.out _).mono ?_
                rintro e w5 ⟨rfl, hw5⟩
                subst hw5
                go_wp2_with fail
                go_ret
                exact ⟨by rw [HE.out]; first | rfl | (simp; omega), HB.out⟩
        · by_cases h5 : k = 5
          · subst h5
            clear h6 h6b h4
            cases hro : withinB roles 255 with
            | false =>
              rw [hro] at HRO
              have HE := Lib.hid (show rurB ⟨5, roles, lo, hi, labels, L, zoom⟩ = false from by
                have hal := HAL.out
                have e1 : withinB lo hi = (decide (0 ≤ lo) && decide (lo ≤ hi)) := rfl
                have e2 : withinB zoom 16 = (decide (0 ≤ zoom) && decide (zoom ≤ 16)) := rfl
                simp [rurB, e1, e2, *])
              clear hro
              go_wp2_with fail
              refine (HRO.out _).mono ?_
              rintro e w5 ⟨rfl, hw5⟩
              subst hw5
              go_wp2_with fail
              go_ret
              exact ⟨by rw [HE.out]; first | rfl | (simp; omega), HB.out⟩
            | true =>
              rw [hro] at HRO
              cases hla : withinB labels 255 with
              | false =>
                rw [hla] at HLA
                have HE := Lib.hid (show rurB ⟨5, roles, lo, hi, labels, L, zoom⟩ = false from by
                  have hal := HAL.out
                  have e1 : withinB lo hi = (decide (0 ≤ lo) && decide (lo ≤ hi)) := rfl
                  have e2 : withinB zoom 16 = (decide (0 ≤ zoom) && decide (zoom ≤ 16)) := rfl
                  simp [rurB, e1, e2, *])
                clear hro hla
                go_wp2_with fail
                refine (HRO.out _).mono ?_
                rintro e w5 ⟨rfl, hw5⟩
                subst hw5
                go_wp2_with fail
                refine (HLA.out _).mono ?_
                rintro e w5 ⟨rfl, hw5⟩
                subst hw5
                go_wp2_with fail
                go_ret
                exact ⟨by rw [HE.out]; first | rfl | (simp; omega), HB.out⟩
              | true =>
                rw [hla] at HLA
                by_cases n0 : 0 ≤ lo
                · skip
                  by_cases n1 : lo ≤ hi
                  · skip
                    by_cases n2 : hi ≤ 7
                    · skip
                      by_cases n3 : 0 ≤ zoom
                      · skip
                        by_cases n4 : zoom ≤ 16
                        · skip
                          have HE := Lib.hid (show rurB ⟨5, roles, lo, hi, labels, L, zoom⟩ = true from by
                            have hal := HAL.out
                            have e1 : withinB lo hi = (decide (0 ≤ lo) && decide (lo ≤ hi)) := rfl
                            have e2 : withinB zoom 16 = (decide (0 ≤ zoom) && decide (zoom ≤ 16)) := rfl
                            simp [rurB, e1, e2, *])
                          clear hro hla
                          go_wp2_with fail
                          refine (HRO.out _).mono ?_
                          rintro e w5 ⟨rfl, hw5⟩
                          subst hw5
                          go_wp2_with fail
                          refine (HLA.out _).mono ?_
                          rintro e w5 ⟨rfl, hw5⟩
                          subst hw5
                          go_wp2_with fail
                          go_ret
                          exact ⟨by rw [HE.out]; first | rfl | (simp; omega), HB.out⟩
                        · skip
                          have HE := Lib.hid (show rurB ⟨5, roles, lo, hi, labels, L, zoom⟩ = false from by
                            have hal := HAL.out
                            have e1 : withinB lo hi = (decide (0 ≤ lo) && decide (lo ≤ hi)) := rfl
                            have e2 : withinB zoom 16 = (decide (0 ≤ zoom) && decide (zoom ≤ 16)) := rfl
                            simp [rurB, e1, e2, *])
                          clear hro hla
                          go_wp2_with fail
                          refine (HRO.out _).mono ?_
                          rintro e w5 ⟨rfl, hw5⟩
                          subst hw5
                          go_wp2_with fail
                          refine (HLA.out _).mono ?_
                          rintro e w5 ⟨rfl, hw5⟩
                          subst hw5
                          go_wp2_with fail
                          go_ret
                          exact ⟨by rw [HE.out]; first | rfl | (simp; omega), HB.out⟩
                      · skip
                        have HE := Lib.hid (show rurB ⟨5, roles, lo, hi, labels, L, zoom⟩ = false from by
                          have hal := HAL.out
                          have e1 : withinB lo hi = (decide (0 ≤ lo) && decide (lo ≤ hi)) := rfl
                          have e2 : withinB zoom 16 = (decide (0 ≤ zoom) && decide (zoom ≤ 16)) := rfl
                          simp [rurB, e1, e2, *])
                        clear hro hla
                        go_wp2_with fail
                        refine (HRO.out _).mono ?_
                        rintro e w5 ⟨rfl, hw5⟩
                        subst hw5
                        go_wp2_with fail
                        refine (HLA.out _).mono ?_
                        rintro e w5 ⟨rfl, hw5⟩
                        subst hw5
                        go_wp2_with fail
                        go_ret
                        exact ⟨by rw [HE.out]; first | rfl | (simp; omega), HB.out⟩
                    · skip
                      have HE := Lib.hid (show rurB ⟨5, roles, lo, hi, labels, L, zoom⟩ = false from by
                        have hal := HAL.out
                        have e1 : withinB lo hi = (decide (0 ≤ lo) && decide (lo ≤ hi)) := rfl
                        have e2 : withinB zoom 16 = (decide (0 ≤ zoom) && decide (zoom ≤ 16)) := rfl
                        simp [rurB, e1, e2, *])
                      clear hro hla
                      go_wp2_with fail
                      refine (HRO.out _).mono ?_
                      rintro e w5 ⟨rfl, hw5⟩
                      subst hw5
                      go_wp2_with fail
                      refine (HLA.out _).mono ?_
                      rintro e w5 ⟨rfl, hw5⟩
                      subst hw5
                      go_wp2_with fail
                      go_ret
                      exact ⟨by rw [HE.out]; first | rfl | (simp; omega), HB.out⟩
                  · skip
                    have HE := Lib.hid (show rurB ⟨5, roles, lo, hi, labels, L, zoom⟩ = false from by
                      have hal := HAL.out
                      have e1 : withinB lo hi = (decide (0 ≤ lo) && decide (lo ≤ hi)) := rfl
                      have e2 : withinB zoom 16 = (decide (0 ≤ zoom) && decide (zoom ≤ 16)) := rfl
                      simp [rurB, e1, e2, *])
                    clear hro hla
                    go_wp2_with fail
                    refine (HRO.out _).mono ?_
                    rintro e w5 ⟨rfl, hw5⟩
                    subst hw5
                    go_wp2_with fail
                    refine (HLA.out _).mono ?_
                    rintro e w5 ⟨rfl, hw5⟩
                    subst hw5
                    go_wp2_with fail
                    go_ret
                    exact ⟨by rw [HE.out]; first | rfl | (simp; omega), HB.out⟩
                · skip
                  have HE := Lib.hid (show rurB ⟨5, roles, lo, hi, labels, L, zoom⟩ = false from by
                    have hal := HAL.out
                    have e1 : withinB lo hi = (decide (0 ≤ lo) && decide (lo ≤ hi)) := rfl
                    have e2 : withinB zoom 16 = (decide (0 ≤ zoom) && decide (zoom ≤ 16)) := rfl
                    simp [rurB, e1, e2, *])
                  clear hro hla
                  go_wp2_with fail
                  refine (HRO.out _).mono ?_
                  rintro e w5 ⟨rfl, hw5⟩
                  subst hw5
                  go_wp2_with fail
                  refine (HLA.out _).mono ?_
                  rintro e w5 ⟨rfl, hw5⟩
                  subst hw5
                  go_wp2_with fail
                  go_ret
                  exact ⟨by rw [HE.out]; first | rfl | (simp; omega), HB.out⟩
          · have h4b : (k == 4) = false := beq_eq_false_iff_ne.2 h4
            have h5b : (k == 5) = false := beq_eq_false_iff_ne.2 h5
            have HE := Lib.hid (show rurB ⟨k, roles, lo, hi, labels, L, zoom⟩ = false by unfold rurB; simp [h4, h5, h6])
            clear h4 h5 h6
            go_wp2_with fail
            go_ret
            exact ⟨by rw [HE.out]; rfl, HB.out⟩
end Go.Proofs.YtmgamlpjgghieaaGreatDoor
