/- rules: whether a rule may be, by contract. -/
import Derived.Test.YtmgamlpjgghieaaGreatDoorZbRu2
import Derived.StillTailTactics
namespace Go.Proofs.YtmgamlpjgghieaaGreatDoor
set_option linter.unusedVariables false
set_option linter.unusedSimpArgs false
open Go.RowKit
def rurB (r : Rc) : Bool := withinB r.roles 255 && (if r.k = 4 ∨ r.k = 5 then withinB r.lo r.hi && (decide (r.hi ≤ 7) && (withinB r.labels 255 && (r.bx.all bxR && withinB r.zoom 16)))
  else if r.k = 6 then decide (r.lo = 0) && (decide (r.hi = 0) && (decide (r.labels = 0) && (decide (r.bx = []) && decide (r.zoom = 0)))) else false)
set_option maxRecDepth 100000 in
set_option maxHeartbeats 8000000 in
theorem ruright_any (w : World) (r : Rc) (bv : Value) (h : ERd elR w bv r.bx) :
    Calls Tryz.prog 54 #[ruV r bv] w fun e w' => e = .returned (.bool (rurB r)) ∧ Below w.heap.size w w' := by
  obtain ⟨A1, c1, rfl, hl1, hl2, -⟩ := id h
  obtain ⟨k, roles, lo, hi, labels, L, zoom⟩ := r
  simp only at h hl1 hl2
  have HRD := Lib.hid h
  have HB := Lib.hid (show Below w.heap.size w (w.alloc (.cells #[.int .i64 k, .int .i64 roles, .int .i64 lo, .int .i64 hi, .int .i64 labels, .slice A1 L.length c1, .int .i64 zoom] 59)) from (Below.refl _ _).alloc (Nat.le_refl _) _)
  have HW := Lib.hid (fun W => within_any roles 255 W)
  have HLO := Lib.hid (fun W => within_any lo hi W)
  have HLA := Lib.hid (fun W => within_any labels 255 W)
  have HZO := Lib.hid (fun W => within_any zoom 16 W)
  clear h hl1 hl2
  simp only [ruV]
  cases hw : withinB roles 255 with
  | false =>
    rw [hw] at HW
    have HE := Lib.hid (show rurB ⟨k, roles, lo, hi, labels, L, zoom⟩ = false by simp [rurB, hw])
    rw [HE.out]
    go_enter Tryz.func54, Tryz.ntmps54
    go_upto_region 1 with fail
    have HK := Lib.hid (Blk.new w 59 #[.int .i64 k, .int .i64 roles, .int .i64 lo, .int .i64 hi, .int .i64 labels, .slice A1 L.length c1, .int .i64 zoom])
    generalize (w.alloc (.cells #[.int .i64 k, .int .i64 roles, .int .i64 lo, .int .i64 hi, .int .i64 labels, .slice A1 L.length c1, .int .i64 zoom] 59)) = W0 at *
    have x1 := HK.out.cell 1
    simp only [List.getElem?_toArray, List.getElem?_cons_zero, List.getElem?_cons_succ] at x1
    go_quiet ((first | (go_at_call 70; exact Calls.quiet_of_same ((all7_any _).mono fun _ _ h => ⟨h.1, h.2.symm⟩)) | (go_at_call 69; first | (with_reducible exact Calls.quiet_of_same ((HW.out _).mono fun _ _ h => ⟨h.1, h.2.symm⟩)) | (with_reducible exact Calls.quiet_of_same ((HLO.out _).mono fun _ _ h => ⟨h.1, h.2.symm⟩)) | (with_reducible exact Calls.quiet_of_same ((HLA.out _).mono fun _ _ h => ⟨h.1, h.2.symm⟩)) | (with_reducible exact Calls.quiet_of_same ((HZO.out _).mono fun _ _ h => ⟨h.1, h.2.symm⟩)))))
    have HB1 := Lib.hid (show Below w.heap.size w (W0.drewN nq) from ⟨HB.out.os, HB.out.tape, HB.out.output, HB.out.size, HB.out.block⟩)
    have HK1 := Lib.hid (HK.out.drewN nq)
    clear x1 HK HB
    generalize W0.drewN nq = W1 at *
    go_wp2_with fail
    go_ret
    exact ⟨rfl, HB1.out⟩
  | true =>
    rw [hw] at HW
    by_cases h4 : k = 4
    · subst h4
      cases hlo : withinB lo hi with
      | false =>
        rw [hlo] at HLO
        have HE := Lib.hid (show rurB ⟨4, roles, lo, hi, labels, L, zoom⟩ = false by simp [rurB, hlo])
        rw [HE.out]
        go_enter Tryz.func54, Tryz.ntmps54
        go_upto_region 1 with fail
        have HK := Lib.hid (Blk.new w 59 #[.int .i64 4, .int .i64 roles, .int .i64 lo, .int .i64 hi, .int .i64 labels, .slice A1 L.length c1, .int .i64 zoom])
        generalize (w.alloc (.cells #[.int .i64 4, .int .i64 roles, .int .i64 lo, .int .i64 hi, .int .i64 labels, .slice A1 L.length c1, .int .i64 zoom] 59)) = W0 at *
        have x1 := HK.out.cell 1
        simp only [List.getElem?_toArray, List.getElem?_cons_zero, List.getElem?_cons_succ] at x1
        go_quiet ((first | (go_at_call 70; exact Calls.quiet_of_same ((all7_any _).mono fun _ _ h => ⟨h.1, h.2.symm⟩)) | (go_at_call 69; first | (with_reducible exact Calls.quiet_of_same ((HW.out _).mono fun _ _ h => ⟨h.1, h.2.symm⟩)) | (with_reducible exact Calls.quiet_of_same ((HLO.out _).mono fun _ _ h => ⟨h.1, h.2.symm⟩)) | (with_reducible exact Calls.quiet_of_same ((HLA.out _).mono fun _ _ h => ⟨h.1, h.2.symm⟩)) | (with_reducible exact Calls.quiet_of_same ((HZO.out _).mono fun _ _ h => ⟨h.1, h.2.symm⟩)))))
        have HB1 := Lib.hid (show Below w.heap.size w (W0.drewN nq) from ⟨HB.out.os, HB.out.tape, HB.out.output, HB.out.size, HB.out.block⟩)
        have HK1 := Lib.hid (HK.out.drewN nq)
        clear x1 HK HB
        generalize W0.drewN nq = W1 at *
        have x0 := HK1.out.cell 0
        have x2 := HK1.out.cell 2
        have x3 := HK1.out.cell 3
        have x4 := HK1.out.cell 4
        have x5 := HK1.out.cell 5
        have x6 := HK1.out.cell 6
        simp only [List.getElem?_toArray, List.getElem?_cons_zero, List.getElem?_cons_succ] at x0 x2 x3 x4 x5 x6
        go_wp2_with fail
        go_quiet ((first | (go_at_call 70; exact Calls.quiet_of_same ((all7_any _).mono fun _ _ h => ⟨h.1, h.2.symm⟩)) | (go_at_call 69; first | (with_reducible exact Calls.quiet_of_same ((HW.out _).mono fun _ _ h => ⟨h.1, h.2.symm⟩)) | (with_reducible exact Calls.quiet_of_same ((HLO.out _).mono fun _ _ h => ⟨h.1, h.2.symm⟩)) | (with_reducible exact Calls.quiet_of_same ((HLA.out _).mono fun _ _ h => ⟨h.1, h.2.symm⟩)) | (with_reducible exact Calls.quiet_of_same ((HZO.out _).mono fun _ _ h => ⟨h.1, h.2.symm⟩)))))
        go_wp2_with fail
        go_ret
        exact ⟨rfl, HB1.out.os, HB1.out.tape, HB1.out.output, HB1.out.size, HB1.out.block⟩
      | true =>
        rw [hlo] at HLO
        by_cases hhi : hi ≤ 7
        · cases hla : withinB labels 255 with
          | false =>
            rw [hla] at HLA
            have HE := Lib.hid (show rurB ⟨4, roles, lo, hi, labels, L, zoom⟩ = false by simp [rurB, hla])
            rw [HE.out]
            go_enter Tryz.func54, Tryz.ntmps54
            go_upto_region 1 with fail
            have HK := Lib.hid (Blk.new w 59 #[.int .i64 4, .int .i64 roles, .int .i64 lo, .int .i64 hi, .int .i64 labels, .slice A1 L.length c1, .int .i64 zoom])
            generalize (w.alloc (.cells #[.int .i64 4, .int .i64 roles, .int .i64 lo, .int .i64 hi, .int .i64 labels, .slice A1 L.length c1, .int .i64 zoom] 59)) = W0 at *
            have x1 := HK.out.cell 1
            simp only [List.getElem?_toArray, List.getElem?_cons_zero, List.getElem?_cons_succ] at x1
            go_quiet ((first | (go_at_call 70; exact Calls.quiet_of_same ((all7_any _).mono fun _ _ h => ⟨h.1, h.2.symm⟩)) | (go_at_call 69; first | (with_reducible exact Calls.quiet_of_same ((HW.out _).mono fun _ _ h => ⟨h.1, h.2.symm⟩)) | (with_reducible exact Calls.quiet_of_same ((HLO.out _).mono fun _ _ h => ⟨h.1, h.2.symm⟩)) | (with_reducible exact Calls.quiet_of_same ((HLA.out _).mono fun _ _ h => ⟨h.1, h.2.symm⟩)) | (with_reducible exact Calls.quiet_of_same ((HZO.out _).mono fun _ _ h => ⟨h.1, h.2.symm⟩)))))
            have HB1 := Lib.hid (show Below w.heap.size w (W0.drewN nq) from ⟨HB.out.os, HB.out.tape, HB.out.output, HB.out.size, HB.out.block⟩)
            have HK1 := Lib.hid (HK.out.drewN nq)
            clear x1 HK HB
            generalize W0.drewN nq = W1 at *
            have x0 := HK1.out.cell 0
            have x2 := HK1.out.cell 2
            have x3 := HK1.out.cell 3
            have x4 := HK1.out.cell 4
            have x5 := HK1.out.cell 5
            have x6 := HK1.out.cell 6
            simp only [List.getElem?_toArray, List.getElem?_cons_zero, List.getElem?_cons_succ] at x0 x2 x3 x4 x5 x6
            go_wp2_with fail
            go_quiet ((first | (go_at_call 70; exact Calls.quiet_of_same ((all7_any _).mono fun _ _ h => ⟨h.1, h.2.symm⟩)) | (go_at_call 69; first | (with_reducible exact Calls.quiet_of_same ((HW.out _).mono fun _ _ h => ⟨h.1, h.2.symm⟩)) | (with_reducible exact Calls.quiet_of_same ((HLO.out _).mono fun _ _ h => ⟨h.1, h.2.symm⟩)) | (with_reducible exact Calls.quiet_of_same ((HLA.out _).mono fun _ _ h => ⟨h.1, h.2.symm⟩)) | (with_reducible exact Calls.quiet_of_same ((HZO.out _).mono fun _ _ h => ⟨h.1, h.2.symm⟩)))))
            go_wp2_with fail
            go_ret
            exact ⟨rfl, HB1.out.os, HB1.out.tape, HB1.out.output, HB1.out.size, HB1.out.block⟩
          | true =>
            rw [hla] at HLA
            have HE := Lib.hid (show rurB ⟨4, roles, lo, hi, labels, L, zoom⟩ = (L.all bxR && withinB zoom 16) by simp [rurB, hlo, hla, hhi, hw])
            rw [HE.out]
            go_enter Tryz.func54, Tryz.ntmps54
            go_upto_region 1 with fail
            have HK := Lib.hid (Blk.new w 59 #[.int .i64 4, .int .i64 roles, .int .i64 lo, .int .i64 hi, .int .i64 labels, .slice A1 L.length c1, .int .i64 zoom])
            generalize (w.alloc (.cells #[.int .i64 4, .int .i64 roles, .int .i64 lo, .int .i64 hi, .int .i64 labels, .slice A1 L.length c1, .int .i64 zoom] 59)) = W0 at *
            have x1 := HK.out.cell 1
            simp only [List.getElem?_toArray, List.getElem?_cons_zero, List.getElem?_cons_succ] at x1
            go_quiet ((first | (go_at_call 70; exact Calls.quiet_of_same ((all7_any _).mono fun _ _ h => ⟨h.1, h.2.symm⟩)) | (go_at_call 69; first | (with_reducible exact Calls.quiet_of_same ((HW.out _).mono fun _ _ h => ⟨h.1, h.2.symm⟩)) | (with_reducible exact Calls.quiet_of_same ((HLO.out _).mono fun _ _ h => ⟨h.1, h.2.symm⟩)) | (with_reducible exact Calls.quiet_of_same ((HLA.out _).mono fun _ _ h => ⟨h.1, h.2.symm⟩)) | (with_reducible exact Calls.quiet_of_same ((HZO.out _).mono fun _ _ h => ⟨h.1, h.2.symm⟩)))))
            have HB1 := Lib.hid (show Below w.heap.size w (W0.drewN nq) from ⟨HB.out.os, HB.out.tape, HB.out.output, HB.out.size, HB.out.block⟩)
            have HK1 := Lib.hid (HK.out.drewN nq)
            clear x1 HK HB
            generalize W0.drewN nq = W1 at *
            have x0 := HK1.out.cell 0
            have x2 := HK1.out.cell 2
            have x3 := HK1.out.cell 3
            have x4 := HK1.out.cell 4
            have x5 := HK1.out.cell 5
            have x6 := HK1.out.cell 6
            simp only [List.getElem?_toArray, List.getElem?_cons_zero, List.getElem?_cons_succ] at x0 x2 x3 x4 x5 x6
            go_wp2_with fail
            have HB2 := Lib.hid (show Below w.heap.size w W1.drew from ⟨HB1.out.os, HB1.out.tape, HB1.out.output, HB1.out.size, HB1.out.block⟩)
            have HAR := Lib.hid (allright_any W1.drew _ L (HRD.out.below HB2.out))
            obtain ⟨bb, hbb⟩ : ∃ bb, L.all bxR = bb := ⟨_, rfl⟩
            rw [hbb] at HAR
            have HBB := Lib.hid hbb
            clear hbb
            refine wp_region_still_tail 19 (by kernel_rfl) (by kernel_rfl) ?_
            simp only [List.take_succ_cons, List.take_zero, List.drop_succ_cons, List.drop_zero]
            iterate 4 still_step
            still_call ((HLO.out _).mono fun _ _ h => ⟨h.1, h.2.symm⟩)
            iterate 8 still_step
            still_call ((all7_any _).mono fun _ _ h => ⟨h.1, h.2.symm⟩)
            still_call ((HLA.out _).mono fun _ _ h => ⟨h.1, h.2.symm⟩)
            iterate 4 still_step
            try refine wpStill_nil ?_
            change wpList _ _ _ _ _ W1.drew
            clear x0 x2 x3 x4 x5 x6
            have HK2 := Lib.hid (show Blk W1.drew w.heap.size 59 #[.int .i64 4, .int .i64 roles, .int .i64 lo, .int .i64 hi, .int .i64 labels, .slice A1 L.length c1, .int .i64 zoom] from HK1.out)
            generalize W1.drew = W2 at *
            go_wp2_with fail
            refine HAR.out.mono ?_
            rintro e w5 ⟨rfl, hb5⟩
            have HB5 := Lib.hid (HB2.out.trans (hb5.mono HB2.out.size))
            have x6 := (Blk.thru0 HK2.out hb5).cell 6
            simp only [List.getElem?_toArray, List.getElem?_cons_zero, List.getElem?_cons_succ] at x6
            clear hb5
            cases bb with
            | false =>
              go_wp2_with fail
              go_ret
              exact ⟨by rw [HBB.out]; rfl, HB5.out⟩
            | true =>
              go_wp2_with fail
              refine (HZO.out _).mono ?_
              rintro e w6 ⟨rfl, hw6⟩
              subst hw6
              go_wp2_with fail
              go_ret
              exact ⟨by rw [HBB.out]; rfl, HB5.out⟩
        · have HE := Lib.hid (show rurB ⟨4, roles, lo, hi, labels, L, zoom⟩ = false by simp [rurB, hhi])
          rw [HE.out]
          have hhd : decide (hi ≤ 7) = false := by simp; omega
          clear hhi
          go_enter Tryz.func54, Tryz.ntmps54
          go_upto_region 1 with fail
          have HK := Lib.hid (Blk.new w 59 #[.int .i64 4, .int .i64 roles, .int .i64 lo, .int .i64 hi, .int .i64 labels, .slice A1 L.length c1, .int .i64 zoom])
          generalize (w.alloc (.cells #[.int .i64 4, .int .i64 roles, .int .i64 lo, .int .i64 hi, .int .i64 labels, .slice A1 L.length c1, .int .i64 zoom] 59)) = W0 at *
          have x1 := HK.out.cell 1
          simp only [List.getElem?_toArray, List.getElem?_cons_zero, List.getElem?_cons_succ] at x1
          go_quiet ((first | (go_at_call 70; exact Calls.quiet_of_same ((all7_any _).mono fun _ _ h => ⟨h.1, h.2.symm⟩)) | (go_at_call 69; first | (with_reducible exact Calls.quiet_of_same ((HW.out _).mono fun _ _ h => ⟨h.1, h.2.symm⟩)) | (with_reducible exact Calls.quiet_of_same ((HLO.out _).mono fun _ _ h => ⟨h.1, h.2.symm⟩)) | (with_reducible exact Calls.quiet_of_same ((HLA.out _).mono fun _ _ h => ⟨h.1, h.2.symm⟩)) | (with_reducible exact Calls.quiet_of_same ((HZO.out _).mono fun _ _ h => ⟨h.1, h.2.symm⟩)))))
          have HB1 := Lib.hid (show Below w.heap.size w (W0.drewN nq) from ⟨HB.out.os, HB.out.tape, HB.out.output, HB.out.size, HB.out.block⟩)
          have HK1 := Lib.hid (HK.out.drewN nq)
          clear x1 HK HB
          generalize W0.drewN nq = W1 at *
          have x0 := HK1.out.cell 0
          have x2 := HK1.out.cell 2
          have x3 := HK1.out.cell 3
          have x4 := HK1.out.cell 4
          have x5 := HK1.out.cell 5
          have x6 := HK1.out.cell 6
          simp only [List.getElem?_toArray, List.getElem?_cons_zero, List.getElem?_cons_succ] at x0 x2 x3 x4 x5 x6
          go_wp2_with fail
          go_quiet ((first | (go_at_call 70; exact Calls.quiet_of_same ((all7_any _).mono fun _ _ h => ⟨h.1, h.2.symm⟩)) | (go_at_call 69; first | (with_reducible exact Calls.quiet_of_same ((HW.out _).mono fun _ _ h => ⟨h.1, h.2.symm⟩)) | (with_reducible exact Calls.quiet_of_same ((HLO.out _).mono fun _ _ h => ⟨h.1, h.2.symm⟩)) | (with_reducible exact Calls.quiet_of_same ((HLA.out _).mono fun _ _ h => ⟨h.1, h.2.symm⟩)) | (with_reducible exact Calls.quiet_of_same ((HZO.out _).mono fun _ _ h => ⟨h.1, h.2.symm⟩)))))
          go_wp2_with fail
          go_ret
          exact ⟨rfl, HB1.out.os, HB1.out.tape, HB1.out.output, HB1.out.size, HB1.out.block⟩
    · by_cases h5 : k = 5
      · subst h5
        clear h4
        cases hlo : withinB lo hi with
        | false =>
          rw [hlo] at HLO
          have HE := Lib.hid (show rurB ⟨5, roles, lo, hi, labels, L, zoom⟩ = false by simp [rurB, hlo])
          rw [HE.out]
          go_enter Tryz.func54, Tryz.ntmps54
          go_upto_region 1 with fail
          have HK := Lib.hid (Blk.new w 59 #[.int .i64 5, .int .i64 roles, .int .i64 lo, .int .i64 hi, .int .i64 labels, .slice A1 L.length c1, .int .i64 zoom])
          generalize (w.alloc (.cells #[.int .i64 5, .int .i64 roles, .int .i64 lo, .int .i64 hi, .int .i64 labels, .slice A1 L.length c1, .int .i64 zoom] 59)) = W0 at *
          have x1 := HK.out.cell 1
          simp only [List.getElem?_toArray, List.getElem?_cons_zero, List.getElem?_cons_succ] at x1
          go_quiet ((first | (go_at_call 70; exact Calls.quiet_of_same ((all7_any _).mono fun _ _ h => ⟨h.1, h.2.symm⟩)) | (go_at_call 69; first | (with_reducible exact Calls.quiet_of_same ((HW.out _).mono fun _ _ h => ⟨h.1, h.2.symm⟩)) | (with_reducible exact Calls.quiet_of_same ((HLO.out _).mono fun _ _ h => ⟨h.1, h.2.symm⟩)) | (with_reducible exact Calls.quiet_of_same ((HLA.out _).mono fun _ _ h => ⟨h.1, h.2.symm⟩)) | (with_reducible exact Calls.quiet_of_same ((HZO.out _).mono fun _ _ h => ⟨h.1, h.2.symm⟩)))))
          have HB1 := Lib.hid (show Below w.heap.size w (W0.drewN nq) from ⟨HB.out.os, HB.out.tape, HB.out.output, HB.out.size, HB.out.block⟩)
          have HK1 := Lib.hid (HK.out.drewN nq)
          clear x1 HK HB
          generalize W0.drewN nq = W1 at *
          have x0 := HK1.out.cell 0
          have x2 := HK1.out.cell 2
          have x3 := HK1.out.cell 3
          have x4 := HK1.out.cell 4
          have x5 := HK1.out.cell 5
          have x6 := HK1.out.cell 6
          simp only [List.getElem?_toArray, List.getElem?_cons_zero, List.getElem?_cons_succ] at x0 x2 x3 x4 x5 x6
          go_wp2_with fail
          go_quiet ((first | (go_at_call 70; exact Calls.quiet_of_same ((all7_any _).mono fun _ _ h => ⟨h.1, h.2.symm⟩)) | (go_at_call 69; first | (with_reducible exact Calls.quiet_of_same ((HW.out _).mono fun _ _ h => ⟨h.1, h.2.symm⟩)) | (with_reducible exact Calls.quiet_of_same ((HLO.out _).mono fun _ _ h => ⟨h.1, h.2.symm⟩)) | (with_reducible exact Calls.quiet_of_same ((HLA.out _).mono fun _ _ h => ⟨h.1, h.2.symm⟩)) | (with_reducible exact Calls.quiet_of_same ((HZO.out _).mono fun _ _ h => ⟨h.1, h.2.symm⟩)))))
          go_wp2_with fail
          go_ret
          exact ⟨rfl, HB1.out.os, HB1.out.tape, HB1.out.output, HB1.out.size, HB1.out.block⟩
        | true =>
          rw [hlo] at HLO
          by_cases hhi : hi ≤ 7
          · cases hla : withinB labels 255 with
            | false =>
              rw [hla] at HLA
              have HE := Lib.hid (show rurB ⟨5, roles, lo, hi, labels, L, zoom⟩ = false by simp [rurB, hla])
              rw [HE.out]
              go_enter Tryz.func54, Tryz.ntmps54
              go_upto_region 1 with fail
              have HK := Lib.hid (Blk.new w 59 #[.int .i64 5, .int .i64 roles, .int .i64 lo, .int .i64 hi, .int .i64 labels, .slice A1 L.length c1, .int .i64 zoom])
              generalize (w.alloc (.cells #[.int .i64 5, .int .i64 roles, .int .i64 lo, .int .i64 hi, .int .i64 labels, .slice A1 L.length c1, .int .i64 zoom] 59)) = W0 at *
              have x1 := HK.out.cell 1
              simp only [List.getElem?_toArray, List.getElem?_cons_zero, List.getElem?_cons_succ] at x1
              go_quiet ((first | (go_at_call 70; exact Calls.quiet_of_same ((all7_any _).mono fun _ _ h => ⟨h.1, h.2.symm⟩)) | (go_at_call 69; first | (with_reducible exact Calls.quiet_of_same ((HW.out _).mono fun _ _ h => ⟨h.1, h.2.symm⟩)) | (with_reducible exact Calls.quiet_of_same ((HLO.out _).mono fun _ _ h => ⟨h.1, h.2.symm⟩)) | (with_reducible exact Calls.quiet_of_same ((HLA.out _).mono fun _ _ h => ⟨h.1, h.2.symm⟩)) | (with_reducible exact Calls.quiet_of_same ((HZO.out _).mono fun _ _ h => ⟨h.1, h.2.symm⟩)))))
              have HB1 := Lib.hid (show Below w.heap.size w (W0.drewN nq) from ⟨HB.out.os, HB.out.tape, HB.out.output, HB.out.size, HB.out.block⟩)
              have HK1 := Lib.hid (HK.out.drewN nq)
              clear x1 HK HB
              generalize W0.drewN nq = W1 at *
              have x0 := HK1.out.cell 0
              have x2 := HK1.out.cell 2
              have x3 := HK1.out.cell 3
              have x4 := HK1.out.cell 4
              have x5 := HK1.out.cell 5
              have x6 := HK1.out.cell 6
              simp only [List.getElem?_toArray, List.getElem?_cons_zero, List.getElem?_cons_succ] at x0 x2 x3 x4 x5 x6
              go_wp2_with fail
              go_quiet ((first | (go_at_call 70; exact Calls.quiet_of_same ((all7_any _).mono fun _ _ h => ⟨h.1, h.2.symm⟩)) | (go_at_call 69; first | (with_reducible exact Calls.quiet_of_same ((HW.out _).mono fun _ _ h => ⟨h.1, h.2.symm⟩)) | (with_reducible exact Calls.quiet_of_same ((HLO.out _).mono fun _ _ h => ⟨h.1, h.2.symm⟩)) | (with_reducible exact Calls.quiet_of_same ((HLA.out _).mono fun _ _ h => ⟨h.1, h.2.symm⟩)) | (with_reducible exact Calls.quiet_of_same ((HZO.out _).mono fun _ _ h => ⟨h.1, h.2.symm⟩)))))
              go_wp2_with fail
              go_ret
              exact ⟨rfl, HB1.out.os, HB1.out.tape, HB1.out.output, HB1.out.size, HB1.out.block⟩
            | true =>
              rw [hla] at HLA
              have HE := Lib.hid (show rurB ⟨5, roles, lo, hi, labels, L, zoom⟩ = (L.all bxR && withinB zoom 16) by simp [rurB, hlo, hla, hhi, hw])
              rw [HE.out]
              go_enter Tryz.func54, Tryz.ntmps54
              go_upto_region 1 with fail
              have HK := Lib.hid (Blk.new w 59 #[.int .i64 5, .int .i64 roles, .int .i64 lo, .int .i64 hi, .int .i64 labels, .slice A1 L.length c1, .int .i64 zoom])
              generalize (w.alloc (.cells #[.int .i64 5, .int .i64 roles, .int .i64 lo, .int .i64 hi, .int .i64 labels, .slice A1 L.length c1, .int .i64 zoom] 59)) = W0 at *
              have x1 := HK.out.cell 1
              simp only [List.getElem?_toArray, List.getElem?_cons_zero, List.getElem?_cons_succ] at x1
              go_quiet ((first | (go_at_call 70; exact Calls.quiet_of_same ((all7_any _).mono fun _ _ h => ⟨h.1, h.2.symm⟩)) | (go_at_call 69; first | (with_reducible exact Calls.quiet_of_same ((HW.out _).mono fun _ _ h => ⟨h.1, h.2.symm⟩)) | (with_reducible exact Calls.quiet_of_same ((HLO.out _).mono fun _ _ h => ⟨h.1, h.2.symm⟩)) | (with_reducible exact Calls.quiet_of_same ((HLA.out _).mono fun _ _ h => ⟨h.1, h.2.symm⟩)) | (with_reducible exact Calls.quiet_of_same ((HZO.out _).mono fun _ _ h => ⟨h.1, h.2.symm⟩)))))
              have HB1 := Lib.hid (show Below w.heap.size w (W0.drewN nq) from ⟨HB.out.os, HB.out.tape, HB.out.output, HB.out.size, HB.out.block⟩)
              have HK1 := Lib.hid (HK.out.drewN nq)
              clear x1 HK HB
              generalize W0.drewN nq = W1 at *
              have x0 := HK1.out.cell 0
              have x2 := HK1.out.cell 2
              have x3 := HK1.out.cell 3
              have x4 := HK1.out.cell 4
              have x5 := HK1.out.cell 5
              have x6 := HK1.out.cell 6
              simp only [List.getElem?_toArray, List.getElem?_cons_zero, List.getElem?_cons_succ] at x0 x2 x3 x4 x5 x6
              go_wp2_with fail
              have HB2 := Lib.hid (show Below w.heap.size w W1.drew from ⟨HB1.out.os, HB1.out.tape, HB1.out.output, HB1.out.size, HB1.out.block⟩)
              have HAR := Lib.hid (allright_any W1.drew _ L (HRD.out.below HB2.out))
              obtain ⟨bb, hbb⟩ : ∃ bb, L.all bxR = bb := ⟨_, rfl⟩
              rw [hbb] at HAR
              have HBB := Lib.hid hbb
              clear hbb
              refine wp_region_still_tail 19 (by kernel_rfl) (by kernel_rfl) ?_
              simp only [List.take_succ_cons, List.take_zero, List.drop_succ_cons, List.drop_zero]
              iterate 4 still_step
              still_call ((HLO.out _).mono fun _ _ h => ⟨h.1, h.2.symm⟩)
              iterate 8 still_step
              still_call ((all7_any _).mono fun _ _ h => ⟨h.1, h.2.symm⟩)
              still_call ((HLA.out _).mono fun _ _ h => ⟨h.1, h.2.symm⟩)
              iterate 4 still_step
              try refine wpStill_nil ?_
              change wpList _ _ _ _ _ W1.drew
              clear x0 x2 x3 x4 x5 x6
              have HK2 := Lib.hid (show Blk W1.drew w.heap.size 59 #[.int .i64 5, .int .i64 roles, .int .i64 lo, .int .i64 hi, .int .i64 labels, .slice A1 L.length c1, .int .i64 zoom] from HK1.out)
              generalize W1.drew = W2 at *
              go_wp2_with fail
              refine HAR.out.mono ?_
              rintro e w5 ⟨rfl, hb5⟩
              have HB5 := Lib.hid (HB2.out.trans (hb5.mono HB2.out.size))
              have x6 := (Blk.thru0 HK2.out hb5).cell 6
              simp only [List.getElem?_toArray, List.getElem?_cons_zero, List.getElem?_cons_succ] at x6
              clear hb5
              cases bb with
              | false =>
                go_wp2_with fail
                go_ret
                exact ⟨by rw [HBB.out]; rfl, HB5.out⟩
              | true =>
                go_wp2_with fail
                refine (HZO.out _).mono ?_
                rintro e w6 ⟨rfl, hw6⟩
                subst hw6
                go_wp2_with fail
                go_ret
                exact ⟨by rw [HBB.out]; rfl, HB5.out⟩
          · have HE := Lib.hid (show rurB ⟨5, roles, lo, hi, labels, L, zoom⟩ = false by simp [rurB, hhi])
            rw [HE.out]
            have hhd : decide (hi ≤ 7) = false := by simp; omega
            clear hhi
            go_enter Tryz.func54, Tryz.ntmps54
            go_upto_region 1 with fail
            have HK := Lib.hid (Blk.new w 59 #[.int .i64 5, .int .i64 roles, .int .i64 lo, .int .i64 hi, .int .i64 labels, .slice A1 L.length c1, .int .i64 zoom])
            generalize (w.alloc (.cells #[.int .i64 5, .int .i64 roles, .int .i64 lo, .int .i64 hi, .int .i64 labels, .slice A1 L.length c1, .int .i64 zoom] 59)) = W0 at *
            have x1 := HK.out.cell 1
            simp only [List.getElem?_toArray, List.getElem?_cons_zero, List.getElem?_cons_succ] at x1
            go_quiet ((first | (go_at_call 70; exact Calls.quiet_of_same ((all7_any _).mono fun _ _ h => ⟨h.1, h.2.symm⟩)) | (go_at_call 69; first | (with_reducible exact Calls.quiet_of_same ((HW.out _).mono fun _ _ h => ⟨h.1, h.2.symm⟩)) | (with_reducible exact Calls.quiet_of_same ((HLO.out _).mono fun _ _ h => ⟨h.1, h.2.symm⟩)) | (with_reducible exact Calls.quiet_of_same ((HLA.out _).mono fun _ _ h => ⟨h.1, h.2.symm⟩)) | (with_reducible exact Calls.quiet_of_same ((HZO.out _).mono fun _ _ h => ⟨h.1, h.2.symm⟩)))))
            have HB1 := Lib.hid (show Below w.heap.size w (W0.drewN nq) from ⟨HB.out.os, HB.out.tape, HB.out.output, HB.out.size, HB.out.block⟩)
            have HK1 := Lib.hid (HK.out.drewN nq)
            clear x1 HK HB
            generalize W0.drewN nq = W1 at *
            have x0 := HK1.out.cell 0
            have x2 := HK1.out.cell 2
            have x3 := HK1.out.cell 3
            have x4 := HK1.out.cell 4
            have x5 := HK1.out.cell 5
            have x6 := HK1.out.cell 6
            simp only [List.getElem?_toArray, List.getElem?_cons_zero, List.getElem?_cons_succ] at x0 x2 x3 x4 x5 x6
            go_wp2_with fail
            go_quiet ((first | (go_at_call 70; exact Calls.quiet_of_same ((all7_any _).mono fun _ _ h => ⟨h.1, h.2.symm⟩)) | (go_at_call 69; first | (with_reducible exact Calls.quiet_of_same ((HW.out _).mono fun _ _ h => ⟨h.1, h.2.symm⟩)) | (with_reducible exact Calls.quiet_of_same ((HLO.out _).mono fun _ _ h => ⟨h.1, h.2.symm⟩)) | (with_reducible exact Calls.quiet_of_same ((HLA.out _).mono fun _ _ h => ⟨h.1, h.2.symm⟩)) | (with_reducible exact Calls.quiet_of_same ((HZO.out _).mono fun _ _ h => ⟨h.1, h.2.symm⟩)))))
            go_wp2_with fail
            go_ret
            exact ⟨rfl, HB1.out.os, HB1.out.tape, HB1.out.output, HB1.out.size, HB1.out.block⟩
      · by_cases h6 : k = 6
        · subst h6
          clear h4 h5
          by_cases nn : lo = 0
          · subst nn
            by_cases nn : hi = 0
            · subst nn
              by_cases nn : labels = 0
              · subst nn
                by_cases nn : L = []
                · subst nn
                  simp only [List.length_nil] at *
                  by_cases nn : zoom = 0
                  · subst nn
                    have HE := Lib.hid (show rurB ⟨6, roles, 0, 0, 0, [], 0⟩ = true by simp [rurB, hw, *])
                    rw [HE.out]
                    try clear nn
                    go_enter Tryz.func54, Tryz.ntmps54
                    go_upto_region 1 with fail
                    have HK := Lib.hid (Blk.new w 59 #[.int .i64 6, .int .i64 roles, .int .i64 0, .int .i64 0, .int .i64 0, .slice A1 0 c1, .int .i64 0])
                    generalize (w.alloc (.cells #[.int .i64 6, .int .i64 roles, .int .i64 0, .int .i64 0, .int .i64 0, .slice A1 0 c1, .int .i64 0] 59)) = W0 at *
                    have x1 := HK.out.cell 1
                    simp only [List.getElem?_toArray, List.getElem?_cons_zero, List.getElem?_cons_succ] at x1
                    go_quiet ((first | (go_at_call 70; exact Calls.quiet_of_same ((all7_any _).mono fun _ _ h => ⟨h.1, h.2.symm⟩)) | (go_at_call 69; first | (with_reducible exact Calls.quiet_of_same ((HW.out _).mono fun _ _ h => ⟨h.1, h.2.symm⟩)) | (with_reducible exact Calls.quiet_of_same ((HLO.out _).mono fun _ _ h => ⟨h.1, h.2.symm⟩)) | (with_reducible exact Calls.quiet_of_same ((HLA.out _).mono fun _ _ h => ⟨h.1, h.2.symm⟩)) | (with_reducible exact Calls.quiet_of_same ((HZO.out _).mono fun _ _ h => ⟨h.1, h.2.symm⟩)))))
                    have HB1 := Lib.hid (show Below w.heap.size w (W0.drewN nq) from ⟨HB.out.os, HB.out.tape, HB.out.output, HB.out.size, HB.out.block⟩)
                    have HK1 := Lib.hid (HK.out.drewN nq)
                    clear x1 HK HB
                    generalize W0.drewN nq = W1 at *
                    have x0 := HK1.out.cell 0
                    have x2 := HK1.out.cell 2
                    have x3 := HK1.out.cell 3
                    have x4 := HK1.out.cell 4
                    have x5 := HK1.out.cell 5
                    have x6 := HK1.out.cell 6
                    simp only [List.getElem?_toArray, List.getElem?_cons_zero, List.getElem?_cons_succ] at x0 x2 x3 x4 x5 x6
                    go_wp2_with fail
                    go_ret
                    exact ⟨rfl, HB1.out⟩
                  · have m4 : (zoom == 0) = false := beq_eq_false_iff_ne.2 nn
                    have HE := Lib.hid (show rurB ⟨6, roles, 0, 0, 0, [], zoom⟩ = false by simp [rurB, hw, *])
                    rw [HE.out]
                    try clear nn
                    go_enter Tryz.func54, Tryz.ntmps54
                    go_upto_region 1 with fail
                    have HK := Lib.hid (Blk.new w 59 #[.int .i64 6, .int .i64 roles, .int .i64 0, .int .i64 0, .int .i64 0, .slice A1 0 c1, .int .i64 zoom])
                    generalize (w.alloc (.cells #[.int .i64 6, .int .i64 roles, .int .i64 0, .int .i64 0, .int .i64 0, .slice A1 0 c1, .int .i64 zoom] 59)) = W0 at *
                    have x1 := HK.out.cell 1
                    simp only [List.getElem?_toArray, List.getElem?_cons_zero, List.getElem?_cons_succ] at x1
                    go_quiet ((first | (go_at_call 70; exact Calls.quiet_of_same ((all7_any _).mono fun _ _ h => ⟨h.1, h.2.symm⟩)) | (go_at_call 69; first | (with_reducible exact Calls.quiet_of_same ((HW.out _).mono fun _ _ h => ⟨h.1, h.2.symm⟩)) | (with_reducible exact Calls.quiet_of_same ((HLO.out _).mono fun _ _ h => ⟨h.1, h.2.symm⟩)) | (with_reducible exact Calls.quiet_of_same ((HLA.out _).mono fun _ _ h => ⟨h.1, h.2.symm⟩)) | (with_reducible exact Calls.quiet_of_same ((HZO.out _).mono fun _ _ h => ⟨h.1, h.2.symm⟩)))))
                    have HB1 := Lib.hid (show Below w.heap.size w (W0.drewN nq) from ⟨HB.out.os, HB.out.tape, HB.out.output, HB.out.size, HB.out.block⟩)
                    have HK1 := Lib.hid (HK.out.drewN nq)
                    clear x1 HK HB
                    generalize W0.drewN nq = W1 at *
                    have x0 := HK1.out.cell 0
                    have x2 := HK1.out.cell 2
                    have x3 := HK1.out.cell 3
                    have x4 := HK1.out.cell 4
                    have x5 := HK1.out.cell 5
                    have x6 := HK1.out.cell 6
                    simp only [List.getElem?_toArray, List.getElem?_cons_zero, List.getElem?_cons_succ] at x0 x2 x3 x4 x5 x6
                    go_wp2_with fail
                    go_ret
                    exact ⟨rfl, HB1.out⟩
                · have m3 : ((L.length : Int) == 0) = false := by
                    have := List.length_pos_iff.2 nn
                    exact beq_eq_false_iff_ne.2 (by omega)
                  have HE := Lib.hid (show rurB ⟨6, roles, 0, 0, 0, L, zoom⟩ = false by simp [rurB, hw, *])
                  rw [HE.out]
                  try clear nn
                  go_enter Tryz.func54, Tryz.ntmps54
                  go_upto_region 1 with fail
                  have HK := Lib.hid (Blk.new w 59 #[.int .i64 6, .int .i64 roles, .int .i64 0, .int .i64 0, .int .i64 0, .slice A1 L.length c1, .int .i64 zoom])
                  generalize (w.alloc (.cells #[.int .i64 6, .int .i64 roles, .int .i64 0, .int .i64 0, .int .i64 0, .slice A1 L.length c1, .int .i64 zoom] 59)) = W0 at *
                  have x1 := HK.out.cell 1
                  simp only [List.getElem?_toArray, List.getElem?_cons_zero, List.getElem?_cons_succ] at x1
                  go_quiet ((first | (go_at_call 70; exact Calls.quiet_of_same ((all7_any _).mono fun _ _ h => ⟨h.1, h.2.symm⟩)) | (go_at_call 69; first | (with_reducible exact Calls.quiet_of_same ((HW.out _).mono fun _ _ h => ⟨h.1, h.2.symm⟩)) | (with_reducible exact Calls.quiet_of_same ((HLO.out _).mono fun _ _ h => ⟨h.1, h.2.symm⟩)) | (with_reducible exact Calls.quiet_of_same ((HLA.out _).mono fun _ _ h => ⟨h.1, h.2.symm⟩)) | (with_reducible exact Calls.quiet_of_same ((HZO.out _).mono fun _ _ h => ⟨h.1, h.2.symm⟩)))))
                  have HB1 := Lib.hid (show Below w.heap.size w (W0.drewN nq) from ⟨HB.out.os, HB.out.tape, HB.out.output, HB.out.size, HB.out.block⟩)
                  have HK1 := Lib.hid (HK.out.drewN nq)
                  clear x1 HK HB
                  generalize W0.drewN nq = W1 at *
                  have x0 := HK1.out.cell 0
                  have x2 := HK1.out.cell 2
                  have x3 := HK1.out.cell 3
                  have x4 := HK1.out.cell 4
                  have x5 := HK1.out.cell 5
                  have x6 := HK1.out.cell 6
                  simp only [List.getElem?_toArray, List.getElem?_cons_zero, List.getElem?_cons_succ] at x0 x2 x3 x4 x5 x6
                  go_wp2_with fail
                  go_ret
                  exact ⟨rfl, HB1.out⟩
              · have m2 : (labels == 0) = false := beq_eq_false_iff_ne.2 nn
                have HE := Lib.hid (show rurB ⟨6, roles, 0, 0, labels, L, zoom⟩ = false by simp [rurB, hw, *])
                rw [HE.out]
                try clear nn
                go_enter Tryz.func54, Tryz.ntmps54
                go_upto_region 1 with fail
                have HK := Lib.hid (Blk.new w 59 #[.int .i64 6, .int .i64 roles, .int .i64 0, .int .i64 0, .int .i64 labels, .slice A1 L.length c1, .int .i64 zoom])
                generalize (w.alloc (.cells #[.int .i64 6, .int .i64 roles, .int .i64 0, .int .i64 0, .int .i64 labels, .slice A1 L.length c1, .int .i64 zoom] 59)) = W0 at *
                have x1 := HK.out.cell 1
                simp only [List.getElem?_toArray, List.getElem?_cons_zero, List.getElem?_cons_succ] at x1
                go_quiet ((first | (go_at_call 70; exact Calls.quiet_of_same ((all7_any _).mono fun _ _ h => ⟨h.1, h.2.symm⟩)) | (go_at_call 69; first | (with_reducible exact Calls.quiet_of_same ((HW.out _).mono fun _ _ h => ⟨h.1, h.2.symm⟩)) | (with_reducible exact Calls.quiet_of_same ((HLO.out _).mono fun _ _ h => ⟨h.1, h.2.symm⟩)) | (with_reducible exact Calls.quiet_of_same ((HLA.out _).mono fun _ _ h => ⟨h.1, h.2.symm⟩)) | (with_reducible exact Calls.quiet_of_same ((HZO.out _).mono fun _ _ h => ⟨h.1, h.2.symm⟩)))))
                have HB1 := Lib.hid (show Below w.heap.size w (W0.drewN nq) from ⟨HB.out.os, HB.out.tape, HB.out.output, HB.out.size, HB.out.block⟩)
                have HK1 := Lib.hid (HK.out.drewN nq)
                clear x1 HK HB
                generalize W0.drewN nq = W1 at *
                have x0 := HK1.out.cell 0
                have x2 := HK1.out.cell 2
                have x3 := HK1.out.cell 3
                have x4 := HK1.out.cell 4
                have x5 := HK1.out.cell 5
                have x6 := HK1.out.cell 6
                simp only [List.getElem?_toArray, List.getElem?_cons_zero, List.getElem?_cons_succ] at x0 x2 x3 x4 x5 x6
                go_wp2_with fail
                go_ret
                exact ⟨rfl, HB1.out⟩
            · have m1 : (hi == 0) = false := beq_eq_false_iff_ne.2 nn
              have HE := Lib.hid (show rurB ⟨6, roles, 0, hi, labels, L, zoom⟩ = false by simp [rurB, hw, *])
              rw [HE.out]
              try clear nn
              go_enter Tryz.func54, Tryz.ntmps54
              go_upto_region 1 with fail
              have HK := Lib.hid (Blk.new w 59 #[.int .i64 6, .int .i64 roles, .int .i64 0, .int .i64 hi, .int .i64 labels, .slice A1 L.length c1, .int .i64 zoom])
              generalize (w.alloc (.cells #[.int .i64 6, .int .i64 roles, .int .i64 0, .int .i64 hi, .int .i64 labels, .slice A1 L.length c1, .int .i64 zoom] 59)) = W0 at *
              have x1 := HK.out.cell 1
              simp only [List.getElem?_toArray, List.getElem?_cons_zero, List.getElem?_cons_succ] at x1
              go_quiet ((first | (go_at_call 70; exact Calls.quiet_of_same ((all7_any _).mono fun _ _ h => ⟨h.1, h.2.symm⟩)) | (go_at_call 69; first | (with_reducible exact Calls.quiet_of_same ((HW.out _).mono fun _ _ h => ⟨h.1, h.2.symm⟩)) | (with_reducible exact Calls.quiet_of_same ((HLO.out _).mono fun _ _ h => ⟨h.1, h.2.symm⟩)) | (with_reducible exact Calls.quiet_of_same ((HLA.out _).mono fun _ _ h => ⟨h.1, h.2.symm⟩)) | (with_reducible exact Calls.quiet_of_same ((HZO.out _).mono fun _ _ h => ⟨h.1, h.2.symm⟩)))))
              have HB1 := Lib.hid (show Below w.heap.size w (W0.drewN nq) from ⟨HB.out.os, HB.out.tape, HB.out.output, HB.out.size, HB.out.block⟩)
              have HK1 := Lib.hid (HK.out.drewN nq)
              clear x1 HK HB
              generalize W0.drewN nq = W1 at *
              have x0 := HK1.out.cell 0
              have x2 := HK1.out.cell 2
              have x3 := HK1.out.cell 3
              have x4 := HK1.out.cell 4
              have x5 := HK1.out.cell 5
              have x6 := HK1.out.cell 6
              simp only [List.getElem?_toArray, List.getElem?_cons_zero, List.getElem?_cons_succ] at x0 x2 x3 x4 x5 x6
              go_wp2_with fail
              go_ret
              exact ⟨rfl, HB1.out⟩
          · have m0 : (lo == 0) = false := beq_eq_false_iff_ne.2 nn
            have HE := Lib.hid (show rurB ⟨6, roles, lo, hi, labels, L, zoom⟩ = false by simp [rurB, hw, *])
            rw [HE.out]
            try clear nn
            go_enter Tryz.func54, Tryz.ntmps54
            go_upto_region 1 with fail
            have HK := Lib.hid (Blk.new w 59 #[.int .i64 6, .int .i64 roles, .int .i64 lo, .int .i64 hi, .int .i64 labels, .slice A1 L.length c1, .int .i64 zoom])
            generalize (w.alloc (.cells #[.int .i64 6, .int .i64 roles, .int .i64 lo, .int .i64 hi, .int .i64 labels, .slice A1 L.length c1, .int .i64 zoom] 59)) = W0 at *
            have x1 := HK.out.cell 1
            simp only [List.getElem?_toArray, List.getElem?_cons_zero, List.getElem?_cons_succ] at x1
            go_quiet ((first | (go_at_call 70; exact Calls.quiet_of_same ((all7_any _).mono fun _ _ h => ⟨h.1, h.2.symm⟩)) | (go_at_call 69; first | (with_reducible exact Calls.quiet_of_same ((HW.out _).mono fun _ _ h => ⟨h.1, h.2.symm⟩)) | (with_reducible exact Calls.quiet_of_same ((HLO.out _).mono fun _ _ h => ⟨h.1, h.2.symm⟩)) | (with_reducible exact Calls.quiet_of_same ((HLA.out _).mono fun _ _ h => ⟨h.1, h.2.symm⟩)) | (with_reducible exact Calls.quiet_of_same ((HZO.out _).mono fun _ _ h => ⟨h.1, h.2.symm⟩)))))
            have HB1 := Lib.hid (show Below w.heap.size w (W0.drewN nq) from ⟨HB.out.os, HB.out.tape, HB.out.output, HB.out.size, HB.out.block⟩)
            have HK1 := Lib.hid (HK.out.drewN nq)
            clear x1 HK HB
            generalize W0.drewN nq = W1 at *
            have x0 := HK1.out.cell 0
            have x2 := HK1.out.cell 2
            have x3 := HK1.out.cell 3
            have x4 := HK1.out.cell 4
            have x5 := HK1.out.cell 5
            have x6 := HK1.out.cell 6
            simp only [List.getElem?_toArray, List.getElem?_cons_zero, List.getElem?_cons_succ] at x0 x2 x3 x4 x5 x6
            go_wp2_with fail
            go_ret
            exact ⟨rfl, HB1.out⟩
        · have HE := Lib.hid (show rurB ⟨k, roles, lo, hi, labels, L, zoom⟩ = false by simp [rurB, h4, h5, h6])
          rw [HE.out]
          have k4 : (k == 4) = false := beq_eq_false_iff_ne.2 h4
          have k5 : (k == 5) = false := beq_eq_false_iff_ne.2 h5
          have k6 : (k == 6) = false := beq_eq_false_iff_ne.2 h6
          clear h4 h5 h6
          go_enter Tryz.func54, Tryz.ntmps54
          go_upto_region 1 with fail
          have HK := Lib.hid (Blk.new w 59 #[.int .i64 k, .int .i64 roles, .int .i64 lo, .int .i64 hi, .int .i64 labels, .slice A1 L.length c1, .int .i64 zoom])
          generalize (w.alloc (.cells #[.int .i64 k, .int .i64 roles, .int .i64 lo, .int .i64 hi, .int .i64 labels, .slice A1 L.length c1, .int .i64 zoom] 59)) = W0 at *
          have x1 := HK.out.cell 1
          simp only [List.getElem?_toArray, List.getElem?_cons_zero, List.getElem?_cons_succ] at x1
          go_quiet ((first | (go_at_call 70; exact Calls.quiet_of_same ((all7_any _).mono fun _ _ h => ⟨h.1, h.2.symm⟩)) | (go_at_call 69; first | (with_reducible exact Calls.quiet_of_same ((HW.out _).mono fun _ _ h => ⟨h.1, h.2.symm⟩)) | (with_reducible exact Calls.quiet_of_same ((HLO.out _).mono fun _ _ h => ⟨h.1, h.2.symm⟩)) | (with_reducible exact Calls.quiet_of_same ((HLA.out _).mono fun _ _ h => ⟨h.1, h.2.symm⟩)) | (with_reducible exact Calls.quiet_of_same ((HZO.out _).mono fun _ _ h => ⟨h.1, h.2.symm⟩)))))
          have HB1 := Lib.hid (show Below w.heap.size w (W0.drewN nq) from ⟨HB.out.os, HB.out.tape, HB.out.output, HB.out.size, HB.out.block⟩)
          have HK1 := Lib.hid (HK.out.drewN nq)
          clear x1 HK HB
          generalize W0.drewN nq = W1 at *
          have x0 := HK1.out.cell 0
          have x2 := HK1.out.cell 2
          have x3 := HK1.out.cell 3
          have x4 := HK1.out.cell 4
          have x5 := HK1.out.cell 5
          have x6 := HK1.out.cell 6
          simp only [List.getElem?_toArray, List.getElem?_cons_zero, List.getElem?_cons_succ] at x0 x2 x3 x4 x5 x6
          go_wp2_with fail
          go_ret
          exact ⟨rfl, HB1.out⟩
end Go.Proofs.YtmgamlpjgghieaaGreatDoor
