/- Texts: RulesMoreWalk. -/
import Derived.Test.YtkpmeelbjldcoaaGreatDoorZbRulesTurnedWalk
import Derived.Test.YtkpmeelbjldcoaaGreatDoorZbRu7
namespace Go.Proofs.YtkpmeelbjldcoaaGreatDoor
set_option linter.unusedVariables false
set_option linter.unusedSimpArgs false
open Go.RowKit
set_option maxRecDepth 100000 in
set_option maxHeartbeats 16000000 in
theorem rulesMore_walk (w : World) (v : Value) (acc : List (Rc × RV)) (rr : Rc) (bv : Value) (ro ti la x y : Int) (hk : ∀ W, Vs W → Hs W → Calls Tryz.prog 9 #[] W fun e w' => e = .returned (.bool true) ∧ Below W.heap.size W w') (hV : Vs w) (hs : Hs w) (h : RRd w v acc) (hr : ERd elR w bv rr.bx) :
    Calls Tryz.prog 7 #[v, ruV rr bv, wV ro ti la x y] w fun e w' => e = .returned (.bool true) ∧ Below w.heap.size w w' := by
  have HKW := Lib.hid (show ∀ W, Below w.heap.size w W → Calls Tryz.prog 9 #[] W fun e w' => e = .returned (.bool true) ∧ Below W.heap.size W w' from fun W hb => hk W (hV.below hb) (hs.low hb))
  obtain ⟨A1, c1, rfl, -, -, -⟩ := id h.1
  obtain ⟨A2, c2, rfl, -, -, -⟩ := id hr
  have HA := Lib.hid (show Below w.heap.size w ((w.alloc (.cells #[.int .i64 rr.k, .int .i64 rr.roles, .int .i64 rr.lo, .int .i64 rr.hi, .int .i64 rr.labels, .slice A2 rr.bx.length c2, .int .i64 rr.zoom] 50)).alloc (.cells #[.int .i64 ro, .int .i64 ti, .int .i64 la, .int .i64 x, .int .i64 y] 47)) from ((Below.refl _ _).alloc (Nat.le_refl _) _).alloc (by simp) _)
  have HR0 : Hid (Blk ((w.alloc (.cells #[.int .i64 rr.k, .int .i64 rr.roles, .int .i64 rr.lo, .int .i64 rr.hi, .int .i64 rr.labels, .slice A2 rr.bx.length c2, .int .i64 rr.zoom] 50)).alloc (.cells #[.int .i64 ro, .int .i64 ti, .int .i64 la, .int .i64 x, .int .i64 y] 47)) w.heap.size 50 #[.int .i64 rr.k, .int .i64 rr.roles, .int .i64 rr.lo, .int .i64 rr.hi, .int .i64 rr.labels, .slice A2 rr.bx.length c2, .int .i64 rr.zoom]) := Lib.hid (Blk.thru0 (Blk.new w 50 _) ((Below.refl _ _).alloc (Nat.le_refl _) _))
  have HW : Hid (Blk ((w.alloc (.cells #[.int .i64 rr.k, .int .i64 rr.roles, .int .i64 rr.lo, .int .i64 rr.hi, .int .i64 rr.labels, .slice A2 rr.bx.length c2, .int .i64 rr.zoom] 50)).alloc (.cells #[.int .i64 ro, .int .i64 ti, .int .i64 la, .int .i64 x, .int .i64 y] 47)) (w.heap.size + 1) 47 #[.int .i64 ro, .int .i64 ti, .int .i64 la, .int .i64 x, .int .i64 y]) := Lib.hid (by
    have := Blk.new (w.alloc (.cells #[.int .i64 rr.k, .int .i64 rr.roles, .int .i64 rr.lo, .int .i64 rr.hi, .int .i64 rr.labels, .slice A2 rr.bx.length c2, .int .i64 rr.zoom] 50)) 47 #[.int .i64 ro, .int .i64 ti, .int .i64 la, .int .i64 x, .int .i64 y]
    rw [show (w.alloc (.cells #[.int .i64 rr.k, .int .i64 rr.roles, .int .i64 rr.lo, .int .i64 rr.hi, .int .i64 rr.labels, .slice A2 rr.bx.length c2, .int .i64 rr.zoom] 50)).heap.size = w.heap.size + 1 by simp] at this
    exact this)
  have H1 := Lib.hid (h.below HA.out)
  have HRX := Lib.hid (hr.below HA.out)
  clear h hV hs hk hr
  simp only [wV, ruV]
  go_enter Tryz.func7, Tryz.ntmps7
  go_upto_region 1 with fail
  generalize ((w.alloc (.cells #[.int .i64 rr.k, .int .i64 rr.roles, .int .i64 rr.lo, .int .i64 rr.hi, .int .i64 rr.labels, .slice A2 rr.bx.length c2, .int .i64 rr.zoom] 50)).alloc (.cells #[.int .i64 ro, .int .i64 ti, .int .i64 la, .int .i64 x, .int .i64 y] 47)) = W0 at *
  have y0 := HR0.out.cell 0
  have y1 := HR0.out.cell 1
  have y2 := HR0.out.cell 2
  have y3 := HR0.out.cell 3
  have y4 := HR0.out.cell 4
  have y5 := HR0.out.cell 5
  have y6 := HR0.out.cell 6
  simp only [List.getElem?_toArray, List.getElem?_cons_zero, List.getElem?_cons_succ] at y0 y1 y2 y3 y4 y5 y6
  by_cases hgo : (100 : Int) < (acc.length : Int)
  · skip
    go_wp2_with fail
    refine (HKW.out _ HA.out).mono ?_
    rintro e w9 ⟨rfl, hb9⟩
    have HB9 := Lib.hid (HA.out.trans (hb9.mono HA.out.size))
    clear hb9
    go_wp2_with fail
    go_ret
    exact ⟨rfl, HB9.out⟩
  · have hn : acc.length ≤ 100 := by omega
    have HRR := Lib.hid (rrur_any W0 rr _ HRX.out)
    simp only [ruV] at HRR
    obtain ⟨bq, hbq⟩ : ∃ bq, rurB rr = bq := ⟨_, rfl⟩
    rw [hbq] at HRR
    have HBQ := Lib.hid hbq
    clear hbq
    go_wp2_with fail
    refine HRR.out.mono ?_
    rintro e W1 ⟨rfl, hb1⟩
    have HA1 := Lib.hid (HA.out.trans (hb1.mono HA.out.size))
    have HR1 := Lib.hid (Blk.thru0 HR0.out hb1)
    have HW1 := Lib.hid (Blk.thru0 HW.out hb1)
    have H11 := Lib.hid (H1.out.below hb1)
    have HRX1 := Lib.hid (HRX.out.below hb1)
    clear hb1 y0 y1 y2 y3 y4 y5 y6 HRR HA HR0 HW H1 HRX
    cases bq with
    | false =>
      go_wp2_with fail
      refine (HKW.out _ HA1.out).mono ?_
      rintro e w9 ⟨rfl, hb9⟩
      have HB9 := Lib.hid (HA1.out.trans (hb9.mono HA1.out.size))
      clear hb9
      go_wp2_with fail
      go_ret
      exact ⟨rfl, HB9.out⟩
    | true =>
      have HUP := Lib.hid (zoom_more acc (rr, ⟨A2, rr.bx.length, c2⟩) HBQ.out ro ti la x y)
      clear HBQ
      go_wp2_with fail
      go_loopw [7, 8] (fun m i wr => ∃ (j : Nat) (M : List (Rc × RV)) (v0 : Value), j ≤ acc.length ∧ m = v0 ∧ i = .int .i64 j ∧ Hid (M = acc.take j) ∧ Hid (RuSt W1 M v0 wr)) (fun _ i _ => acc.length - (intOf i).toNat)
      case atStart => exact ⟨0, [], _, by omega, rfl, rfl, Lib.hid (by simp), Lib.hid ⟨EOwn.nil_ _, fun i hi => by simp [Value.ownBlock] at hi, Below.refl _ _⟩⟩
      case round =>
        rename_i wr
        obtain ⟨j, M, v0, hj, rfl, rfl, HM, HS⟩ := hrel
        by_cases hlt : j < acc.length
        · have hqn : (j : Int) < (acc.length : Int) := by omega
          have HAC := Lib.hid (show M.length ≤ 1000000 by rw [HM.out]; simp; omega)
          have HMM := Lib.hid (show acc.take (j + 1) = M ++ [acc[j]] by rw [HM.out, ← List.take_append_getElem hlt])
          have hx : acc[j]? = some acc[j] := List.getElem?_eq_getElem hlt
          obtain ⟨g1, o1, rfl, hc1⟩ := (H11.out.1.below HS.out.2.2).cell hx
          have HME := Lib.hid (List.getElem_mem hlt)
          generalize acc[j] = xx at *
          obtain ⟨r, xA, xn, xc⟩ := xx
          have a0 : wr.cell? ⟨g1, o1 + j * 7, none⟩ = some (.int .i64 r.k) := hc1 0 _ rfl
          have a1 : wr.cell? ⟨g1, o1 + j * 7 + 1, none⟩ = some (.int .i64 r.roles) := hc1 1 _ rfl
          have a2 : wr.cell? ⟨g1, o1 + j * 7 + 2, none⟩ = some (.int .i64 r.lo) := hc1 2 _ rfl
          have a3 : wr.cell? ⟨g1, o1 + j * 7 + 3, none⟩ = some (.int .i64 r.hi) := hc1 3 _ rfl
          have a4 : wr.cell? ⟨g1, o1 + j * 7 + 4, none⟩ = some (.int .i64 r.labels) := hc1 4 _ rfl
          have a5 : wr.cell? ⟨g1, o1 + j * 7 + 5, none⟩ = some (.slice xA xn xc) := hc1 5 _ rfl
          have a6 : wr.cell? ⟨g1, o1 + j * 7 + 6, none⟩ = some (.int .i64 r.zoom) := hc1 6 _ rfl
          have HOW := Lib.hid HS.out.1
          clear hc1 hx
          go_wp2_with ((at_builtin; refine wpList_epush elRu_ok rfl _ _ 24 rfl (by kernel_rfl) _ M (r, (⟨xA, xn, xc⟩ : RV)) wr.heap.size 1 rfl rfl (HOW.out.alloc _) (fun j u hu => new_cell wr _ _ j (by simpa [elRu, rucells, RV.v] using hu)) HAC.out ?_; intro v' w4 hA))
          have hAL : Below wr.heap.size wr (wr.alloc (.cells #[.int .i64 r.k, .int .i64 r.roles, .int .i64 r.lo, .int .i64 r.hi, .int .i64 r.labels, .slice xA xn xc, .int .i64 r.zoom] 50)) := (Below.refl _ _).alloc (Nat.le_refl _) _
          have hsz : W1.heap.size ≤ (wr.alloc (.cells #[.int .i64 r.k, .int .i64 r.roles, .int .i64 r.lo, .int .i64 r.hi, .int .i64 r.labels, .slice xA xn xc, .int .i64 r.zoom] 50)).heap.size := by have := HS.out.2.2.size; have := hAL.size; omega
          have hBL := But.of_appended hA hsz HS.out.2.1
          have HN := Lib.hid (show RuSt W1 (M ++ [(r, (⟨xA, xn, xc⟩ : RV))]) v' w4 from ⟨hA.own, hA.far hsz HS.out.2.1, (HS.out.2.2.trans (hAL.mono HS.out.2.2.size)).trans hBL⟩)
          clear hA hAL hsz hBL HS HOW a0 a1 a2 a3 a4 a5 a6
          go_wp2_with fail
          go_roundw
          case rel => exact ⟨j + 1, _, _, by omega, rfl, by go_num, Lib.hid HMM.out.symm, HN⟩
          case measure => simp [intOf]; omega
        · obtain rfl : j = acc.length := by omega
          obtain rfl : M = acc := by rw [HM.out, List.take_length]
          have HAC := Lib.hid (show M.length ≤ 1000000 by omega)
          have HOW := Lib.hid HS.out.1
          have z0 := (Blk.thru0 HR1.out HS.out.2.2).cell 0
          have z1 := (Blk.thru0 HR1.out HS.out.2.2).cell 1
          have z2 := (Blk.thru0 HR1.out HS.out.2.2).cell 2
          have z3 := (Blk.thru0 HR1.out HS.out.2.2).cell 3
          have z4 := (Blk.thru0 HR1.out HS.out.2.2).cell 4
          have z5 := (Blk.thru0 HR1.out HS.out.2.2).cell 5
          have z6 := (Blk.thru0 HR1.out HS.out.2.2).cell 6
          simp only [List.getElem?_toArray, List.getElem?_cons_zero, List.getElem?_cons_succ] at z0 z1 z2 z3 z4 z5 z6
          obtain ⟨A9, c9, hv9, _, _⟩ := HS.out.1.slice
          go_upto_region 9 with ((at_builtin; refine wpList_epush elRu_ok rfl _ _ 24 rfl (by kernel_rfl) _ M (rr, (⟨A2, rr.bx.length, c2⟩ : RV)) wr.heap.size 1 rfl rfl (HOW.out.alloc _) (fun j u hu => new_cell wr _ _ j (by simpa [elRu, rucells, RV.v] using hu)) HAC.out ?_; intro v' w4 hA))
          have hAL : Below wr.heap.size wr (wr.alloc (.cells #[.int .i64 rr.k, .int .i64 rr.roles, .int .i64 rr.lo, .int .i64 rr.hi, .int .i64 rr.labels, .slice A2 rr.bx.length c2, .int .i64 rr.zoom] 50)) := (Below.refl _ _).alloc (Nat.le_refl _) _
          have hsz : W1.heap.size ≤ (wr.alloc (.cells #[.int .i64 rr.k, .int .i64 rr.roles, .int .i64 rr.lo, .int .i64 rr.hi, .int .i64 rr.labels, .slice A2 rr.bx.length c2, .int .i64 rr.zoom] 50)).heap.size := by have := HS.out.2.2.size; have := hAL.size; omega
          have hBL := But.of_appended hA hsz HS.out.2.1
          have HN := Lib.hid (show RuSt W1 (M ++ [(rr, (⟨A2, rr.bx.length, c2⟩ : RV))]) v' w4 from ⟨hA.own, hA.far hsz HS.out.2.1, (HS.out.2.2.trans (hAL.mono HS.out.2.2.size)).trans hBL⟩)
          clear hA hAL hsz hBL HOW z0 z1 z2 z3 z4 z5 z6 HS HM HAC
          obtain ⟨M2, hM2⟩ : ∃ M2, M ++ [(rr, (⟨A2, rr.bx.length, c2⟩ : RV))] = M2 := ⟨_, rfl⟩
          rw [hM2] at HN HUP
          obtain ⟨A3, c3, rfl, _, _⟩ := HN.out.1.slice
          have HRW := Lib.hid (show RRd w4 (.slice A3 M2.length c3) M2 from ⟨ERd.of_own elRu_ok HN.out.1, fun a ha => by
            rw [← hM2] at ha
            rcases List.mem_append.1 ha with ha | ha
            · exact (H11.out.2 a ha).below HN.out.2.2
            · obtain rfl := List.mem_singleton.1 ha
              exact HRX1.out.below HN.out.2.2⟩)
          clear hM2
          have HW3 := Lib.hid (Blk.thru0 HW1.out HN.out.2.2)
          have HR3 := Lib.hid (Blk.thru0 HR1.out HN.out.2.2)
          have HRA := Lib.hid (H11.out.below HN.out.2.2)
          have HB3 := Lib.hid (HA1.out.trans (HN.out.2.2.mono HA1.out.size))
          have HZ1 := Lib.hid (fun W (hb : Below w4.heap.size w4 W) => lzoom_any W _ M ro ti la x y (HRA.out.below hb))
          have HZ2 := Lib.hid (fun W (hb : Below w4.heap.size w4 W) => lzoom_any W _ M2 ro ti la x y (HRW.out.below hb))
          simp only [wV] at HZ1 HZ2
          obtain ⟨za, hza⟩ : ∃ za, zoomN M ro ti la x y = za := ⟨_, rfl⟩
          obtain ⟨zb, hzb⟩ : ∃ zb, zoomN M2 ro ti la x y = zb := ⟨_, rfl⟩
          rw [hza, hzb] at HUP
          rw [hza] at HZ1
          rw [hzb] at HZ2
          clear hza hzb
          have HDR := Lib.hid (show Below w4.heap.size w4 w4.drew from below_drew1 (Below.refl _ _))
          have HQ := Lib.hid (show ∀ W, Below w4.heap.size w4 W → W.cell? ⟨w.heap.size + 1, 0, none⟩ = some (.int .i64 ro) ∧ W.cell? ⟨w.heap.size + 1, 1, none⟩ = some (.int .i64 ti) ∧ W.cell? ⟨w.heap.size + 1, 2, none⟩ = some (.int .i64 la) ∧ W.cell? ⟨w.heap.size + 1, 3, none⟩ = some (.int .i64 x) ∧ W.cell? ⟨w.heap.size + 1, 4, none⟩ = some (.int .i64 y) from fun W hb => ⟨(Blk.thru0 HW3.out hb).cell 0, (Blk.thru0 HW3.out hb).cell 1, (Blk.thru0 HW3.out hb).cell 2, (Blk.thru0 HW3.out hb).cell 3, (Blk.thru0 HW3.out hb).cell 4⟩)
          obtain ⟨q0, q1, q2, q3, q4⟩ := HQ.out w4 (Below.refl _ _)
          clear HN HRW HRA HR1 HW1 H11 HRX1 HA1
          go_region_held3 (fun w' => w'.cell? ⟨w.heap.size + 1, 0, none⟩ = some (.int .i64 ro) ∧ w'.cell? ⟨w.heap.size + 1, 1, none⟩ = some (.int .i64 ti) ∧ w'.cell? ⟨w.heap.size + 1, 2, none⟩ = some (.int .i64 la) ∧ w'.cell? ⟨w.heap.size + 1, 3, none⟩ = some (.int .i64 x) ∧ w'.cell? ⟨w.heap.size + 1, 4, none⟩ = some (.int .i64 y)) (first | (refine ⟨?_, ?_, ?_, ?_, ?_⟩ <;> first | assumption | exact cell_drew (by assumption)) | (go_split_ands; refine ⟨?_, ?_, ?_, ?_, ?_⟩ <;> first | assumption | exact cell_drew (by assumption))) (first | (go_at_call 23; with_reducible refine Calls.mono (HZ1.out _ ?_) ?_; (first | exact B8.out | exact below_drew1 B8.out | exact HDR.out | exact Below.refl _ _); rintro e w8 ⟨rfl, hb8⟩; have K1 : Below w4.heap.size w4 w8 := (by first | exact B8.out.trans (hb8.mono B8.out.size) | exact (below_drew1 B8.out).trans (hb8.mono B8.out.size) | exact HDR.out.trans (hb8.mono HDR.out.size) | exact hb8); have B8 := Lib.hid K1; obtain ⟨q0, q1, q2, q3, q4⟩ := HQ.out _ K1; clear hb8 K1) | (go_at_call 23; with_reducible refine Calls.mono (HZ2.out _ ?_) ?_; (first | exact B8.out | exact below_drew1 B8.out | exact HDR.out | exact Below.refl _ _); rintro e w8 ⟨rfl, hb8⟩; have K1 : Below w4.heap.size w4 w8 := (by first | exact B8.out.trans (hb8.mono B8.out.size) | exact (below_drew1 B8.out).trans (hb8.mono B8.out.size) | exact HDR.out.trans (hb8.mono HDR.out.size) | exact hb8); have B8 := Lib.hid K1; obtain ⟨q0, q1, q2, q3, q4⟩ := HQ.out _ K1; clear hb8 K1))
          all_goals
            have HR8 := Lib.hid (Blk.thru0 HR3.out B8.out)
            have HB8 := Lib.hid (HB3.out.trans (B8.out.mono HB3.out.size))
            clear q0 q1 q2 q3 q4
            have z0 := HR8.out.cell 0
            simp only [List.getElem?_toArray, List.getElem?_cons_zero, List.getElem?_cons_succ] at z0
            by_cases h4 : rr.k = 4
            · have h4b : (rr.k == 4) = true := by simp [h4]
              have hle : za ≤ zb := HUP.out.1 h4
              clear h4
              go_wp2_with fail
              refine (HKW.out _ HB8.out).mono ?_
              rintro e w9 ⟨rfl, hb9⟩
              have HB9 := Lib.hid (HB8.out.trans (hb9.mono HB8.out.size))
              clear hb9
              go_wp2_with fail
              go_ret
              exact ⟨rfl, HB9.out⟩
            · have h4b : (rr.k == 4) = false := beq_eq_false_iff_ne.2 h4
              by_cases h5 : rr.k = 5
              · have h5b : (rr.k == 5) = true := by simp [h5]
                have hle : zb ≤ za := HUP.out.2.1 h5
                clear h4 h5
                go_wp2_with fail
                refine (HKW.out _ HB8.out).mono ?_
                rintro e w9 ⟨rfl, hb9⟩
                have HB9 := Lib.hid (HB8.out.trans (hb9.mono HB8.out.size))
                clear hb9
                go_wp2_with fail
                go_ret
                exact ⟨rfl, HB9.out⟩
              · have h5b : (rr.k == 5) = false := beq_eq_false_iff_ne.2 h5
                have hle : (za == zb) = true := by have := HUP.out.2.2 h4 h5; simp [this]
                clear h4 h5
                go_wp2_with fail
                refine (HKW.out _ HB8.out).mono ?_
                rintro e w9 ⟨rfl, hb9⟩
                have HB9 := Lib.hid (HB8.out.trans (hb9.mono HB8.out.size))
                clear hb9
                go_wp2_with fail
                go_ret
                exact ⟨rfl, HB9.out⟩
end Go.Proofs.YtkpmeelbjldcoaaGreatDoor
