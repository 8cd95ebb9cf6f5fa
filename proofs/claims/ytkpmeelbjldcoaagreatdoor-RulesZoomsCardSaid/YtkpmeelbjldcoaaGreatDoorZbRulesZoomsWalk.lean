/- Texts: RulesZoomsWalk. -/
import Derived.Test.YtkpmeelbjldcoaaGreatDoorZbRulesTurnedWalk
import Derived.Test.YtkpmeelbjldcoaaGreatDoorZbRuPM
namespace Go.Proofs.YtkpmeelbjldcoaaGreatDoor
set_option linter.unusedVariables false
set_option linter.unusedSimpArgs false
open Go.RowKit
set_option maxRecDepth 100000 in
set_option maxHeartbeats 16000000 in
theorem rulesZooms_walk (w : World) (v : Value) (acc : List (Rc × RV)) (ro ti la x y : Int) (hk : ∀ W, Vs W → Hs W → Calls Tryz.prog 9 #[] W fun e w' => e = .returned (.bool true) ∧ Below W.heap.size W w') (hV : Vs w) (hs : Hs w) (h : RRd w v acc) :
    Calls Tryz.prog 5 #[v, wV ro ti la x y] w fun e w' => e = .returned (.bool true) ∧ Below w.heap.size w w' := by
  have HKW := Lib.hid (show ∀ W, Below w.heap.size w W → Calls Tryz.prog 9 #[] W fun e w' => e = .returned (.bool true) ∧ Below W.heap.size W w' from fun W hb => hk W (hV.below hb) (hs.low hb))
  obtain ⟨A1, c1, rfl, -, -, -⟩ := id h.1
  have HA := Lib.hid (show Below w.heap.size w (w.alloc (.cells #[.int .i64 ro, .int .i64 ti, .int .i64 la, .int .i64 x, .int .i64 y] 47)) from (Below.refl _ _).alloc (Nat.le_refl _) _)
  have HW := Lib.hid (Blk.new w 47 #[.int .i64 ro, .int .i64 ti, .int .i64 la, .int .i64 x, .int .i64 y])
  have H1 := Lib.hid (h.below HA.out)
  clear h hV hs hk
  simp only [wV]
  go_enter Tryz.func5, Tryz.ntmps5
  go_upto_region 1 with fail
  generalize (w.alloc (.cells #[.int .i64 ro, .int .i64 ti, .int .i64 la, .int .i64 x, .int .i64 y] 47)) = W0 at *
  rcases (show ((100 : Int) < (acc.length : Int)) ∨ ¬ ((100 : Int) < (acc.length : Int)) from by omega) with hgo | hgo
  · go_wp2_with fail
    refine (HKW.out _ HA.out).mono ?_
    rintro e w9 ⟨rfl, hb9⟩
    have HB9 := Lib.hid (HA.out.trans (hb9.mono HA.out.size))
    clear hb9
    go_wp2_with fail
    go_ret
    exact ⟨rfl, HB9.out⟩
  · have q0 : W0.cell? ⟨w.heap.size, 0, none⟩ = some (.int .i64 ro) := HW.out.cell 0
    have q1 : W0.cell? ⟨w.heap.size, 1, none⟩ = some (.int .i64 ti) := HW.out.cell 1
    have q2 : W0.cell? ⟨w.heap.size, 2, none⟩ = some (.int .i64 la) := HW.out.cell 2
    have q3 : W0.cell? ⟨w.heap.size, 3, none⟩ = some (.int .i64 x) := HW.out.cell 3
    have q4 : W0.cell? ⟨w.heap.size, 4, none⟩ = some (.int .i64 y) := HW.out.cell 4
    by_cases hne : acc = []
    · have hl0 : (acc.length : Int) = 0 := by rw [hne]; rfl
      have hl1 : ¬ (0 : Int) < (acc.length : Int) := by omega
      have hl2 : decide ((0 : Int) < (acc.length : Int)) = false := decide_eq_false hl1
      have hl3 : ¬ 0 < acc.length := by omega
      have hl4 : decide (0 < acc.length) = false := decide_eq_false hl3
      clear hl0 hne
      go_upto_region 3 with fail
      go_region
      go_upto_region 4 with fail
      go_region
      go_upto_region 5 with fail
      have HBX := Lib.hid (show Below w.heap.size w W0.drew.drew from HA.out.drew.drew)
      have HWX := Lib.hid (show Blk W0.drew.drew w.heap.size 47 #[.int .i64 ro, .int .i64 ti, .int .i64 la, .int .i64 x, .int .i64 y] from HW.out)
      have HRX := Lib.hid (H1.out.below (show Below W0.heap.size W0 W0.drew.drew from (Below.refl _ _).drew.drew))
      clear q0 q1 q2 q3 q4
      generalize W0.drew.drew = W5 at *
      have HRI := Lib.hid (fun V (hb : Below W5.heap.size W5 V) => rurights_any V _ acc (HRX.out.below hb))
      have HRA := Lib.hid (fun V (hb : Below W5.heap.size W5 V) => rall_any V _ acc (HRX.out.below hb))
      have HZ1 := Lib.hid (fun V (hb : Below W5.heap.size W5 V) => zoom_any V _ acc ro ti la x y (HRX.out.below hb))
      have HZ2 := Lib.hid (fun V (hb : Below W5.heap.size W5 V) => rzoom_any V _ acc ro ti la x y (HRX.out.below hb))
      have HC1 := Lib.hid (fun V (hb : Below W5.heap.size W5 V) => cloaks_any V _ acc ro (HRX.out.below hb))
      have HC2 := Lib.hid (fun V (hb : Below W5.heap.size W5 V) => rcloaks_any V _ acc ro (HRX.out.below hb))
      have HKN := Lib.hid (fun V (hb : Below W5.heap.size W5 V) => HKW.out V (HBX.out.trans (hb.mono HBX.out.size)))
      have HDR := Lib.hid (show Below W5.heap.size W5 W5.drew from below_drew1 (Below.refl _ _))
      have HQ := Lib.hid (show ∀ V, Below W5.heap.size W5 V → V.cell? ⟨w.heap.size, 0, none⟩ = some (.int .i64 ro) ∧ V.cell? ⟨w.heap.size, 1, none⟩ = some (.int .i64 ti) ∧ V.cell? ⟨w.heap.size, 2, none⟩ = some (.int .i64 la) ∧ V.cell? ⟨w.heap.size, 3, none⟩ = some (.int .i64 x) ∧ V.cell? ⟨w.heap.size, 4, none⟩ = some (.int .i64 y) from fun V hb => ⟨(Blk.thru0 HWX.out hb).cell 0, (Blk.thru0 HWX.out hb).cell 1, (Blk.thru0 HWX.out hb).cell 2, (Blk.thru0 HWX.out hb).cell 3, (Blk.thru0 HWX.out hb).cell 4⟩)
      obtain ⟨q0, q1, q2, q3, q4⟩ := HQ.out _ (Below.refl _ _)
      clear HRX HWX HKW HA HW H1
      generalize zoomN acc ro ti la x y = z at *
      have hzz : (z == z) = true := by simp
      generalize rursB acc = ba at *
      generalize cloaksB acc ro = bb at *
      have hbb : (bb == bb) = true := by simp
      have hba : (ba == ba) = true := by simp
      all_goals
        go_region_held3 (fun w' => w'.cell? ⟨w.heap.size, 0, none⟩ = some (.int .i64 ro) ∧ w'.cell? ⟨w.heap.size, 1, none⟩ = some (.int .i64 ti) ∧ w'.cell? ⟨w.heap.size, 2, none⟩ = some (.int .i64 la) ∧ w'.cell? ⟨w.heap.size, 3, none⟩ = some (.int .i64 x) ∧ w'.cell? ⟨w.heap.size, 4, none⟩ = some (.int .i64 y)) (first | (refine ⟨?_, ?_, ?_, ?_, ?_⟩ <;> first | assumption | exact cell_drew (by assumption)) | (go_split_ands; refine ⟨?_, ?_, ?_, ?_, ?_⟩ <;> first | assumption | exact cell_drew (by assumption))) (first | (go_at_call 15; with_reducible refine Calls.mono (HRI.out _ ?_) ?_; (first | exact B8.out | exact below_drew1 B8.out | exact HDR.out | exact Below.refl _ _); rintro e w8 ⟨rfl, hb8⟩; have K1 : Below W5.heap.size W5 w8 := (by first | exact B8.out.trans (hb8.mono B8.out.size) | exact (below_drew1 B8.out).trans (hb8.mono B8.out.size) | exact HDR.out.trans (hb8.mono HDR.out.size) | exact hb8); have B8 := Lib.hid K1; obtain ⟨q0, q1, q2, q3, q4⟩ := HQ.out _ K1; clear hb8 K1) | (go_at_call 18; with_reducible refine Calls.mono (HRA.out _ ?_) ?_; (first | exact B8.out | exact below_drew1 B8.out | exact HDR.out | exact Below.refl _ _); rintro e w8 ⟨rfl, hb8⟩; have K1 : Below W5.heap.size W5 w8 := (by first | exact B8.out.trans (hb8.mono B8.out.size) | exact (below_drew1 B8.out).trans (hb8.mono B8.out.size) | exact HDR.out.trans (hb8.mono HDR.out.size) | exact hb8); have B8 := Lib.hid K1; obtain ⟨q0, q1, q2, q3, q4⟩ := HQ.out _ K1; clear hb8 K1) | (go_at_call 19; with_reducible refine Calls.mono (HZ1.out _ ?_) ?_; (first | exact B8.out | exact below_drew1 B8.out | exact HDR.out | exact Below.refl _ _); rintro e w8 ⟨rfl, hb8⟩; have K1 : Below W5.heap.size W5 w8 := (by first | exact B8.out.trans (hb8.mono B8.out.size) | exact (below_drew1 B8.out).trans (hb8.mono B8.out.size) | exact HDR.out.trans (hb8.mono HDR.out.size) | exact hb8); have B8 := Lib.hid K1; obtain ⟨q0, q1, q2, q3, q4⟩ := HQ.out _ K1; clear hb8 K1) | (go_at_call 20; with_reducible refine Calls.mono (HZ2.out _ ?_) ?_; (first | exact B8.out | exact below_drew1 B8.out | exact HDR.out | exact Below.refl _ _); rintro e w8 ⟨rfl, hb8⟩; have K1 : Below W5.heap.size W5 w8 := (by first | exact B8.out.trans (hb8.mono B8.out.size) | exact (below_drew1 B8.out).trans (hb8.mono B8.out.size) | exact HDR.out.trans (hb8.mono HDR.out.size) | exact hb8); have B8 := Lib.hid K1; obtain ⟨q0, q1, q2, q3, q4⟩ := HQ.out _ K1; clear hb8 K1) | (go_at_call 21; with_reducible refine Calls.mono (HC1.out _ ?_) ?_; (first | exact B8.out | exact below_drew1 B8.out | exact HDR.out | exact Below.refl _ _); rintro e w8 ⟨rfl, hb8⟩; have K1 : Below W5.heap.size W5 w8 := (by first | exact B8.out.trans (hb8.mono B8.out.size) | exact (below_drew1 B8.out).trans (hb8.mono B8.out.size) | exact HDR.out.trans (hb8.mono HDR.out.size) | exact hb8); have B8 := Lib.hid K1; obtain ⟨q0, q1, q2, q3, q4⟩ := HQ.out _ K1; clear hb8 K1) | (go_at_call 22; with_reducible refine Calls.mono (HC2.out _ ?_) ?_; (first | exact B8.out | exact below_drew1 B8.out | exact HDR.out | exact Below.refl _ _); rintro e w8 ⟨rfl, hb8⟩; have K1 : Below W5.heap.size W5 w8 := (by first | exact B8.out.trans (hb8.mono B8.out.size) | exact (below_drew1 B8.out).trans (hb8.mono B8.out.size) | exact HDR.out.trans (hb8.mono HDR.out.size) | exact hb8); have B8 := Lib.hid K1; obtain ⟨q0, q1, q2, q3, q4⟩ := HQ.out _ K1; clear hb8 K1) | (go_at_call 9; with_reducible refine Calls.mono (HKN.out _ ?_) ?_; (first | exact B8.out | exact below_drew1 B8.out | exact HDR.out | exact Below.refl _ _); rintro e w8 ⟨rfl, hb8⟩; have K1 : Below W5.heap.size W5 w8 := (by first | exact B8.out.trans (hb8.mono B8.out.size) | exact (below_drew1 B8.out).trans (hb8.mono B8.out.size) | exact HDR.out.trans (hb8.mono HDR.out.size) | exact hb8); have B8 := Lib.hid K1; obtain ⟨q0, q1, q2, q3, q4⟩ := HQ.out _ K1; clear hb8 K1))
        all_goals
          go_wp2_with fail
          go_ret
          exact ⟨rfl, HBX.out.trans (B8.out.mono HBX.out.size)⟩
    · have hl1 : (0 : Int) < (acc.length : Int) := by have := List.length_pos_iff.2 hne; omega
      have hl2 : decide ((0 : Int) < (acc.length : Int)) = true := decide_eq_true hl1
      have hlN : 0 < acc.length := by omega
      have hl4 : decide (0 < acc.length) = true := decide_eq_true hlN
      clear hne
      have hx : acc[0]? = some acc[0] := List.getElem?_eq_getElem hlN
      obtain ⟨g1, o1, rfl, hc1⟩ := H1.out.1.cell hx
      have HXB := Lib.hid (show ∀ V, Below W0.heap.size W0 V → ERd elR V (acc[0]).2.v (acc[0]).1.bx from fun V hV => (H1.out.2 _ (List.getElem_mem hlN)).below hV)
      have HXC := Lib.hid (show ∀ V, Below W0.heap.size W0 V → ∀ j u, (elRu.enc acc[0])[j]? = some u → V.cell? ⟨g1, o1 + 0 * elRu.k + j, none⟩ = some u from fun V hV j u hu => cell_later hV (hc1 j u hu))
      clear hc1
      generalize acc[0] = a at *
      obtain ⟨r, xA, xn, xc⟩ := a
      simp only [RV.v] at HXB
      have HQ := Lib.hid (show ∀ V, Below W0.heap.size W0 V → V.cell? ⟨g1, o1, none⟩ = some (.int .i64 r.k) ∧ V.cell? ⟨g1, o1 + 1, none⟩ = some (.int .i64 r.roles) ∧ V.cell? ⟨g1, o1 + 2, none⟩ = some (.int .i64 r.lo) ∧ V.cell? ⟨g1, o1 + 3, none⟩ = some (.int .i64 r.hi) ∧ V.cell? ⟨g1, o1 + 4, none⟩ = some (.int .i64 r.labels) ∧ V.cell? ⟨g1, o1 + 5, none⟩ = some (.slice xA xn xc) ∧ V.cell? ⟨g1, o1 + 6, none⟩ = some (.int .i64 r.zoom) ∧ V.cell? ⟨w.heap.size, 0, none⟩ = some (.int .i64 ro) ∧ V.cell? ⟨w.heap.size, 1, none⟩ = some (.int .i64 ti) ∧ V.cell? ⟨w.heap.size, 2, none⟩ = some (.int .i64 la) from fun V hb => by
        have e := HXC.out V hb
        simp only [show elRu.k = 7 from rfl, Nat.zero_mul, Nat.add_zero] at e
        exact ⟨e 0 _ rfl, e 1 _ rfl, e 2 _ rfl, e 3 _ rfl, e 4 _ rfl, e 5 _ rfl, e 6 _ rfl, (Blk.thru0 HW.out hb).cell 0, (Blk.thru0 HW.out hb).cell 1, (Blk.thru0 HW.out hb).cell 2⟩)
      clear HXC hx q0 q1 q2 q3 q4
      obtain ⟨p0, p1, p2, p3, p4, p5, p6, q0, q1, q2⟩ := HQ.out _ (Below.refl _ _)
      have HF1 := Lib.hid fun V (hV : Below W0.heap.size W0 V) => for_any V r _ ro ti la (HXB.out V hV)
      have HF2 := Lib.hid fun V (hV : Below W0.heap.size W0 V) => rfor_any V r _ ro ti la (HXB.out V hV)
      simp only [ruV] at HF1 HF2
      generalize forB r ro ti la = bf at *
      have HDR := Lib.hid (show Below W0.heap.size W0 W0.drew from below_drew1 (Below.refl _ _))
      clear HXB
      have hbf : (bf == bf) = true := by simp
      all_goals
        go_upto_region 3 with fail
        go_region_held3 (fun w' => w'.cell? ⟨g1, o1, none⟩ = some (.int .i64 r.k) ∧ w'.cell? ⟨g1, o1 + 1, none⟩ = some (.int .i64 r.roles) ∧ w'.cell? ⟨g1, o1 + 2, none⟩ = some (.int .i64 r.lo) ∧ w'.cell? ⟨g1, o1 + 3, none⟩ = some (.int .i64 r.hi) ∧ w'.cell? ⟨g1, o1 + 4, none⟩ = some (.int .i64 r.labels) ∧ w'.cell? ⟨g1, o1 + 5, none⟩ = some (.slice xA xn xc) ∧ w'.cell? ⟨g1, o1 + 6, none⟩ = some (.int .i64 r.zoom) ∧ w'.cell? ⟨w.heap.size, 0, none⟩ = some (.int .i64 ro) ∧ w'.cell? ⟨w.heap.size, 1, none⟩ = some (.int .i64 ti) ∧ w'.cell? ⟨w.heap.size, 2, none⟩ = some (.int .i64 la)) (first | (refine ⟨?_, ?_, ?_, ?_, ?_, ?_, ?_, ?_, ?_, ?_⟩ <;> first | assumption | exact cell_drew (by assumption)) | (go_split_ands; refine ⟨?_, ?_, ?_, ?_, ?_, ?_, ?_, ?_, ?_, ?_⟩ <;> first | assumption | exact cell_drew (by assumption))) (first | (go_at_call 16; with_reducible refine Calls.mono (HF1.out _ ?_) ?_; (first | exact B8.out | exact below_drew1 B8.out | exact HDR.out | exact Below.refl _ _); rintro e w8 ⟨rfl, hb8⟩; have K1 : Below W0.heap.size W0 w8 := (by first | exact B8.out.trans (hb8.mono B8.out.size) | exact (below_drew1 B8.out).trans (hb8.mono B8.out.size) | exact HDR.out.trans (hb8.mono HDR.out.size) | exact hb8); have B8 := Lib.hid K1; obtain ⟨p0, p1, p2, p3, p4, p5, p6, q0, q1, q2⟩ := HQ.out _ K1; clear hb8 K1))
        have HDR := Lib.hid (below_drew1 B8.out)
        go_upto_region 4 with fail
        go_region_held3 (fun w' => w'.cell? ⟨g1, o1, none⟩ = some (.int .i64 r.k) ∧ w'.cell? ⟨g1, o1 + 1, none⟩ = some (.int .i64 r.roles) ∧ w'.cell? ⟨g1, o1 + 2, none⟩ = some (.int .i64 r.lo) ∧ w'.cell? ⟨g1, o1 + 3, none⟩ = some (.int .i64 r.hi) ∧ w'.cell? ⟨g1, o1 + 4, none⟩ = some (.int .i64 r.labels) ∧ w'.cell? ⟨g1, o1 + 5, none⟩ = some (.slice xA xn xc) ∧ w'.cell? ⟨g1, o1 + 6, none⟩ = some (.int .i64 r.zoom) ∧ w'.cell? ⟨w.heap.size, 0, none⟩ = some (.int .i64 ro) ∧ w'.cell? ⟨w.heap.size, 1, none⟩ = some (.int .i64 ti) ∧ w'.cell? ⟨w.heap.size, 2, none⟩ = some (.int .i64 la)) (first | (refine ⟨?_, ?_, ?_, ?_, ?_, ?_, ?_, ?_, ?_, ?_⟩ <;> first | assumption | exact cell_drew (by assumption)) | (go_split_ands; refine ⟨?_, ?_, ?_, ?_, ?_, ?_, ?_, ?_, ?_, ?_⟩ <;> first | assumption | exact cell_drew (by assumption))) (first | (go_at_call 17; with_reducible refine Calls.mono (HF2.out _ ?_) ?_; (first | exact B8.out | exact below_drew1 B8.out | exact HDR.out | exact Below.refl _ _); rintro e w8 ⟨rfl, hb8⟩; have K1 : Below W0.heap.size W0 w8 := (by first | exact B8.out.trans (hb8.mono B8.out.size) | exact (below_drew1 B8.out).trans (hb8.mono B8.out.size) | exact HDR.out.trans (hb8.mono HDR.out.size) | exact hb8); have B8 := Lib.hid K1; obtain ⟨p0, p1, p2, p3, p4, p5, p6, q0, q1, q2⟩ := HQ.out _ K1; clear hb8 K1))
        go_upto_region 5 with fail
        have HBX := Lib.hid (HA.out.trans (B8.out.mono HA.out.size))
        have HWX := Lib.hid (Blk.thru0 HW.out B8.out)
        have HRX := Lib.hid (H1.out.below B8.out)
        clear B8 HQ HDR p0 p1 p2 p3 p4 p5 p6 q0 q1 q2 HF1 HF2
        obtain ⟨W5, hW5⟩ : ∃ W5, w8 = W5 := ⟨_, rfl⟩
        subst hW5
        rename World => W5
        have HRI := Lib.hid (fun V (hb : Below W5.heap.size W5 V) => rurights_any V _ acc (HRX.out.below hb))
        have HRA := Lib.hid (fun V (hb : Below W5.heap.size W5 V) => rall_any V _ acc (HRX.out.below hb))
        have HZ1 := Lib.hid (fun V (hb : Below W5.heap.size W5 V) => zoom_any V _ acc ro ti la x y (HRX.out.below hb))
        have HZ2 := Lib.hid (fun V (hb : Below W5.heap.size W5 V) => rzoom_any V _ acc ro ti la x y (HRX.out.below hb))
        have HC1 := Lib.hid (fun V (hb : Below W5.heap.size W5 V) => cloaks_any V _ acc ro (HRX.out.below hb))
        have HC2 := Lib.hid (fun V (hb : Below W5.heap.size W5 V) => rcloaks_any V _ acc ro (HRX.out.below hb))
        have HKN := Lib.hid (fun V (hb : Below W5.heap.size W5 V) => HKW.out V (HBX.out.trans (hb.mono HBX.out.size)))
        have HDR := Lib.hid (show Below W5.heap.size W5 W5.drew from below_drew1 (Below.refl _ _))
        have HQ := Lib.hid (show ∀ V, Below W5.heap.size W5 V → V.cell? ⟨w.heap.size, 0, none⟩ = some (.int .i64 ro) ∧ V.cell? ⟨w.heap.size, 1, none⟩ = some (.int .i64 ti) ∧ V.cell? ⟨w.heap.size, 2, none⟩ = some (.int .i64 la) ∧ V.cell? ⟨w.heap.size, 3, none⟩ = some (.int .i64 x) ∧ V.cell? ⟨w.heap.size, 4, none⟩ = some (.int .i64 y) from fun V hb => ⟨(Blk.thru0 HWX.out hb).cell 0, (Blk.thru0 HWX.out hb).cell 1, (Blk.thru0 HWX.out hb).cell 2, (Blk.thru0 HWX.out hb).cell 3, (Blk.thru0 HWX.out hb).cell 4⟩)
        obtain ⟨q0, q1, q2, q3, q4⟩ := HQ.out _ (Below.refl _ _)
        clear HRX HWX HKW HA HW H1
        generalize zoomN acc ro ti la x y = z at *
        have hzz : (z == z) = true := by simp
        generalize rursB acc = ba at *
        generalize cloaksB acc ro = bb at *
        have hbb : (bb == bb) = true := by simp
        have hba : (ba == ba) = true := by simp
        all_goals
          go_region_held3 (fun w' => w'.cell? ⟨w.heap.size, 0, none⟩ = some (.int .i64 ro) ∧ w'.cell? ⟨w.heap.size, 1, none⟩ = some (.int .i64 ti) ∧ w'.cell? ⟨w.heap.size, 2, none⟩ = some (.int .i64 la) ∧ w'.cell? ⟨w.heap.size, 3, none⟩ = some (.int .i64 x) ∧ w'.cell? ⟨w.heap.size, 4, none⟩ = some (.int .i64 y)) (first | (refine ⟨?_, ?_, ?_, ?_, ?_⟩ <;> first | assumption | exact cell_drew (by assumption)) | (go_split_ands; refine ⟨?_, ?_, ?_, ?_, ?_⟩ <;> first | assumption | exact cell_drew (by assumption))) (first | (go_at_call 15; with_reducible refine Calls.mono (HRI.out _ ?_) ?_; (first | exact B8.out | exact below_drew1 B8.out | exact HDR.out | exact Below.refl _ _); rintro e w8 ⟨rfl, hb8⟩; have K1 : Below W5.heap.size W5 w8 := (by first | exact B8.out.trans (hb8.mono B8.out.size) | exact (below_drew1 B8.out).trans (hb8.mono B8.out.size) | exact HDR.out.trans (hb8.mono HDR.out.size) | exact hb8); have B8 := Lib.hid K1; obtain ⟨q0, q1, q2, q3, q4⟩ := HQ.out _ K1; clear hb8 K1) | (go_at_call 18; with_reducible refine Calls.mono (HRA.out _ ?_) ?_; (first | exact B8.out | exact below_drew1 B8.out | exact HDR.out | exact Below.refl _ _); rintro e w8 ⟨rfl, hb8⟩; have K1 : Below W5.heap.size W5 w8 := (by first | exact B8.out.trans (hb8.mono B8.out.size) | exact (below_drew1 B8.out).trans (hb8.mono B8.out.size) | exact HDR.out.trans (hb8.mono HDR.out.size) | exact hb8); have B8 := Lib.hid K1; obtain ⟨q0, q1, q2, q3, q4⟩ := HQ.out _ K1; clear hb8 K1) | (go_at_call 19; with_reducible refine Calls.mono (HZ1.out _ ?_) ?_; (first | exact B8.out | exact below_drew1 B8.out | exact HDR.out | exact Below.refl _ _); rintro e w8 ⟨rfl, hb8⟩; have K1 : Below W5.heap.size W5 w8 := (by first | exact B8.out.trans (hb8.mono B8.out.size) | exact (below_drew1 B8.out).trans (hb8.mono B8.out.size) | exact HDR.out.trans (hb8.mono HDR.out.size) | exact hb8); have B8 := Lib.hid K1; obtain ⟨q0, q1, q2, q3, q4⟩ := HQ.out _ K1; clear hb8 K1) | (go_at_call 20; with_reducible refine Calls.mono (HZ2.out _ ?_) ?_; (first | exact B8.out | exact below_drew1 B8.out | exact HDR.out | exact Below.refl _ _); rintro e w8 ⟨rfl, hb8⟩; have K1 : Below W5.heap.size W5 w8 := (by first | exact B8.out.trans (hb8.mono B8.out.size) | exact (below_drew1 B8.out).trans (hb8.mono B8.out.size) | exact HDR.out.trans (hb8.mono HDR.out.size) | exact hb8); have B8 := Lib.hid K1; obtain ⟨q0, q1, q2, q3, q4⟩ := HQ.out _ K1; clear hb8 K1) | (go_at_call 21; with_reducible refine Calls.mono (HC1.out _ ?_) ?_; (first | exact B8.out | exact below_drew1 B8.out | exact HDR.out | exact Below.refl _ _); rintro e w8 ⟨rfl, hb8⟩; have K1 : Below W5.heap.size W5 w8 := (by first | exact B8.out.trans (hb8.mono B8.out.size) | exact (below_drew1 B8.out).trans (hb8.mono B8.out.size) | exact HDR.out.trans (hb8.mono HDR.out.size) | exact hb8); have B8 := Lib.hid K1; obtain ⟨q0, q1, q2, q3, q4⟩ := HQ.out _ K1; clear hb8 K1) | (go_at_call 22; with_reducible refine Calls.mono (HC2.out _ ?_) ?_; (first | exact B8.out | exact below_drew1 B8.out | exact HDR.out | exact Below.refl _ _); rintro e w8 ⟨rfl, hb8⟩; have K1 : Below W5.heap.size W5 w8 := (by first | exact B8.out.trans (hb8.mono B8.out.size) | exact (below_drew1 B8.out).trans (hb8.mono B8.out.size) | exact HDR.out.trans (hb8.mono HDR.out.size) | exact hb8); have B8 := Lib.hid K1; obtain ⟨q0, q1, q2, q3, q4⟩ := HQ.out _ K1; clear hb8 K1) | (go_at_call 9; with_reducible refine Calls.mono (HKN.out _ ?_) ?_; (first | exact B8.out | exact below_drew1 B8.out | exact HDR.out | exact Below.refl _ _); rintro e w8 ⟨rfl, hb8⟩; have K1 : Below W5.heap.size W5 w8 := (by first | exact B8.out.trans (hb8.mono B8.out.size) | exact (below_drew1 B8.out).trans (hb8.mono B8.out.size) | exact HDR.out.trans (hb8.mono HDR.out.size) | exact hb8); have B8 := Lib.hid K1; obtain ⟨q0, q1, q2, q3, q4⟩ := HQ.out _ K1; clear hb8 K1))
          all_goals
            go_wp2_with fail
            go_ret
            exact ⟨rfl, HBX.out.trans (B8.out.mono HBX.out.size)⟩
end Go.Proofs.YtkpmeelbjldcoaaGreatDoor
