/- rules: Cloaks, Zoom, by contract. -/
import Derived.Test.YtmgamlpjgghieaaGreatDoorZbRu4
import Derived.Test.YtmgamlpjgghieaaGreatDoorZbGeomM
namespace Go.Proofs.YtmgamlpjgghieaaGreatDoor
set_option linter.unusedVariables false
set_option linter.unusedSimpArgs false
open Go.RowKit
attribute [local go_sem high] run_max2 run_min2
def cloakB (ro : Int) (x : Rc × RV) : Bool := decide (x.1.k = 6) && amongB x.1.roles ro
def cloaksB (acc : List (Rc × RV)) (ro : Int) : Bool := rursB acc && acc.any (cloakB ro)
set_option maxRecDepth 100000 in
set_option maxHeartbeats 4000000 in
theorem cloaks_any (w : World) (v : Value) (acc : List (Rc × RV)) (ro : Int) (h : RRd w v acc) :
    Calls Tryz.prog 41 #[v, .int .i64 ro] w fun e w' => e = .returned (.bool (cloaksB acc ro)) ∧ Below w.heap.size w w' := by
  have HRI := Lib.hid (rurights_any w v acc h)
  obtain ⟨A1, c1, rfl, hl1, hl2, -⟩ := id h.1
  have hl : acc.length ≤ 9223372036854775807 := by unfold maxLen at hl2; omega
  have H1 := Lib.hid h
  have HL := Lib.hid hl
  clear h hl hl1 hl2
  go_enter Tryz.func41, Tryz.ntmps41
  go_wp2_with fail
  refine HRI.out.mono ?_
  rintro e w1 ⟨rfl, hb⟩
  have HB0 := Lib.hid hb
  clear hb HRI
  cases hA : rursB acc with
  | false =>
    have HE := Lib.hid (show cloaksB acc ro = false by unfold cloaksB; rw [hA]; rfl)
    go_wp2_with fail
    go_ret
    exact ⟨by rw [HE.out]; rfl, HB0.out⟩
  | true =>
    have HE := Lib.hid (show cloaksB acc ro = acc.any (cloakB ro) by unfold cloaksB; rw [hA]; rfl)
    have HRT := Lib.hid (show ∀ x ∈ acc, rurB x.1 = true from fun x hx => List.all_eq_true.1 hA x hx)
    clear hA
    go_wp2_with fail
    go_loopw [12] (fun i wr => ∃ k : Nat, k ≤ acc.length ∧ i = .int .i64 k ∧ Hid (Below w.heap.size w wr ∧ (acc.take k).any (cloakB ro) = false)) (fun i _ => acc.length - (intOf i).toNat)
    case atStart => exact ⟨0, by omega, rfl, Lib.hid ⟨HB0.out, by simp⟩⟩
    case round =>
      clear HB0
      obtain ⟨k, hk, rfl, HB⟩ := hrel
      by_cases hlt : k < acc.length
      · skip
        have hki : (k : Int) < (acc.length : Int) := by omega
        have hkb : (k : Int) < 9223372036854775807 := by have := HL.out; omega
        have hx : acc[k]? = some acc[k] := List.getElem?_eq_getElem hlt
        obtain ⟨g1, o1, rfl, hc1⟩ := (H1.out.1.below HB.out.1).cell hx
        have HTK := Lib.hid (show acc.take (k + 1) = acc.take k ++ [acc[k]] from (List.take_append_getElem hlt).symm)
        have HME := Lib.hid (List.getElem_mem hlt)
        have HXB := Lib.hid ((H1.out.2 _ (List.getElem_mem hlt)).below HB.out.1)
        generalize acc[k] = x at *
        obtain ⟨r, xA, xn, xc⟩ := x
        simp only [RV.v] at HXB
        have a0 : wr.cell? ⟨g1, o1 + k * 7, none⟩ = some (.int .i64 r.k) := hc1 0 _ rfl
        have a1 : wr.cell? ⟨g1, o1 + k * 7 + 1, none⟩ = some (.int .i64 r.roles) := hc1 1 _ rfl
        have a2 : wr.cell? ⟨g1, o1 + k * 7 + 2, none⟩ = some (.int .i64 r.lo) := hc1 2 _ rfl
        have a3 : wr.cell? ⟨g1, o1 + k * 7 + 3, none⟩ = some (.int .i64 r.hi) := hc1 3 _ rfl
        have a4 : wr.cell? ⟨g1, o1 + k * 7 + 4, none⟩ = some (.int .i64 r.labels) := hc1 4 _ rfl
        have a5 : wr.cell? ⟨g1, o1 + k * 7 + 5, none⟩ = some (.slice xA xn xc) := hc1 5 _ rfl
        have a6 : wr.cell? ⟨g1, o1 + k * 7 + 6, none⟩ = some (.int .i64 r.zoom) := hc1 6 _ rfl
        have HAB := Lib.hid (show Below wr.heap.size wr (wr.alloc (.cells #[.int .i64 r.k, .int .i64 r.roles, .int .i64 r.lo, .int .i64 r.hi, .int .i64 r.labels, .slice xA xn xc, .int .i64 r.zoom] 59)) from (Below.refl _ _).alloc (Nat.le_refl _) _)
        have HNK := Lib.hid (Blk.new wr 59 #[.int .i64 r.k, .int .i64 r.roles, .int .i64 r.lo, .int .i64 r.hi, .int .i64 r.labels, .slice xA xn xc, .int .i64 r.zoom])
        clear hc1 hx
        have HAL := Lib.hid (show cloakB ro (r, ⟨xA, xn, xc⟩) = true → acc.any (cloakB ro) = true from fun hf => by
          rw [List.any_eq_true]
          exact ⟨_, HME.out, hf⟩)
        have HS := Lib.hid (rur_sums (HRT.out _ HME.out))
        have HAM := Lib.hid (fun W => among_any r.roles ro HS.out.1 W)
        have HB1 := Lib.hid (HB.out.1.trans (HAB.out.mono HB.out.1.size))
        by_cases h6 : r.k = 6
        · have h6b : (r.k == 6) = true := by simp [h6]
          obtain ⟨bb, hbb⟩ : ∃ bb, amongB r.roles ro = bb := ⟨_, rfl⟩
          rw [hbb] at HAM
          have HCB := Lib.hid (show cloakB ro (r, ⟨xA, xn, xc⟩) = bb by unfold cloakB; simp [h6, hbb])
          clear hbb h6
          go_wp2_with fail
          refine (HAM.out _).mono ?_
          rintro e w2 ⟨rfl, hw2⟩
          subst hw2
          clear a0 a1 a2 a3 a4 a5 a6
          cases bb with
          | true =>
            have HF := Lib.hid (HAL.out HCB.out)
            go_wp2_with fail
            go_ret
            exact ⟨by rw [HE.out, HF.out]; rfl, HB1.out⟩
          | false =>
            have HN := Lib.hid (show Below w.heap.size w _ ∧ (acc.take (k + 1)).any (cloakB ro) = false from ⟨HB1.out, by rw [HTK.out, List.any_append, HB.out.2]; simp [HCB.out]⟩)
            go_wp2_with fail
            go_roundw
            case rel => exact ⟨k + 1, by omega, by go_num, HN⟩
            case measure => simp [intOf]; omega
        · have h6b : (r.k == 6) = false := beq_eq_false_iff_ne.2 h6
          have HN := Lib.hid (show Below w.heap.size w _ ∧ (acc.take (k + 1)).any (cloakB ro) = false from ⟨HB1.out, by rw [HTK.out, List.any_append, HB.out.2]; simp [cloakB, h6]⟩)
          clear h6
          go_wp2_with fail
          go_roundw
          case rel => exact ⟨k + 1, by omega, by go_num, HN⟩
          case measure => simp [intOf]; omega
      · obtain rfl : k = acc.length := by omega
        have HF := Lib.hid (show acc.any (cloakB ro) = false by have := HB.out.2; rwa [List.take_length] at this)
        go_wp2_with fail
        go_ret
        exact ⟨by rw [HE.out, HF.out]; rfl, HB.out.1⟩
/-- Zooms: what is allowed, and the most. -/
def zmS (ro ti la x y : Int) (s : Int × Int) (a : Rc × RV) : Int × Int :=
  if (isForB a.1 ro ti la && a.1.bx.any (bxH x y)) = true then (if a.1.k = 4 then (max s.1 a.1.zoom, s.2) else if a.1.k = 5 then (s.1, min s.2 a.1.zoom) else s) else s
def zmF (acc : List (Rc × RV)) (ro ti la x y : Int) : Int × Int := acc.foldl (zmS ro ti la x y) (0, 16)
def zoomN (acc : List (Rc × RV)) (ro ti la x y : Int) : Int := if rursB acc = true then min (zmF acc ro ti la x y).1 (zmF acc ro ti la x y).2 else 0
set_option maxRecDepth 100000 in
set_option maxHeartbeats 8000000 in
theorem zoom_any (w : World) (v : Value) (acc : List (Rc × RV)) (ro ti la x0 y0 : Int) (h : RRd w v acc) :
    Calls Tryz.prog 44 #[v, .int .i64 ro, .int .i64 ti, .int .i64 la, .agg #[.int .i64 x0, .int .i64 y0]] w fun e w' => e = .returned (.int .i64 (zoomN acc ro ti la x0 y0)) ∧ Below w.heap.size w w' := by
  have HA := Lib.hid (show Below w.heap.size w (w.alloc (.cells #[.int .i64 x0, .int .i64 y0] 40)) from (Below.refl _ _).alloc (Nat.le_refl _) _)
  have HP := Lib.hid (Blk.new w 40 #[.int .i64 x0, .int .i64 y0])
  have HRI := Lib.hid (rurights_any _ v acc (h.below HA.out))
  obtain ⟨A1, c1, rfl, hl1, hl2, -⟩ := id h.1
  have hl : acc.length ≤ 9223372036854775807 := by unfold maxLen at hl2; omega
  have H1 := Lib.hid h
  have HL := Lib.hid hl
  clear h hl hl1 hl2
  go_enter Tryz.func44, Tryz.ntmps44
  go_wp2_with fail
  refine HRI.out.mono ?_
  rintro e w1 ⟨rfl, hb⟩
  have HB0 := Lib.hid (HA.out.trans (hb.mono HA.out.size))
  have HP0 := Lib.hid (Blk.thru0 HP.out hb)
  clear hb HRI HA HP
  cases hA : rursB acc with
  | false =>
    have HE := Lib.hid (show zoomN acc ro ti la x0 y0 = 0 by unfold zoomN; rw [hA]; rfl)
    go_wp2_with fail
    go_ret
    exact ⟨by rw [HE.out]; rfl, HB0.out⟩
  | true =>
    have HE := Lib.hid (show zoomN acc ro ti la x0 y0 = min (zmF acc ro ti la x0 y0).1 (zmF acc ro ti la x0 y0).2 by unfold zoomN; rw [if_pos hA])
    have HRT := Lib.hid (show ∀ x ∈ acc, rurB x.1 = true from fun x hx => List.all_eq_true.1 hA x hx)
    clear hA
    go_wp2_with fail
    go_loopw [11, 12, 20] (fun z m i wr => ∃ (k : Nat) (s : Int × Int), k ≤ acc.length ∧ z = .int .i64 s.1 ∧ m = .int .i64 s.2 ∧ i = .int .i64 k ∧ Hid (Below w.heap.size w wr ∧ Blk wr w.heap.size 40 #[.int .i64 x0, .int .i64 y0] ∧ zmF (acc.take k) ro ti la x0 y0 = s)) (fun _ _ i _ => acc.length - (intOf i).toNat)
    case atStart => exact ⟨0, (0, 16), by omega, rfl, rfl, rfl, Lib.hid ⟨HB0.out, HP0.out, rfl⟩⟩
    case round =>
      rename_i wr
      clear HB0 HP0
      obtain ⟨k, s, hk, rfl, rfl, rfl, HB⟩ := hrel
      obtain ⟨s1, s2⟩ := s
      simp only at *
      by_cases hlt : k < acc.length
      · skip
        have hki : (k : Int) < (acc.length : Int) := by omega
        have hkb : (k : Int) < 9223372036854775807 := by have := HL.out; omega
        have hx : acc[k]? = some acc[k] := List.getElem?_eq_getElem hlt
        obtain ⟨g1, o1, rfl, hc1⟩ := (H1.out.1.below HB.out.1).cell hx
        have HTK := Lib.hid (show acc.take (k + 1) = acc.take k ++ [acc[k]] from (List.take_append_getElem hlt).symm)
        have HME := Lib.hid (List.getElem_mem hlt)
        have HXB := Lib.hid ((H1.out.2 _ (List.getElem_mem hlt)).below HB.out.1)
        generalize acc[k] = x at *
        obtain ⟨r, xA, xn, xc⟩ := x
        simp only [RV.v] at HXB
        have a0 : wr.cell? ⟨g1, o1 + k * 7, none⟩ = some (.int .i64 r.k) := hc1 0 _ rfl
        have a1 : wr.cell? ⟨g1, o1 + k * 7 + 1, none⟩ = some (.int .i64 r.roles) := hc1 1 _ rfl
        have a2 : wr.cell? ⟨g1, o1 + k * 7 + 2, none⟩ = some (.int .i64 r.lo) := hc1 2 _ rfl
        have a3 : wr.cell? ⟨g1, o1 + k * 7 + 3, none⟩ = some (.int .i64 r.hi) := hc1 3 _ rfl
        have a4 : wr.cell? ⟨g1, o1 + k * 7 + 4, none⟩ = some (.int .i64 r.labels) := hc1 4 _ rfl
        have a5 : wr.cell? ⟨g1, o1 + k * 7 + 5, none⟩ = some (.slice xA xn xc) := hc1 5 _ rfl
        have a6 : wr.cell? ⟨g1, o1 + k * 7 + 6, none⟩ = some (.int .i64 r.zoom) := hc1 6 _ rfl
        have HAB := Lib.hid (show Below wr.heap.size wr (wr.alloc (.cells #[.int .i64 r.k, .int .i64 r.roles, .int .i64 r.lo, .int .i64 r.hi, .int .i64 r.labels, .slice xA xn xc, .int .i64 r.zoom] 59)) from (Below.refl _ _).alloc (Nat.le_refl _) _)
        have HNK := Lib.hid (Blk.new wr 59 #[.int .i64 r.k, .int .i64 r.roles, .int .i64 r.lo, .int .i64 r.hi, .int .i64 r.labels, .slice xA xn xc, .int .i64 r.zoom])
        clear hc1 hx
        have HS := Lib.hid (rur_sums (HRT.out _ HME.out))
        have HST := Lib.hid (show zmF (acc.take (k + 1)) ro ti la x0 y0 = zmS ro ti la x0 y0 (s1, s2) (r, ⟨xA, xn, xc⟩) by
          have h2 := HB.out.2.2
          unfold zmF at h2 ⊢
          rw [HTK.out, List.foldl_append, h2]
          rfl)
        have z0 := HB.out.2.1.lt
        have HFO := Lib.hid (isfor_any r (.slice xA xn xc) ro ti la HS.out.1 HS.out.2 (wr.alloc (.cells #[.int .i64 r.k, .int .i64 r.roles, .int .i64 r.lo, .int .i64 r.hi, .int .i64 r.labels, .slice xA xn xc, .int .i64 r.zoom] 59)))
        simp only [ruV] at HFO
        have HB1 := Lib.hid (HB.out.1.trans (HAB.out.mono HB.out.1.size))
        have HP1 := Lib.hid (Blk.thru0 HB.out.2.1 HAB.out)
        have HNK1 := Lib.hid HNK.out
        have HXB1 := Lib.hid (HXB.out.below HAB.out)
        go_wp2_with fail
        refine HFO.out.mono ?_
        rintro e w2 ⟨rfl, hb⟩
        have HB2 := Lib.hid (HB1.out.trans (hb.mono HB1.out.size))
        have HP2 := Lib.hid (Blk.thru0 HP1.out hb)
        have HK2 := Lib.hid (Blk.thru0 HNK1.out hb)
        have HXB2 := Lib.hid (HXB1.out.below hb)
        clear hb a0 a1 a2 a3 a4 a5 a6 HFO HB1 HP1 HNK HNK1 HXB1 HAB
        generalize hq : wr.heap.size = q at *
        cases hF : isForB r ro ti la with
        | false =>
          have HN := Lib.hid (show Below w.heap.size w w2 ∧ Blk w2 w.heap.size 40 #[.int .i64 x0, .int .i64 y0] ∧ zmF (acc.take (k + 1)) ro ti la x0 y0 = (s1, s2) from ⟨HB2.out, HP2.out, by rw [HST.out, zmS, hF]; rfl⟩)
          clear hF
          go_wp2_with fail
          go_roundw
          case rel => exact ⟨k + 1, (s1, s2), by omega, rfl, rfl, by go_num, HN⟩
          case measure => simp [intOf]; omega
        | true =>
          have p0 : w2.cell? ⟨w.heap.size, 0, none⟩ = some (.int .i64 x0) := HP2.out.cell 0
          have p1 : w2.cell? ⟨w.heap.size, 1, none⟩ = some (.int .i64 y0) := HP2.out.cell 1
          have x5 := HK2.out.cell 5
          simp only [List.getElem?_toArray, List.getElem?_cons_zero, List.getElem?_cons_succ] at x5
          have HAH := Lib.hid (anyhas_any w2 _ r.bx x0 y0 HXB2.out)
          go_wp2_with fail
          refine HAH.out.mono ?_
          rintro e w3 ⟨rfl, hb⟩
          have HB3 := Lib.hid (HB2.out.trans (hb.mono HB2.out.size))
          have HP3 := Lib.hid (Blk.thru0 HP2.out hb)
          have HK3 := Lib.hid (Blk.thru0 HK2.out hb)
          clear hb p0 p1 x5 HAH HB2 HP2 HK2
          cases hH : r.bx.any (bxH x0 y0) with
          | false =>
            have HN := Lib.hid (show Below w.heap.size w w3 ∧ Blk w3 w.heap.size 40 #[.int .i64 x0, .int .i64 y0] ∧ zmF (acc.take (k + 1)) ro ti la x0 y0 = (s1, s2) from ⟨HB3.out, HP3.out, by rw [HST.out, zmS]; simp only [hF, hH]; rfl⟩)
            clear hF hH
            go_wp2_with fail
            go_roundw
            case rel => exact ⟨k + 1, (s1, s2), by omega, rfl, rfl, by go_num, HN⟩
            case measure => simp [intOf]; omega
          | true =>
            have HZS := Lib.hid (show zmF (acc.take (k + 1)) ro ti la x0 y0 = (if r.k = 4 then (max s1 r.zoom, s2) else if r.k = 5 then (s1, min s2 r.zoom) else (s1, s2)) by rw [HST.out, zmS]; simp only [hF, hH]; rfl)
            clear hF hH HST
            have x0c := HK3.out.cell 0
            have x6 := HK3.out.cell 6
            simp only [List.getElem?_toArray, List.getElem?_cons_zero, List.getElem?_cons_succ] at x0c x6
            by_cases h4 : r.k = 4
            · have h4b : (r.k == 4) = true := by simp [h4]
              have HN := Lib.hid (show Below w.heap.size w w3 ∧ Blk w3 w.heap.size 40 #[.int .i64 x0, .int .i64 y0] ∧ zmF (acc.take (k + 1)) ro ti la x0 y0 = (max s1 r.zoom, s2) from ⟨HB3.out, HP3.out, by rw [HZS.out, if_pos h4]⟩)
              clear h4
              go_wp2_with fail
              go_roundw
              case rel => exact ⟨k + 1, (max s1 r.zoom, s2), by omega, rfl, rfl, by go_num, HN⟩
              case measure => simp [intOf]; omega
            · have h4b : (r.k == 4) = false := beq_eq_false_iff_ne.2 h4
              by_cases h5 : r.k = 5
              · have h5b : (r.k == 5) = true := by simp [h5]
                have HN := Lib.hid (show Below w.heap.size w w3 ∧ Blk w3 w.heap.size 40 #[.int .i64 x0, .int .i64 y0] ∧ zmF (acc.take (k + 1)) ro ti la x0 y0 = (s1, min s2 r.zoom) from ⟨HB3.out, HP3.out, by rw [HZS.out, if_neg h4, if_pos h5]⟩)
                clear h4 h5
                go_wp2_with fail
                go_roundw
                case rel => exact ⟨k + 1, (s1, min s2 r.zoom), by omega, rfl, rfl, by go_num, HN⟩
                case measure => simp [intOf]; omega
              · have h5b : (r.k == 5) = false := beq_eq_false_iff_ne.2 h5
                have HN := Lib.hid (show Below w.heap.size w w3 ∧ Blk w3 w.heap.size 40 #[.int .i64 x0, .int .i64 y0] ∧ zmF (acc.take (k + 1)) ro ti la x0 y0 = (s1, s2) from ⟨HB3.out, HP3.out, by rw [HZS.out, if_neg h4, if_neg h5]⟩)
                clear h4 h5
                go_wp2_with fail
                go_roundw
                case rel => exact ⟨k + 1, (s1, s2), by omega, rfl, rfl, by go_num, HN⟩
                case measure => simp [intOf]; omega
      · obtain rfl : k = acc.length := by omega
        have HF := Lib.hid (show zmF acc ro ti la x0 y0 = (s1, s2) by have := HB.out.2.2; rwa [List.take_length] at this)
        go_wp2_with fail
        go_ret
        exact ⟨by rw [HE.out, HF.out]; rfl, HB.out.1⟩
end Go.Proofs.YtmgamlpjgghieaaGreatDoor
