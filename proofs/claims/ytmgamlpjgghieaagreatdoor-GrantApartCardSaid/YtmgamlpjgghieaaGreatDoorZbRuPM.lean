/- Texts: RuP, RuQ, RuR, RuS. -/
import Derived.Test.YtmgamlpjgghieaaGreatDoorZbRu7
import Derived.StillTailTactics
namespace Go.Proofs.YtmgamlpjgghieaaGreatDoor
section
set_option linter.unusedVariables false
set_option linter.unusedSimpArgs false
open Go.RowKit
def numB (n : Int) : Bool := decide (0 ≤ n) && decide (n ≤ 7)
theorem rnum7_any (n : Int) (w : World) : Calls Tryz.prog 42 #[.int .i64 n] w fun e w' => e = .returned (.bool (numB n)) ∧ w = w' := by
  unfold numB
  by_cases h : 0 ≤ n
  · go_enter Tryz.func42, Tryz.ntmps42
    go_wp2_with fail
    go_ret
    exact ⟨by simp [h], rfl⟩
  · go_enter Tryz.func42, Tryz.ntmps42
    go_wp2_with fail
    go_ret
    exact ⟨by simp; omega, rfl⟩
theorem two_le (k : Nat) (h : k ≤ 7) : 0 < (2 : Int) ^ k ∧ (2 : Int) ^ k ≤ 128 := by
  match k, h with
  | 0, _ | 1, _ | 2, _ | 3, _ | 4, _ | 5, _ | 6, _ | 7, _ => decide
set_option maxHeartbeats 1000000 in
theorem rtwo_any (n : Int) (h0 : 0 ≤ n) (h7 : n ≤ 7) (w : World) : Calls Tryz.prog 61 #[.int .i64 n] w fun e w' => e = .returned (.int .i64 (2 ^ n.toNat)) ∧ w = w' := by
  obtain ⟨m, rfl⟩ := Int.eq_ofNat_of_zero_le h0
  have hm : m ≤ 7 := by omega
  have HM := Lib.hid hm
  clear h0 h7 hm
  rw [Int.toNat_natCast]
  go_enter Tryz.func61, Tryz.ntmps61
  go_wp2_with fail
  go_loopw [3, 4] (fun p i wr => ∃ k : Nat, k ≤ m ∧ p = .int .i64 (2 ^ k) ∧ i = .int .i64 k ∧ Hid (w = wr)) (fun _ i _ => m - (intOf i).toNat)
  case atStart => exact ⟨0, by omega, rfl, rfl, Lib.hid rfl⟩
  case round =>
    obtain ⟨k, hk, rfl, rfl, HW⟩ := hrel
    by_cases hlt : k < m
    · have hki : (k : Int) < (m : Int) := by omega
      have hkb : (k : Int) < 7 := by have := HM.out; omega
      have h2 := two_le k (by have := HM.out; omega)
      have HS := Lib.hid (show (2 : Int) ^ (k + 1) = 2 * 2 ^ k by rw [Int.pow_succ, Int.mul_comm])
      generalize (2 : Int) ^ k = p at *
      have hwr : IntKind.i64.wrap (2 * p) = 2 * p := by rw [IntKind.wrap_i64]; omega
      go_wp2_with fail
      go_roundw
      case rel => exact ⟨k + 1, by omega, by rw [HS.out], by go_num, HW⟩
      case measure => simp [intOf]; omega
    · obtain rfl : k = m := by omega
      go_wp2_with fail
      go_ret
      exact ⟨rfl, HW.out⟩
set_option maxHeartbeats 1000000 in
theorem rin_any (s n : Int) (h0 : 0 ≤ n) (h7 : n ≤ 7) (w : World) : Calls Tryz.prog 43 #[.int .i64 s, .int .i64 n] w fun e w' => (∃ b, e = .returned (.bool b) ∧ (0 ≤ s ∧ s ≤ 255 → b = inB s n)) ∧ w = w' := by
  have HT := Lib.hid fun W => rtwo_any n h0 h7 W
  have h2 := two_le n.toNat (by omega)
  have HI := Lib.hid (show inB s n = decide (s / 2 ^ n.toNat % 2 = 1) from rfl)
  generalize (2 : Int) ^ n.toNat = p at *
  have hp0 : (p == 0) = false := beq_eq_false_iff_ne.2 (by omega)
  have hp1 : p ≠ 0 := by omega
  go_enter Tryz.func43, Tryz.ntmps43
  go_wp2_with fail
  refine (HT.out _).mono ?_
  rintro e w1 ⟨rfl, hw⟩
  subst hw
  go_wp2_with fail
  go_ret
  refine ⟨⟨_, rfl, fun h => ?_⟩, rfl⟩
  rw [HI.out, Int.tdiv_eq_ediv_of_nonneg h.1]
  have e1 : 0 ≤ s / p := Int.ediv_nonneg h.1 (by omega)
  have e2 : s / p ≤ s := Int.ediv_le_self _ h.1
  have e3 : wrap64 (s / p) = s / p := by unfold wrap64; omega
  rw [e3, Int.tmod_eq_emod_of_nonneg e1]
  rfl
set_option maxRecDepth 100000 in
set_option maxHeartbeats 4000000 in
theorem rall_any (w : World) (v : Value) (acc : List (Rc × RV)) (h : RRd w v acc) :
    Calls Tryz.prog 12 #[v] w fun e w' => e = .returned (.bool (rursB acc)) ∧ Below w.heap.size w w' := by
  obtain ⟨A1, c1, rfl, hl1, hl2, -⟩ := id h.1
  have hl : acc.length ≤ 9223372036854775807 := by unfold maxLen at hl2; omega
  have H1 := Lib.hid h
  have HL := Lib.hid hl
  have HB0 := Lib.hid (Below.refl w.heap.size w)
  clear h hl hl1 hl2
  go_enter Tryz.func12, Tryz.ntmps12
  go_wp2_with fail
  go_loopw [3] (fun i wr => ∃ k : Nat, k ≤ acc.length ∧ i = .int .i64 k ∧ Hid (Below w.heap.size w wr ∧ rursB (acc.take k) = true)) (fun i _ => acc.length - (intOf i).toNat)
  case atStart => exact ⟨0, by omega, rfl, Lib.hid ⟨HB0.out, rfl⟩⟩
  case round =>
    rename_i wr
    clear HB0
    obtain ⟨k, hk, rfl, HB⟩ := hrel
    by_cases hlt : k < acc.length
    · have hki : (k : Int) < (acc.length : Int) := by omega
      have hkb : (k : Int) < 9223372036854775807 := by have := HL.out; omega
      have hx : acc[k]? = some acc[k] := List.getElem?_eq_getElem hlt
      obtain ⟨g1, o1, rfl, hc1⟩ := (H1.out.1.below HB.out.1).cell hx
      have HTK := Lib.hid (show acc.take (k + 1) = acc.take k ++ [acc[k]] from (List.take_append_getElem hlt).symm)
      have HME := Lib.hid (List.getElem_mem hlt)
      have HXB := Lib.hid ((H1.out.2 _ (List.getElem_mem hlt)).below HB.out.1)
      generalize acc[k] = x at *
      obtain ⟨r, xA, xn, xc⟩ := x
      simp only [RV.v] at HXB
      have a0 : wr.cell? ⟨g1, o1 + k * 7, none⟩ = some (.int .i64 r.k) := hc1 0 _ rfl
      have a1 : wr.cell? ⟨g1, o1 + k * 7 + 1, none⟩ = some (.int .i64 r.roles) := hc1 1 _ rfl
      have a2 : wr.cell? ⟨g1, o1 + k * 7 + 2, none⟩ = some (.int .i64 r.lo) := hc1 2 _ rfl
      have a3 : wr.cell? ⟨g1, o1 + k * 7 + 3, none⟩ = some (.int .i64 r.hi) := hc1 3 _ rfl
      have a4 : wr.cell? ⟨g1, o1 + k * 7 + 4, none⟩ = some (.int .i64 r.labels) := hc1 4 _ rfl
      have a5 : wr.cell? ⟨g1, o1 + k * 7 + 5, none⟩ = some (.slice xA xn xc) := hc1 5 _ rfl
      have a6 : wr.cell? ⟨g1, o1 + k * 7 + 6, none⟩ = some (.int .i64 r.zoom) := hc1 6 _ rfl
      have HRR := Lib.hid (rrur_any wr r _ HXB.out)
      simp only [ruV] at HRR
      have HAL := Lib.hid (show rurB r = false → rursB acc = false from fun hf => by
        unfold rursB
        rw [List.all_eq_false]
        exact ⟨_, HME.out, by simp [hf]⟩)
      obtain ⟨bq, hbq⟩ : ∃ bq, rurB r = bq := ⟨_, rfl⟩
      rw [hbq] at HRR
      have HBQ := Lib.hid hbq
      clear hbq hc1 hx
      go_wp2_with fail
      refine HRR.out.mono ?_
      rintro e w1 ⟨rfl, hb⟩
      have HB1 := Lib.hid (HB.out.1.trans (hb.mono HB.out.1.size))
      clear hb a0 a1 a2 a3 a4 a5 a6 HRR
      cases bq with
      | false =>
        have HF := Lib.hid (HAL.out HBQ.out)
        go_wp2_with fail
        go_ret
        exact ⟨by rw [HF.out]; rfl, HB1.out⟩
      | true =>
        have HN := Lib.hid (show Below w.heap.size w w1 ∧ rursB (acc.take (k + 1)) = true from ⟨HB1.out, by rw [HTK.out]; unfold rursB; rw [List.all_append]; have := HB.out.2; unfold rursB at this; rw [this]; simp [HBQ.out]⟩)
        go_wp2_with fail
        go_roundw
        case rel => exact ⟨k + 1, by omega, by go_num, HN⟩
        case measure => simp [intOf]; omega
    · obtain rfl : k = acc.length := by omega
      have HF := Lib.hid (show rursB acc = true by have := HB.out.2; rwa [List.take_length] at this)
      go_wp2_with fail
      go_ret
      exact ⟨by rw [HF.out]; rfl, HB.out.1⟩
set_option maxRecDepth 100000 in
set_option maxHeartbeats 4000000 in
theorem rcloaks_any (w : World) (v : Value) (acc : List (Rc × RV)) (ro : Int) (h : RRd w v acc) :
    Calls Tryz.prog 19 #[v, .int .i64 ro] w fun e w' => e = .returned (.bool (cloaksB acc ro)) ∧ Below w.heap.size w w' := by
  have HRA := Lib.hid (show ∀ W, Below w.heap.size w W → Calls Tryz.prog 12 #[v] W fun e w' => e = .returned (.bool (rursB acc)) ∧ Below W.heap.size W w' from fun W hW => rall_any W v acc (h.below hW))
  obtain ⟨A1, c1, rfl, hl1, hl2, -⟩ := id h.1
  have hl : acc.length ≤ 9223372036854775807 := by unfold maxLen at hl2; omega
  have H1 := Lib.hid h
  have HL := Lib.hid hl
  have HB0 := Lib.hid (Below.refl w.heap.size w)
  have HNO := Lib.hid (fun W => rnum7_any ro W)
  clear h hl hl1 hl2
  go_enter Tryz.func19, Tryz.ntmps19
  go_wp2_with fail
  go_loopw [5] (fun i wr => ∃ k : Nat, k ≤ acc.length ∧ i = .int .i64 k ∧ Hid (w = wr ∧ (rursB acc = true → (acc.take k).any (cloakB ro) = false))) (fun i _ => acc.length - (intOf i).toNat)
  case atStart => exact ⟨0, by omega, rfl, Lib.hid ⟨rfl, fun _ => by simp⟩⟩
  case round =>
    rename_i wr
    clear HB0
    obtain ⟨k, hk, rfl, HB⟩ := hrel
    obtain ⟨rfl, hB⟩ := HB.out
    have HB := Lib.hid hB
    clear hB
    by_cases hlt : k < acc.length
    · have hki : (k : Int) < (acc.length : Int) := by omega
      have hkb : (k : Int) < 9223372036854775807 := by have := HL.out; omega
      have hx : acc[k]? = some acc[k] := List.getElem?_eq_getElem hlt
      obtain ⟨g1, o1, rfl, hc1⟩ := H1.out.1.cell hx
      have HTK := Lib.hid (show acc.take (k + 1) = acc.take k ++ [acc[k]] from (List.take_append_getElem hlt).symm)
      have HME := Lib.hid (List.getElem_mem hlt)
      generalize acc[k] = x at *
      obtain ⟨r, xA, xn, xc⟩ := x
      have a0 : w.cell? ⟨g1, o1 + k * 7, none⟩ = some (.int .i64 r.k) := hc1 0 _ rfl
      have a1 : w.cell? ⟨g1, o1 + k * 7 + 1, none⟩ = some (.int .i64 r.roles) := hc1 1 _ rfl
      have HRT := Lib.hid (show rursB acc = true → (0 ≤ r.roles ∧ r.roles ≤ 255) from fun hA => (rur_sums (List.all_eq_true.1 hA _ HME.out)).1)
      clear hc1 hx
      have HNX := Lib.hid (show (rursB acc = true → cloakB ro (r, ⟨xA, xn, xc⟩) = false) → (rursB acc = true → (acc.take (k + 1)).any (cloakB ro) = false) from fun h9 hA => by rw [HTK.out, List.any_append, HB.out hA]; simp [h9 hA])
      have HYS := Lib.hid (show (rursB acc = true → cloakB ro (r, ⟨xA, xn, xc⟩) = true) → rursB acc = cloaksB acc ro from fun h9 => by
        unfold cloaksB
        cases hA : rursB acc with
        | false => rfl
        | true =>
          have : acc.any (cloakB ro) = true := by
            rw [List.any_eq_true]
            exact ⟨_, HME.out, h9 hA⟩
          rw [this]; rfl)
      by_cases h6 : r.k = 6
      · have h6b : (r.k == 6) = true := by simp [h6]
        cases hn : numB ro with
        | false =>
          rw [hn] at HNO
          have HN := Lib.hid (HNX.out fun hA => by
            have : amongB r.roles ro = false := by
              unfold amongB
              have : withinB ro 7 = numB ro := rfl
              rw [this, hn]; rfl
            simp [cloakB, this])
          clear hn
          go_wp2_with fail
          refine (HNO.out _).mono ?_
          rintro e w2 ⟨rfl, hw2⟩
          subst hw2
          go_wp2_with fail
          go_roundw
          case rel => exact ⟨k + 1, by omega, by go_num, Lib.hid ⟨by trivial, HN.out⟩⟩
          case measure => simp [intOf]; omega
        | true =>
          rw [hn] at HNO
          have hn2 : 0 ≤ ro ∧ ro ≤ 7 := by simpa [numB] using hn
          have HIN := Lib.hid (fun W => rin_any r.roles ro hn2.1 hn2.2 W)
          have HAM := Lib.hid (show ∀ b, (0 ≤ r.roles ∧ r.roles ≤ 255 → b = inB r.roles ro) → rursB acc = true → cloakB ro (r, ⟨xA, xn, xc⟩) = b from fun b hb hA => by
            rw [hb (HRT.out hA)]
            have : withinB ro 7 = numB ro := rfl
            simp [cloakB, h6, amongB, this, hn])
          clear hn hn2 h6
          go_wp2_with fail
          refine (HNO.out _).mono ?_
          rintro e w2 ⟨rfl, hw2⟩
          subst hw2
          go_wp2_with fail
          refine (HIN.out _).mono ?_
          rintro e w2 ⟨⟨b, rfl, hb⟩, hw2⟩
          subst hw2
          have HBB := Lib.hid (HAM.out b hb)
          clear hb a0 a1
          cases b with
          | true =>
            have HE := Lib.hid (HYS.out HBB.out)
            go_wp2_with fail
            refine (HRA.out _ (Below.refl _ _)).mono ?_
            rintro e w3 ⟨rfl, hb3⟩
            have HB3 := Lib.hid hb3
            clear hb3
            go_wp2_with fail
            go_ret
            exact ⟨by first | rfl | (rw [HE.out]; rfl), HB3.out⟩
          | false =>
            have HN := Lib.hid (HNX.out HBB.out)
            go_wp2_with fail
            go_roundw
            case rel => exact ⟨k + 1, by omega, by go_num, Lib.hid ⟨by trivial, HN.out⟩⟩
            case measure => simp [intOf]; omega
      · have h6b : (r.k == 6) = false := beq_eq_false_iff_ne.2 h6
        have HN := Lib.hid (HNX.out fun hA => by simp [cloakB, h6])
        clear h6
        go_wp2_with fail
        go_roundw
        case rel => exact ⟨k + 1, by omega, by go_num, Lib.hid ⟨by trivial, HN.out⟩⟩
        case measure => simp [intOf]; omega
    · obtain rfl : k = acc.length := by omega
      have HF := Lib.hid (show cloaksB acc ro = false by
        unfold cloaksB
        cases hA : rursB acc with
        | false => rfl
        | true =>
          have := HB.out hA
          rw [List.take_length] at this
          rw [this]; rfl)
      go_wp2_with fail
      go_ret
      exact ⟨by rw [HF.out]; rfl, Below.refl _ _⟩
end
section
set_option linter.unusedVariables false
set_option linter.unusedSimpArgs false
open Go.RowKit
theorem inB_zero (n : Int) : inB 0 n = false := by unfold inB; simp
theorem rur_parts {r : Rc} (h : rurB r = true) : ((r.k = 4 ∨ r.k = 5) ∧ 0 ≤ r.lo ∧ r.hi ≤ 7) ∨ (r.k = 6 ∧ r.labels = 0) := by
  unfold rurB at h
  simp only [Bool.and_eq_true] at h
  obtain ⟨_, h⟩ := h
  split at h
  · rename_i hk
    left
    simp only [Bool.and_eq_true, withinB, decide_eq_true_eq] at h
    exact ⟨hk, h.1.1, h.2.1⟩
  · split at h
    · rename_i hk
      right
      simp only [Bool.and_eq_true, decide_eq_true_eq] at h
      exact ⟨hk, h.2.2.1⟩
    · cases h
theorem forB_eq (r : Rc) (ro ti la : Int) : forB r ro ti la = (rurB r && (decide (r.k < 6) && (numB ro && (numB ti && (numB la && (inB r.roles ro && (decide (r.lo ≤ ti) && (decide (ti ≤ r.hi) && inB r.labels la)))))))) := by
  unfold forB
  cases hr : rurB r with
  | false => rfl
  | true =>
    unfold isForB amongB
    have e : ∀ n, withinB n 7 = numB n := fun _ => rfl
    rw [e, e]
    rcases rur_parts hr with ⟨hk, h0, h7⟩ | ⟨hk, hl⟩
    · have h6 : r.k < 6 := by omega
      have hti : r.lo ≤ ti → ti ≤ r.hi → numB ti = true := fun h1 h2 => by simp [numB]; omega
      by_cases h1 : r.lo ≤ ti
      · by_cases h2 : ti ≤ r.hi
        · have h3 := hti h1 h2
          simp only [h6, h1, h2, h3, decide_true, Bool.true_and]
          cases numB ro <;> cases numB la <;> cases inB r.roles ro <;> simp
        · simp [h2]
      · simp [h1]
    · have h6 : ¬ r.k < 6 := by omega
      rw [hl, inB_zero]
      simp [h6]
set_option maxRecDepth 100000 in
set_option maxHeartbeats 8000000 in
theorem rfor_any (w : World) (r : Rc) (bv : Value) (ro ti la : Int) (h : ERd elR w bv r.bx) :
    Calls Tryz.prog 64 #[ruV r bv, .int .i64 ro, .int .i64 ti, .int .i64 la] w fun e w' => e = .returned (.bool (forB r ro ti la)) ∧ Below w.heap.size w w' := by
  obtain ⟨A1, c1, rfl, -, -, -⟩ := id h
  have HA := Lib.hid (show Below w.heap.size w (w.alloc (.cells #[.int .i64 r.k, .int .i64 r.roles, .int .i64 r.lo, .int .i64 r.hi, .int .i64 r.labels, .slice A1 r.bx.length c1, .int .i64 r.zoom] 59)) from (Below.refl _ _).alloc (Nat.le_refl _) _)
  have HK := Lib.hid (Blk.new w 59 #[.int .i64 r.k, .int .i64 r.roles, .int .i64 r.lo, .int .i64 r.hi, .int .i64 r.labels, .slice A1 r.bx.length c1, .int .i64 r.zoom])
  have HRR := Lib.hid (rrur_any _ r _ (h.below HA.out))
  have HEQ := Lib.hid (forB_eq r ro ti la)
  have HN1 := Lib.hid (fun W => rnum7_any ro W)
  have HN2 := Lib.hid (fun W => rnum7_any ti W)
  have HN3 := Lib.hid (fun W => rnum7_any la W)
  have HSU := Lib.hid (show rurB r = true → (0 ≤ r.roles ∧ r.roles ≤ 255) ∧ (0 ≤ r.labels ∧ r.labels ≤ 255) from fun h => rur_sums h)
  clear h
  simp only [ruV] at HRR ⊢
  go_enter Tryz.func64, Tryz.ntmps64
  go_upto_region 1 with fail
  generalize (w.alloc (.cells #[.int .i64 r.k, .int .i64 r.roles, .int .i64 r.lo, .int .i64 r.hi, .int .i64 r.labels, .slice A1 r.bx.length c1, .int .i64 r.zoom] 59)) = W0 at *
  have x0 := HK.out.cell 0
  have x1 := HK.out.cell 1
  have x2 := HK.out.cell 2
  have x3 := HK.out.cell 3
  have x4 := HK.out.cell 4
  have x5 := HK.out.cell 5
  have x6 := HK.out.cell 6
  simp only [List.getElem?_toArray, List.getElem?_cons_zero, List.getElem?_cons_succ] at x0 x1 x2 x3 x4 x5 x6
  cases hr : rurB r with
  | false =>
    rw [hr] at HRR
    have HE := Lib.hid (show forB r ro ti la = false by rw [HEQ.out]; simp [hr])
    clear hr
    go_wp2_with fail
    refine HRR.out.mono ?_
    rintro e w1 ⟨rfl, hb⟩
    have HB1 := Lib.hid (HA.out.trans (hb.mono HA.out.size))
    clear hb x0 x1 x2 x3 x4 x5 x6 HA HK HRR
    go_wp2_with fail
    go_ret
    exact ⟨by first | rfl | (rw [HE.out]; rfl), HB1.out⟩
  | true =>
    rw [hr] at HRR
    have HS := Lib.hid (HSU.out hr)
    have HR1 := Lib.hid hr
    clear hr
    go_wp2_with fail
    refine HRR.out.mono ?_
    rintro e w1 ⟨rfl, hb⟩
    have HB1 := Lib.hid (HA.out.trans (hb.mono HA.out.size))
    have HK1 := Lib.hid (Blk.thru0 HK.out hb)
    clear hb x0 x1 x2 x3 x4 x5 x6 HA HK HRR
    have x0 := HK1.out.cell 0
    have x1 := HK1.out.cell 1
    have x2 := HK1.out.cell 2
    have x3 := HK1.out.cell 3
    have x4 := HK1.out.cell 4
    simp only [List.getElem?_toArray, List.getElem?_cons_zero, List.getElem?_cons_succ] at x0 x1 x2 x3 x4
    rcases (show ¬ r.k < 6 ∨ r.k < 6 from by omega) with h6 | h6
    · skip
      have HE := Lib.hid (show forB r ro ti la = false by rw [HEQ.out]; simp [HR1.out, h6])
      go_wp2_with fail
      go_ret
      exact ⟨by first | rfl | (rw [HE.out]; rfl), HB1.out⟩
    · skip
      cases n1 : numB ro with
      | false =>
        rw [n1] at HN1
        have HE := Lib.hid (show forB r ro ti la = false by rw [HEQ.out]; simp [HR1.out, h6, n1])
        go_wp2_with fail
        refine (HN1.out _).mono ?_
        rintro e w2 ⟨rfl, hw2⟩
        subst hw2
        go_wp2_with fail
        go_ret
        exact ⟨by first | rfl | (rw [HE.out]; rfl), HB1.out⟩
      | true =>
        rw [n1] at HN1
        have HX1 := Lib.hid n1
        go_wp2_with fail
        refine (HN1.out _).mono ?_
        rintro e w2 ⟨rfl, hw2⟩
        subst hw2
        cases n2 : numB ti with
        | false =>
          rw [n2] at HN2
          have HE := Lib.hid (show forB r ro ti la = false by rw [HEQ.out]; simp [HR1.out, h6, n1, n2])
          go_wp2_with fail
          refine (HN2.out _).mono ?_
          rintro e w2 ⟨rfl, hw2⟩
          subst hw2
          go_wp2_with fail
          go_ret
          exact ⟨by first | rfl | (rw [HE.out]; rfl), HB1.out⟩
        | true =>
          rw [n2] at HN2
          have HX2 := Lib.hid n2
          go_wp2_with fail
          refine (HN2.out _).mono ?_
          rintro e w2 ⟨rfl, hw2⟩
          subst hw2
          cases n3 : numB la with
          | false =>
            rw [n3] at HN3
            have HE := Lib.hid (show forB r ro ti la = false by rw [HEQ.out]; simp [HR1.out, h6, n1, n2, n3])
            go_wp2_with fail
            refine (HN3.out _).mono ?_
            rintro e w2 ⟨rfl, hw2⟩
            subst hw2
            go_wp2_with fail
            go_ret
            exact ⟨by first | rfl | (rw [HE.out]; rfl), HB1.out⟩
          | true =>
            rw [n3] at HN3
            have HX3 := Lib.hid n3
            go_wp2_with fail
            refine (HN3.out _).mono ?_
            rintro e w2 ⟨rfl, hw2⟩
            subst hw2
            have hn1 : 0 ≤ ro ∧ ro ≤ 7 := by simpa [numB] using n1
            have HIN1 := Lib.hid (fun W => rin_any r.roles ro hn1.1 hn1.2 W)
            clear hn1
            go_wp2_with fail
            refine (HIN1.out _).mono ?_
            rintro e w2 ⟨⟨b1, rfl, hb1⟩, hw2⟩
            subst hw2
            have i1 := (hb1 HS.out.1).symm
            clear hb1
            cases b1 with
            | false =>
              have HE := Lib.hid (show forB r ro ti la = false by rw [HEQ.out]; simp [HR1.out, h6, n1, n2, n3, i1])
              go_wp2_with fail
              go_ret
              exact ⟨by first | rfl | (rw [HE.out]; rfl), HB1.out⟩
            | true =>
              rcases (show ¬ r.lo ≤ ti ∨ r.lo ≤ ti from by omega) with h7 | h7
              · skip
                have HE := Lib.hid (show forB r ro ti la = false by rw [HEQ.out]; simp [HR1.out, h6, n1, n2, n3, i1, h7])
                go_wp2_with fail
                go_ret
                exact ⟨by first | rfl | (rw [HE.out]; rfl), HB1.out⟩
              · skip
                rcases (show ¬ ti ≤ r.hi ∨ ti ≤ r.hi from by omega) with h8 | h8
                · skip
                  have HE := Lib.hid (show forB r ro ti la = false by rw [HEQ.out]; simp [HR1.out, h6, n1, n2, n3, i1, h7, h8])
                  go_wp2_with fail
                  go_ret
                  exact ⟨by first | rfl | (rw [HE.out]; rfl), HB1.out⟩
                · skip
                  have hn2 : 0 ≤ la ∧ la ≤ 7 := by simpa [numB] using n3
                  have HIN2 := Lib.hid (fun W => rin_any r.labels la hn2.1 hn2.2 W)
                  clear hn2
                  go_wp2_with fail
                  refine (HIN2.out _).mono ?_
                  rintro e w2 ⟨⟨b2, rfl, hb2⟩, hw2⟩
                  subst hw2
                  have i2 := (hb2 HS.out.2).symm
                  clear hb2
                  have HE := Lib.hid (show forB r ro ti la = b2 by rw [HEQ.out]; simp [HR1.out, h6, n1, n2, n3, i1, h7, h8, i2])
                  go_wp2_with fail
                  go_ret
                  exact ⟨by first | rfl | (rw [HE.out]; rfl), HB1.out⟩
end
section
set_option linter.unusedVariables false
set_option linter.unusedSimpArgs false
open Go.RowKit
def for2B (r : Rc) (ro ti la x y : Int) : Bool := forB r ro ti la && (fitsB x y && r.bx.any (bxH x y))
set_option maxRecDepth 100000 in
set_option maxHeartbeats 8000000 in
theorem rfor2_any (w : World) (r : Rc) (bv : Value) (ro ti la x y : Int) (h : ERd elR w bv r.bx) :
    Calls Tryz.prog 45 #[ruV r bv, .int .i64 ro, .int .i64 ti, .int .i64 la, .agg #[.int .i64 x, .int .i64 y]] w fun e w' => e = .returned (.bool (for2B r ro ti la x y)) ∧ Below w.heap.size w w' := by
  obtain ⟨A1, c1, rfl, hl1, hl2, -⟩ := id h
  have hl : r.bx.length ≤ 9223372036854775807 := by unfold maxLen at hl2; omega
  have HL := Lib.hid hl
  have HA := Lib.hid (show Below w.heap.size w ((w.alloc (.cells #[.int .i64 r.k, .int .i64 r.roles, .int .i64 r.lo, .int .i64 r.hi, .int .i64 r.labels, .slice A1 r.bx.length c1, .int .i64 r.zoom] 59)).alloc (.cells #[.int .i64 x, .int .i64 y] 40)) from ((Below.refl _ _).alloc (Nat.le_refl _) _).alloc (by simp) _)
  have HK : Hid (Blk ((w.alloc (.cells #[.int .i64 r.k, .int .i64 r.roles, .int .i64 r.lo, .int .i64 r.hi, .int .i64 r.labels, .slice A1 r.bx.length c1, .int .i64 r.zoom] 59)).alloc (.cells #[.int .i64 x, .int .i64 y] 40)) w.heap.size 59 #[.int .i64 r.k, .int .i64 r.roles, .int .i64 r.lo, .int .i64 r.hi, .int .i64 r.labels, .slice A1 r.bx.length c1, .int .i64 r.zoom]) := Lib.hid ((Blk.new w 59 _).alloc _)
  have HP : Hid (Blk ((w.alloc (.cells #[.int .i64 r.k, .int .i64 r.roles, .int .i64 r.lo, .int .i64 r.hi, .int .i64 r.labels, .slice A1 r.bx.length c1, .int .i64 r.zoom] 59)).alloc (.cells #[.int .i64 x, .int .i64 y] 40)) (w.heap.size + 1) 40 #[.int .i64 x, .int .i64 y]) := Lib.hid (Blk.newAt (by simp))
  have HRR := Lib.hid (rfor_any _ r _ ro ti la (h.below HA.out))
  have H1 := Lib.hid h
  have HFI := Lib.hid (fun W => ref_fits x y W)
  clear h hl1 hl2 hl
  simp only [ruV] at HRR ⊢
  go_enter Tryz.func45, Tryz.ntmps45
  go_upto_region 1 with fail
  generalize ((w.alloc (.cells #[.int .i64 r.k, .int .i64 r.roles, .int .i64 r.lo, .int .i64 r.hi, .int .i64 r.labels, .slice A1 r.bx.length c1, .int .i64 r.zoom] 59)).alloc (.cells #[.int .i64 x, .int .i64 y] 40)) = W0 at *
  have x0 := HK.out.cell 0
  have x1 := HK.out.cell 1
  have x2 := HK.out.cell 2
  have x3 := HK.out.cell 3
  have x4 := HK.out.cell 4
  have x5 := HK.out.cell 5
  have x6 := HK.out.cell 6
  simp only [List.getElem?_toArray, List.getElem?_cons_zero, List.getElem?_cons_succ] at x0 x1 x2 x3 x4 x5 x6
  cases hf : forB r ro ti la with
  | false =>
    rw [hf] at HRR
    have HE := Lib.hid (show for2B r ro ti la x y = false by unfold for2B; rw [hf]; rfl)
    clear hf
    go_wp2_with fail
    refine HRR.out.mono ?_
    rintro e w1 ⟨rfl, hb⟩
    have HB1 := Lib.hid (HA.out.trans (hb.mono HA.out.size))
    clear hb
    go_wp2_with fail
    go_ret
    exact ⟨by rw [HE.out]; rfl, HB1.out⟩
  | true =>
    rw [hf] at HRR
    have HE := Lib.hid (show for2B r ro ti la x y = (fitsB x y && r.bx.any (bxH x y)) by unfold for2B; rw [hf]; rfl)
    clear hf
    go_wp2_with fail
    refine HRR.out.mono ?_
    rintro e w1 ⟨rfl, hb⟩
    have HB1 := Lib.hid (HA.out.trans (hb.mono HA.out.size))
    have HK1 := Lib.hid (Blk.thru0 HK.out hb)
    have HP1 := Lib.hid (Blk.thru0 HP.out hb)
    clear hb x0 x1 x2 x3 x4 x5 x6 HA HK HP HRR
    have y0 := HP1.out.cell 0
    have y1 := HP1.out.cell 1
    simp only [List.getElem?_toArray, List.getElem?_cons_zero, List.getElem?_cons_succ] at y0 y1
    cases hg : fitsB x y with
    | false =>
      rw [hg] at HFI
      have HE2 := Lib.hid (show for2B r ro ti la x y = false by rw [HE.out, hg]; rfl)
      clear hg
      go_wp2_with fail
      refine (HFI.out _).mono ?_
      rintro e w2 ⟨rfl, hb⟩
      have HB2 := Lib.hid (HB1.out.trans (hb.mono HB1.out.size))
      clear hb
      go_wp2_with fail
      go_ret
      exact ⟨by rw [HE2.out]; rfl, HB2.out⟩
    | true =>
      rw [hg] at HFI
      have HE2 := Lib.hid (show for2B r ro ti la x y = r.bx.any (bxH x y) by rw [HE.out, hg]; rfl)
      clear hg
      go_wp2_with fail
      refine (HFI.out _).mono ?_
      rintro e w2 ⟨rfl, hb⟩
      have HB2 := Lib.hid (HB1.out.trans (hb.mono HB1.out.size))
      have HK2 := Lib.hid (Blk.thru0 HK1.out hb)
      have HP2 := Lib.hid (Blk.thru0 HP1.out hb)
      clear hb y0 y1 HB1 HK1 HP1 HFI
      go_wp2_with fail
      go_loopw [11] (fun i wr => ∃ j : Nat, j ≤ r.bx.length ∧ i = .int .i64 j ∧ Hid (Below w.heap.size w wr ∧ Blk wr w.heap.size 59 #[.int .i64 r.k, .int .i64 r.roles, .int .i64 r.lo, .int .i64 r.hi, .int .i64 r.labels, .slice A1 r.bx.length c1, .int .i64 r.zoom] ∧ Blk wr (w.heap.size + 1) 40 #[.int .i64 x, .int .i64 y] ∧ (r.bx.take j).any (bxH x y) = false)) (fun i _ => r.bx.length - (intOf i).toNat)
      case atStart => exact ⟨0, by omega, rfl, Lib.hid ⟨HB2.out, HK2.out, HP2.out, by simp⟩⟩
      case round =>
        rename_i wr
        clear HB2 HK2 HP2
        obtain ⟨j, hj, rfl, HS⟩ := hrel
        have x5 := HS.out.2.1.cell 5
        have y0 := HS.out.2.2.1.cell 0
        have y1 := HS.out.2.2.1.cell 1
        simp only [List.getElem?_toArray, List.getElem?_cons_zero, List.getElem?_cons_succ] at x5 y0 y1
        by_cases hlt : j < r.bx.length
        · have hki : (j : Int) < (r.bx.length : Int) := by omega
          have hkb : (j : Int) < 9223372036854775807 := by have := HL.out; omega
          have hx : r.bx[j]? = some r.bx[j] := List.getElem?_eq_getElem hlt
          obtain ⟨g1, o1, rfl, hc1⟩ := (H1.out.below HS.out.1).cell hx
          have HTK := Lib.hid (show r.bx.take (j + 1) = r.bx.take j ++ [r.bx[j]] from (List.take_append_getElem hlt).symm)
          have HAL := Lib.hid (show bxH x y r.bx[j] = true → r.bx.any (bxH x y) = true from fun hf => by
            rw [List.any_eq_true]
            exact ⟨r.bx[j], List.getElem_mem hlt, hf⟩)
          generalize r.bx[j] = b at *
          have a0 : wr.cell? ⟨g1, o1 + j * 4, none⟩ = some (.int .i64 b.x0) := hc1 0 _ rfl
          have a1 : wr.cell? ⟨g1, o1 + j * 4 + 1, none⟩ = some (.int .i64 b.y0) := hc1 1 _ rfl
          have a2 : wr.cell? ⟨g1, o1 + j * 4 + 2, none⟩ = some (.int .i64 b.x1) := hc1 2 _ rfl
          have a3 : wr.cell? ⟨g1, o1 + j * 4 + 3, none⟩ = some (.int .i64 b.y1) := hc1 3 _ rfl
          clear hc1 hx
          have HHA := Lib.hid (fun W => ref_has b.x0 b.y0 b.x1 b.y1 x y W)
          rw [show hasB b.x0 b.y0 b.x1 b.y1 x y = bxH x y b from rfl] at HHA
          obtain ⟨bq, hbq⟩ : ∃ bq, bxH x y b = bq := ⟨_, rfl⟩
          rw [hbq] at HHA
          have HBQ := Lib.hid hbq
          clear hbq
          go_upto_region 6 with fail
          go_still_tail 6, (by kernel_rfl)
          change wpList _ _ _ _ _ wr.drew
          have HDR := Lib.hid (show Below w.heap.size w wr.drew from HS.out.1.drew)
          have HDK := Lib.hid (show Blk wr.drew w.heap.size 59 _ from HS.out.2.1)
          have HDP := Lib.hid (show Blk wr.drew (w.heap.size + 1) 40 _ from HS.out.2.2.1)
          have HSB := Lib.hid HS.out.2.2.2
          clear a0 a1 a2 a3 x5 y0 y1 HS
          generalize wr.drew = W5 at *
          go_wp2_with fail
          refine (HHA.out _).mono ?_
          rintro e w6 ⟨rfl, hb⟩
          have HB6 := Lib.hid (HDR.out.trans (hb.mono HDR.out.size))
          have HK6 := Lib.hid (Blk.thru0 HDK.out hb)
          have HP6 := Lib.hid (Blk.thru0 HDP.out hb)
          clear hb HDR HDK HDP HHA
          cases bq with
          | true =>
            have HF := Lib.hid (HAL.out HBQ.out)
            go_wp2_with fail
            go_ret
            exact ⟨by rw [HE2.out, HF.out]; rfl, HB6.out⟩
          | false =>
            have HN := Lib.hid (show Below w.heap.size w w6 ∧ Blk w6 w.heap.size 59 _ ∧ Blk w6 (w.heap.size + 1) 40 _ ∧ (r.bx.take (j + 1)).any (bxH x y) = false from ⟨HB6.out, HK6.out, HP6.out, by rw [HTK.out, List.any_append, HSB.out]; simp [HBQ.out]⟩)
            go_wp2_with fail
            go_roundw
            case rel => exact ⟨j + 1, by omega, by go_num, HN⟩
            case measure => simp [intOf]; omega
        · obtain rfl : j = r.bx.length := by omega
          have HF := Lib.hid (show r.bx.any (bxH x y) = false by have := HS.out.2.2.2; rwa [List.take_length] at this)
          have HB := Lib.hid HS.out.1
          go_wp2_with fail
          go_ret
          exact ⟨by rw [HE2.out, HF.out]; rfl, HB.out⟩
end
section
set_option linter.unusedVariables false
set_option linter.unusedSimpArgs false
open Go.RowKit
theorem bxH_fits {x y : Int} {b : Bx} (h : bxH x y b = true) : fitsB x y = true := by
  simp only [bxH, hasB, fitsB, decide_eq_true_eq] at *
  omega
theorem for2_eq {r : Rc} (hr : rurB r = true) (ro ti la x y : Int) : for2B r ro ti la x y = (isForB r ro ti la && r.bx.any (bxH x y)) := by
  unfold for2B forB
  rw [hr, Bool.true_and]
  cases h : r.bx.any (bxH x y) with
  | false => simp
  | true =>
    obtain ⟨b, _, hb⟩ := List.any_eq_true.1 h
    rw [bxH_fits hb]; simp
theorem zmF_snoc (l : List (Rc × RV)) (a : Rc × RV) (ro ti la x y : Int) : zmF (l ++ [a]) ro ti la x y = zmS ro ti la x y (zmF l ro ti la x y) a := by unfold zmF; rw [List.foldl_append]; rfl
theorem zmS_1 (ro ti la x y : Int) (s : Int × Int) (a : Rc × RV) (hr : rurB a.1 = true) : (zmS ro ti la x y s a).1 = if a.1.k = 4 ∧ for2B a.1 ro ti la x y = true then max s.1 a.1.zoom else s.1 := by
  rw [for2_eq hr]
  unfold zmS
  by_cases h4 : a.1.k = 4
  · cases h : (isForB a.1 ro ti la && a.1.bx.any (bxH x y)) <;> simp [h4]
  · by_cases h5 : a.1.k = 5
    · cases h : (isForB a.1 ro ti la && a.1.bx.any (bxH x y)) <;> simp [h5]
    · cases h : (isForB a.1 ro ti la && a.1.bx.any (bxH x y)) <;> simp [h4, h5]
theorem zmS_2 (ro ti la x y : Int) (s : Int × Int) (a : Rc × RV) (hr : rurB a.1 = true) : (zmS ro ti la x y s a).2 = if a.1.k = 5 ∧ for2B a.1 ro ti la x y = true then min s.2 a.1.zoom else s.2 := by
  rw [for2_eq hr]
  unfold zmS
  by_cases h4 : a.1.k = 4
  · cases h : (isForB a.1 ro ti la && a.1.bx.any (bxH x y)) <;> simp [h4]
  · by_cases h5 : a.1.k = 5
    · cases h : (isForB a.1 ro ti la && a.1.bx.any (bxH x y)) <;> simp [h5]
    · cases h : (isForB a.1 ro ti la && a.1.bx.any (bxH x y)) <;> simp [h4, h5]
theorem rur_zoom {r : Rc} (h : rurB r = true) : r.zoom ≤ 16 := by
  unfold rurB at h
  simp only [Bool.and_eq_true] at h
  obtain ⟨_, h⟩ := h
  split at h
  · simp only [Bool.and_eq_true, withinB, decide_eq_true_eq] at h
    exact h.2.2.2.2.2
  · split at h
    · simp only [Bool.and_eq_true, decide_eq_true_eq] at h
      omega
    · cases h
theorem zmF_le (ro ti la x y : Int) : ∀ (l : List (Rc × RV)), (∀ a ∈ l, rurB a.1 = true) → (zmF l ro ti la x y).1 ≤ 16 := by
  intro l hl
  have h : ∀ (m : List (Rc × RV)) (s : Int × Int), s.1 ≤ 16 → (∀ a ∈ m, rurB a.1 = true) → (m.foldl (zmS ro ti la x y) s).1 ≤ 16 := by
    intro m
    induction m with
    | nil => intro s hs _; exact hs
    | cons a r ih =>
      intro s hs hm
      rw [List.foldl_cons]
      refine ih _ ?_ (fun b hb => hm b (List.mem_cons_of_mem _ hb))
      have ha := hm a List.mem_cons_self
      rw [zmS_1 _ _ _ _ _ _ _ ha]
      have := rur_zoom ha
      split <;> omega
  exact h l _ (by decide) hl
/-- One step of the first loop, and of the second. -/
theorem step_1 (l : List (Rc × RV)) (a : Rc × RV) (ro ti la x y : Int) (hr : rurB a.1 = true) : (zmF (l ++ [a]) ro ti la x y).1 = if a.1.k = 4 ∧ (zmF l ro ti la x y).1 < a.1.zoom ∧ for2B a.1 ro ti la x y = true then a.1.zoom else (zmF l ro ti la x y).1 := by
  rw [zmF_snoc, zmS_1 _ _ _ _ _ _ _ hr]
  by_cases h4 : a.1.k = 4 <;> by_cases hz : (zmF l ro ti la x y).1 < a.1.zoom <;> cases h : for2B a.1 ro ti la x y <;> simp [h4, hz] <;> omega
theorem step_2 (z : Int) (l : List (Rc × RV)) (a : Rc × RV) (ro ti la x y : Int) (hr : rurB a.1 = true) : min z (zmF (l ++ [a]) ro ti la x y).2 = if a.1.k = 5 ∧ a.1.zoom < min z (zmF l ro ti la x y).2 ∧ for2B a.1 ro ti la x y = true then a.1.zoom else min z (zmF l ro ti la x y).2 := by
  rw [zmF_snoc, zmS_2 _ _ _ _ _ _ _ hr]
  by_cases h4 : a.1.k = 5 <;> by_cases hz : a.1.zoom < min z (zmF l ro ti la x y).2 <;> cases h : for2B a.1 ro ti la x y <;> simp [h4, hz] <;> omega
set_option maxRecDepth 100000 in
set_option maxHeartbeats 16000000 in
theorem rzoom_any (w : World) (v : Value) (acc : List (Rc × RV)) (ro ti la x y : Int) (h : RRd w v acc) :
    Calls Tryz.prog 21 #[v, .int .i64 ro, .int .i64 ti, .int .i64 la, .agg #[.int .i64 x, .int .i64 y]] w fun e w' => e = .returned (.int .i64 (zoomN acc ro ti la x y)) ∧ Below w.heap.size w w' := by
  have HA := Lib.hid (show Below w.heap.size w (w.alloc (.cells #[.int .i64 x, .int .i64 y] 40)) from (Below.refl _ _).alloc (Nat.le_refl _) _)
  have HP := Lib.hid (Blk.new w 40 #[.int .i64 x, .int .i64 y])
  have HRI := Lib.hid (rall_any _ v acc (h.below HA.out))
  obtain ⟨A1, c1, rfl, hl1, hl2, -⟩ := id h.1
  have hl : acc.length ≤ 9223372036854775807 := by unfold maxLen at hl2; omega
  have H1 := Lib.hid h
  have HL := Lib.hid hl
  clear h hl hl1 hl2
  go_enter Tryz.func21, Tryz.ntmps21
  go_wp2_with fail
  refine HRI.out.mono ?_
  rintro e w1 ⟨rfl, hb⟩
  have HB0 := Lib.hid (HA.out.trans (hb.mono HA.out.size))
  have HP0 := Lib.hid (Blk.thru0 HP.out hb)
  clear hb HRI HA HP
  cases hA : rursB acc with
  | false =>
    have HE := Lib.hid (show zoomN acc ro ti la x y = 0 by unfold zoomN; rw [hA]; rfl)
    go_wp2_with fail
    go_ret
    exact ⟨by rw [HE.out]; rfl, HB0.out⟩
  | true =>
    have HE := Lib.hid (show zoomN acc ro ti la x y = min (zmF acc ro ti la x y).1 (zmF acc ro ti la x y).2 by unfold zoomN; rw [if_pos hA])
    have HRT := Lib.hid (show ∀ a ∈ acc, rurB a.1 = true from fun a ha => List.all_eq_true.1 hA a ha)
    clear hA
    go_wp2_with fail
    go_loopw [11, 12] (fun z i wr => ∃ (k : Nat) (s : Int), k ≤ acc.length ∧ z = .int .i64 s ∧ i = .int .i64 k ∧ Hid (Below w.heap.size w wr ∧ Blk wr w.heap.size 40 #[.int .i64 x, .int .i64 y] ∧ (zmF (acc.take k) ro ti la x y).1 = s)) (fun _ i _ => acc.length - (intOf i).toNat)
    case atStart => exact ⟨0, 0, by omega, rfl, rfl, Lib.hid ⟨HB0.out, HP0.out, rfl⟩⟩
    case round =>
      rename_i wr
      clear HB0 HP0
      obtain ⟨k, s, hk, rfl, rfl, HS⟩ := hrel
      by_cases hlt : k < acc.length
      · have hki : (k : Int) < (acc.length : Int) := by omega
        have hkb : (k : Int) < 9223372036854775807 := by have := HL.out; omega
        have hx : acc[k]? = some acc[k] := List.getElem?_eq_getElem hlt
        obtain ⟨g1, o1, rfl, hc1⟩ := (H1.out.1.below HS.out.1).cell hx
        have HTK := Lib.hid (show acc.take (k + 1) = acc.take k ++ [acc[k]] from (List.take_append_getElem hlt).symm)
        have HRX := Lib.hid (HRT.out _ (List.getElem_mem hlt))
        have HXB := Lib.hid (show ∀ W, Below w.heap.size w W → ERd elR W (acc[k]).2.v (acc[k]).1.bx from fun W hW => (H1.out.2 _ (List.getElem_mem hlt)).below hW)
        generalize acc[k] = a at *
        obtain ⟨r, xA, xn, xc⟩ := a
        simp only [RV.v] at HXB HRX
        have a0 : wr.cell? ⟨g1, o1 + k * 7, none⟩ = some (.int .i64 r.k) := hc1 0 _ rfl
        have a1 : wr.cell? ⟨g1, o1 + k * 7 + 1, none⟩ = some (.int .i64 r.roles) := hc1 1 _ rfl
        have a2 : wr.cell? ⟨g1, o1 + k * 7 + 2, none⟩ = some (.int .i64 r.lo) := hc1 2 _ rfl
        have a3 : wr.cell? ⟨g1, o1 + k * 7 + 3, none⟩ = some (.int .i64 r.hi) := hc1 3 _ rfl
        have a4 : wr.cell? ⟨g1, o1 + k * 7 + 4, none⟩ = some (.int .i64 r.labels) := hc1 4 _ rfl
        have a5 : wr.cell? ⟨g1, o1 + k * 7 + 5, none⟩ = some (.slice xA xn xc) := hc1 5 _ rfl
        have a6 : wr.cell? ⟨g1, o1 + k * 7 + 6, none⟩ = some (.int .i64 r.zoom) := hc1 6 _ rfl
        have HQ := Lib.hid (show ∀ W, Below w.heap.size w W → Blk W w.heap.size 40 #[.int .i64 x, .int .i64 y] → W.cell? ⟨g1, o1 + k * 7, none⟩ = some (.int .i64 r.k) ∧ W.cell? ⟨g1, o1 + k * 7 + 1, none⟩ = some (.int .i64 r.roles) ∧ W.cell? ⟨g1, o1 + k * 7 + 2, none⟩ = some (.int .i64 r.lo) ∧ W.cell? ⟨g1, o1 + k * 7 + 3, none⟩ = some (.int .i64 r.hi) ∧ W.cell? ⟨g1, o1 + k * 7 + 4, none⟩ = some (.int .i64 r.labels) ∧ W.cell? ⟨g1, o1 + k * 7 + 5, none⟩ = some (.slice xA xn xc) ∧ W.cell? ⟨g1, o1 + k * 7 + 6, none⟩ = some (.int .i64 r.zoom) ∧ W.cell? ⟨w.heap.size, 0, none⟩ = some (.int .i64 x) ∧ W.cell? ⟨w.heap.size, 1, none⟩ = some (.int .i64 y) from fun W hW hP => by
          obtain ⟨g2, o2, e2, hc2⟩ := (H1.out.1.below hW).cell hx
          simp only [Option.some.injEq, Addr.mk.injEq, and_true] at e2
          obtain ⟨rfl, rfl⟩ := e2
          exact ⟨hc2 0 _ rfl, hc2 1 _ rfl, hc2 2 _ rfl, hc2 3 _ rfl, hc2 4 _ rfl, hc2 5 _ rfl, hc2 6 _ rfl, hP.cell 0, hP.cell 1⟩)
        have y0 := HS.out.2.1.cell 0
        have y1 := HS.out.2.1.cell 1
        simp only [List.getElem?_toArray, List.getElem?_cons_zero, List.getElem?_cons_succ] at y0 y1
        have HST := Lib.hid (step_1 (acc.take k) (r, (⟨xA, xn, xc⟩ : RV)) ro ti la x y HRX.out)
        rw [← HTK.out] at HST
        clear hc1 hx
        have HDB := Lib.hid (show Below w.heap.size w wr.drew from HS.out.1.drew)
        have HDP := Lib.hid (show Blk wr.drew w.heap.size 40 #[.int .i64 x, .int .i64 y] from HS.out.2.1)
        rw [HS.out.2.2] at HST
        rcases (show ¬ r.k = 4 ∨ r.k = 4 from by omega) with h4 | h4
        · have h4b : (r.k == 4) = false := beq_eq_false_iff_ne.2 h4
          have HH := Lib.hid h4
          go_upto_region 7 with fail
          go_region
          clear a0 a1 a2 a3 a4 a5 a6 y0 y1 HS
          generalize wr.drew = W5 at *
          have HN := Lib.hid (show Below w.heap.size w W5 ∧ Blk W5 w.heap.size 40 #[.int .i64 x, .int .i64 y] ∧ _ = s from ⟨HDB.out, HDP.out, HST.out.trans (if_neg (fun h9 => HH.out h9.1))⟩)
          go_wp2_with fail
          go_roundw
          case rel => exact ⟨k + 1, s, by omega, by go_num, by go_num, HN⟩
          case measure => simp [intOf]; omega
        · have h4b : (r.k == 4) = true := by simp [h4]
          rcases (show ¬ s < r.zoom ∨ s < r.zoom from by omega) with h5 | h5
          · have h5b : decide (s < r.zoom) = false := decide_eq_false h5
            have HH := Lib.hid h5
            go_upto_region 7 with fail
            go_region
            clear a0 a1 a2 a3 a4 a5 a6 y0 y1 HS
            generalize wr.drew = W5 at *
            have HN := Lib.hid (show Below w.heap.size w W5 ∧ Blk W5 w.heap.size 40 #[.int .i64 x, .int .i64 y] ∧ _ = s from ⟨HDB.out, HDP.out, HST.out.trans (if_neg (fun h9 => HH.out h9.2.1))⟩)
            go_wp2_with fail
            go_roundw
            case rel => exact ⟨k + 1, s, by omega, by go_num, by go_num, HN⟩
            case measure => simp [intOf]; omega
          · have h5b : decide (s < r.zoom) = true := decide_eq_true h5
            have HH := Lib.hid (And.intro h4 h5)
            clear h4
            go_upto_region 7 with fail
            have HF2 := Lib.hid fun W (hW : Below w.heap.size w W) => rfor2_any W r _ ro ti la x y (HXB.out W hW)
            simp only [ruV] at HF2
            obtain ⟨bq, hbq⟩ : ∃ bq, for2B r ro ti la x y = bq := ⟨_, rfl⟩
            rw [hbq] at HF2
            have HBQ := Lib.hid hbq
            clear hbq
            have V0 := Lib.hid HS.out.1
            have HDN := Lib.hid (show ∀ W', Below wr.drew.heap.size wr.drew W' → Below w.heap.size w W' ∧ Blk W' w.heap.size 40 #[.int .i64 x, .int .i64 y] from fun W' hb => ⟨HDB.out.trans (hb.mono HDB.out.size), Blk.thru0 HDP.out hb⟩)
            go_region_held3 (fun w' => w'.cell? ⟨g1, o1 + k * 7, none⟩ = some (.int .i64 r.k) ∧ w'.cell? ⟨g1, o1 + k * 7 + 1, none⟩ = some (.int .i64 r.roles) ∧ w'.cell? ⟨g1, o1 + k * 7 + 2, none⟩ = some (.int .i64 r.lo) ∧ w'.cell? ⟨g1, o1 + k * 7 + 3, none⟩ = some (.int .i64 r.hi) ∧ w'.cell? ⟨g1, o1 + k * 7 + 4, none⟩ = some (.int .i64 r.labels) ∧ w'.cell? ⟨g1, o1 + k * 7 + 5, none⟩ = some (.slice xA xn xc) ∧ w'.cell? ⟨g1, o1 + k * 7 + 6, none⟩ = some (.int .i64 r.zoom) ∧ w'.cell? ⟨w.heap.size, 0, none⟩ = some (.int .i64 x) ∧ w'.cell? ⟨w.heap.size, 1, none⟩ = some (.int .i64 y)) (first | (with_reducible exact HQ.out _ HB6.out HP6.out) | (refine ⟨?_, ?_, ?_, ?_, ?_, ?_, ?_, ?_, ?_⟩ <;> first | assumption | go_keep) | (go_split_ands; refine ⟨?_, ?_, ?_, ?_, ?_, ?_, ?_, ?_, ?_⟩ <;> first | assumption | go_keep)) (first | (go_at_call 45; with_reducible refine Calls.mono (HF2.out _ ?_) ?_; (first | exact V0.out.drew | exact V0.out); rintro e w6 ⟨rfl, hb⟩; have HB6 := Lib.hid (HDN.out _ hb).1; have HP6 := Lib.hid (HDN.out _ hb).2; obtain ⟨a0, a1, a2, a3, a4, a5, a6, y0, y1⟩ := HQ.out _ HB6.out HP6.out; clear hb))
            clear a0 a1 a2 a3 a4 a5 y0 y1 HS HDB HDP HF2
            cases bq with
            | true =>
              have HN := Lib.hid (show Below w.heap.size w w6 ∧ Blk w6 w.heap.size 40 #[.int .i64 x, .int .i64 y] ∧ _ = r.zoom from ⟨HB6.out, HP6.out, HST.out.trans (if_pos ⟨HH.out.1, HH.out.2, HBQ.out⟩)⟩)
              go_wp2_with fail
              go_roundw
              case rel => exact ⟨k + 1, r.zoom, by omega, by go_num, by go_num, HN⟩
              case measure => simp [intOf]; omega
            | false =>
              have HN := Lib.hid (show Below w.heap.size w w6 ∧ Blk w6 w.heap.size 40 #[.int .i64 x, .int .i64 y] ∧ _ = s from ⟨HB6.out, HP6.out, HST.out.trans (if_neg (fun h9 => by have := h9.2.2; rw [HBQ.out] at this; cases this))⟩)
              go_wp2_with fail
              go_roundw
              case rel => exact ⟨k + 1, s, by omega, by go_num, by go_num, HN⟩
              case measure => simp [intOf]; omega
      · obtain rfl : k = acc.length := by omega
        have HZ := Lib.hid (show (zmF acc ro ti la x y).1 = s by have := HS.out.2.2; rwa [List.take_length] at this)
        have HZL := Lib.hid (show s ≤ 16 by rw [← HZ.out]; exact zmF_le ro ti la x y acc HRT.out)
        rw [HZ.out] at HE
        have HB0 := Lib.hid HS.out.1
        have HP0 := Lib.hid HS.out.2.1
        generalize s = z1 at *
        clear HS
        go_wp2_with fail
        go_loopw [11, 13] (fun z i wr => ∃ (k : Nat) (s : Int), k ≤ acc.length ∧ z = .int .i64 s ∧ i = .int .i64 k ∧ Hid (Below w.heap.size w wr ∧ Blk wr w.heap.size 40 #[.int .i64 x, .int .i64 y] ∧ min z1 (zmF (acc.take k) ro ti la x y).2 = s)) (fun _ i _ => acc.length - (intOf i).toNat)
        case atStart => exact ⟨0, z1, by omega, rfl, rfl, Lib.hid ⟨HB0.out, HP0.out, by have := HZL.out; show min z1 16 = z1; omega⟩⟩
        case round =>
          rename_i wr
          clear HB0 HP0
          obtain ⟨k, s, hk, rfl, rfl, HS⟩ := hrel
          by_cases hlt : k < acc.length
          · have hki : (k : Int) < (acc.length : Int) := by omega
            have hkb : (k : Int) < 9223372036854775807 := by have := HL.out; omega
            have hx : acc[k]? = some acc[k] := List.getElem?_eq_getElem hlt
            obtain ⟨g1, o1, rfl, hc1⟩ := (H1.out.1.below HS.out.1).cell hx
            have HTK := Lib.hid (show acc.take (k + 1) = acc.take k ++ [acc[k]] from (List.take_append_getElem hlt).symm)
            have HRX := Lib.hid (HRT.out _ (List.getElem_mem hlt))
            have HXB := Lib.hid (show ∀ W, Below w.heap.size w W → ERd elR W (acc[k]).2.v (acc[k]).1.bx from fun W hW => (H1.out.2 _ (List.getElem_mem hlt)).below hW)
            generalize acc[k] = a at *
            obtain ⟨r, xA, xn, xc⟩ := a
            simp only [RV.v] at HXB HRX
            have a0 : wr.cell? ⟨g1, o1 + k * 7, none⟩ = some (.int .i64 r.k) := hc1 0 _ rfl
            have a1 : wr.cell? ⟨g1, o1 + k * 7 + 1, none⟩ = some (.int .i64 r.roles) := hc1 1 _ rfl
            have a2 : wr.cell? ⟨g1, o1 + k * 7 + 2, none⟩ = some (.int .i64 r.lo) := hc1 2 _ rfl
            have a3 : wr.cell? ⟨g1, o1 + k * 7 + 3, none⟩ = some (.int .i64 r.hi) := hc1 3 _ rfl
            have a4 : wr.cell? ⟨g1, o1 + k * 7 + 4, none⟩ = some (.int .i64 r.labels) := hc1 4 _ rfl
            have a5 : wr.cell? ⟨g1, o1 + k * 7 + 5, none⟩ = some (.slice xA xn xc) := hc1 5 _ rfl
            have a6 : wr.cell? ⟨g1, o1 + k * 7 + 6, none⟩ = some (.int .i64 r.zoom) := hc1 6 _ rfl
            have HQ := Lib.hid (show ∀ W, Below w.heap.size w W → Blk W w.heap.size 40 #[.int .i64 x, .int .i64 y] → W.cell? ⟨g1, o1 + k * 7, none⟩ = some (.int .i64 r.k) ∧ W.cell? ⟨g1, o1 + k * 7 + 1, none⟩ = some (.int .i64 r.roles) ∧ W.cell? ⟨g1, o1 + k * 7 + 2, none⟩ = some (.int .i64 r.lo) ∧ W.cell? ⟨g1, o1 + k * 7 + 3, none⟩ = some (.int .i64 r.hi) ∧ W.cell? ⟨g1, o1 + k * 7 + 4, none⟩ = some (.int .i64 r.labels) ∧ W.cell? ⟨g1, o1 + k * 7 + 5, none⟩ = some (.slice xA xn xc) ∧ W.cell? ⟨g1, o1 + k * 7 + 6, none⟩ = some (.int .i64 r.zoom) ∧ W.cell? ⟨w.heap.size, 0, none⟩ = some (.int .i64 x) ∧ W.cell? ⟨w.heap.size, 1, none⟩ = some (.int .i64 y) from fun W hW hP => by
              obtain ⟨g2, o2, e2, hc2⟩ := (H1.out.1.below hW).cell hx
              simp only [Option.some.injEq, Addr.mk.injEq, and_true] at e2
              obtain ⟨rfl, rfl⟩ := e2
              exact ⟨hc2 0 _ rfl, hc2 1 _ rfl, hc2 2 _ rfl, hc2 3 _ rfl, hc2 4 _ rfl, hc2 5 _ rfl, hc2 6 _ rfl, hP.cell 0, hP.cell 1⟩)
            have y0 := HS.out.2.1.cell 0
            have y1 := HS.out.2.1.cell 1
            simp only [List.getElem?_toArray, List.getElem?_cons_zero, List.getElem?_cons_succ] at y0 y1
            have HST := Lib.hid (step_2 z1 (acc.take k) (r, (⟨xA, xn, xc⟩ : RV)) ro ti la x y HRX.out)
            rw [← HTK.out] at HST
            clear hc1 hx
            have HDB := Lib.hid (show Below w.heap.size w wr.drew from HS.out.1.drew)
            have HDP := Lib.hid (show Blk wr.drew w.heap.size 40 #[.int .i64 x, .int .i64 y] from HS.out.2.1)
            rw [HS.out.2.2] at HST
            rcases (show ¬ r.k = 5 ∨ r.k = 5 from by omega) with h4 | h4
            · have h4b : (r.k == 5) = false := beq_eq_false_iff_ne.2 h4
              have HH := Lib.hid h4
              go_upto_region 12 with fail
              go_region
              clear a0 a1 a2 a3 a4 a5 a6 y0 y1 HS
              generalize wr.drew = W5 at *
              have HN := Lib.hid (show Below w.heap.size w W5 ∧ Blk W5 w.heap.size 40 #[.int .i64 x, .int .i64 y] ∧ _ = s from ⟨HDB.out, HDP.out, HST.out.trans (if_neg (fun h9 => HH.out h9.1))⟩)
              go_wp2_with fail
              go_roundw
              case rel => exact ⟨k + 1, s, by omega, by go_num, by go_num, HN⟩
              case measure => simp [intOf]; omega
            · have h4b : (r.k == 5) = true := by simp [h4]
              rcases (show ¬ r.zoom < s ∨ r.zoom < s from by omega) with h5 | h5
              · have h5b : decide (r.zoom < s) = false := decide_eq_false h5
                have HH := Lib.hid h5
                go_upto_region 12 with fail
                go_region
                clear a0 a1 a2 a3 a4 a5 a6 y0 y1 HS
                generalize wr.drew = W5 at *
                have HN := Lib.hid (show Below w.heap.size w W5 ∧ Blk W5 w.heap.size 40 #[.int .i64 x, .int .i64 y] ∧ _ = s from ⟨HDB.out, HDP.out, HST.out.trans (if_neg (fun h9 => HH.out h9.2.1))⟩)
                go_wp2_with fail
                go_roundw
                case rel => exact ⟨k + 1, s, by omega, by go_num, by go_num, HN⟩
                case measure => simp [intOf]; omega
              · have h5b : decide (r.zoom < s) = true := decide_eq_true h5
                have HH := Lib.hid (And.intro h4 h5)
                clear h4
                go_upto_region 12 with fail
                have HF2 := Lib.hid fun W (hW : Below w.heap.size w W) => rfor2_any W r _ ro ti la x y (HXB.out W hW)
                simp only [ruV] at HF2
                obtain ⟨bq, hbq⟩ : ∃ bq, for2B r ro ti la x y = bq := ⟨_, rfl⟩
                rw [hbq] at HF2
                have HBQ := Lib.hid hbq
                clear hbq
                have V0 := Lib.hid HS.out.1
                have HDN := Lib.hid (show ∀ W', Below wr.drew.heap.size wr.drew W' → Below w.heap.size w W' ∧ Blk W' w.heap.size 40 #[.int .i64 x, .int .i64 y] from fun W' hb => ⟨HDB.out.trans (hb.mono HDB.out.size), Blk.thru0 HDP.out hb⟩)
                go_region_held3 (fun w' => w'.cell? ⟨g1, o1 + k * 7, none⟩ = some (.int .i64 r.k) ∧ w'.cell? ⟨g1, o1 + k * 7 + 1, none⟩ = some (.int .i64 r.roles) ∧ w'.cell? ⟨g1, o1 + k * 7 + 2, none⟩ = some (.int .i64 r.lo) ∧ w'.cell? ⟨g1, o1 + k * 7 + 3, none⟩ = some (.int .i64 r.hi) ∧ w'.cell? ⟨g1, o1 + k * 7 + 4, none⟩ = some (.int .i64 r.labels) ∧ w'.cell? ⟨g1, o1 + k * 7 + 5, none⟩ = some (.slice xA xn xc) ∧ w'.cell? ⟨g1, o1 + k * 7 + 6, none⟩ = some (.int .i64 r.zoom) ∧ w'.cell? ⟨w.heap.size, 0, none⟩ = some (.int .i64 x) ∧ w'.cell? ⟨w.heap.size, 1, none⟩ = some (.int .i64 y)) (first | (with_reducible exact HQ.out _ HB6.out HP6.out) | (refine ⟨?_, ?_, ?_, ?_, ?_, ?_, ?_, ?_, ?_⟩ <;> first | assumption | go_keep) | (go_split_ands; refine ⟨?_, ?_, ?_, ?_, ?_, ?_, ?_, ?_, ?_⟩ <;> first | assumption | go_keep)) (first | (go_at_call 45; with_reducible refine Calls.mono (HF2.out _ ?_) ?_; (first | exact V0.out.drew | exact V0.out); rintro e w6 ⟨rfl, hb⟩; have HB6 := Lib.hid (HDN.out _ hb).1; have HP6 := Lib.hid (HDN.out _ hb).2; obtain ⟨a0, a1, a2, a3, a4, a5, a6, y0, y1⟩ := HQ.out _ HB6.out HP6.out; clear hb))
                clear a0 a1 a2 a3 a4 a5 y0 y1 HS HDB HDP HF2
                cases bq with
                | true =>
                  have HN := Lib.hid (show Below w.heap.size w w6 ∧ Blk w6 w.heap.size 40 #[.int .i64 x, .int .i64 y] ∧ _ = r.zoom from ⟨HB6.out, HP6.out, HST.out.trans (if_pos ⟨HH.out.1, HH.out.2, HBQ.out⟩)⟩)
                  go_wp2_with fail
                  go_roundw
                  case rel => exact ⟨k + 1, r.zoom, by omega, by go_num, by go_num, HN⟩
                  case measure => simp [intOf]; omega
                | false =>
                  have HN := Lib.hid (show Below w.heap.size w w6 ∧ Blk w6 w.heap.size 40 #[.int .i64 x, .int .i64 y] ∧ _ = s from ⟨HB6.out, HP6.out, HST.out.trans (if_neg (fun h9 => by have := h9.2.2; rw [HBQ.out] at this; cases this))⟩)
                  go_wp2_with fail
                  go_roundw
                  case rel => exact ⟨k + 1, s, by omega, by go_num, by go_num, HN⟩
                  case measure => simp [intOf]; omega
          · obtain rfl : k = acc.length := by omega
            have HZ2 := Lib.hid (show min z1 (zmF acc ro ti la x y).2 = s by have := HS.out.2.2; rwa [List.take_length] at this)
            have HB := Lib.hid HS.out.1
            clear HS
            go_wp2_with fail
            go_ret
            exact ⟨by rw [HE.out, HZ2.out]; rfl, HB.out⟩
end
end Go.Proofs.YtmgamlpjgghieaaGreatDoor
