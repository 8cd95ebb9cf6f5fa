/- lex: the document's number and Place. -/
import Derived.Test.YtileecbccmfpdaaGreatDoorLr6
import Derived.Deep.DeepCutAuto
namespace Go.Proofs.YtileecbccmfpdaaGreatDoor
set_option linter.unusedVariables false
set_option linter.unusedSimpArgs false
open Go.RowKit
def rnum (t : Bs) : Nat := if lead t || decide (5 < t.length) then 65536 else vl t
theorem vl_lt (t : Bs) : digL t → vl t < 10 ^ t.length := by
  refine snoc_ind (P := fun t => digL t → vl t < 10 ^ t.length) (fun _ => by simp [vl]) (fun a c ih hd => ?_) t
  obtain ⟨ha, hc⟩ := digL_snoc hd
  have := ih ha
  have hc2 := (dg_iff c).1 hc
  rw [vl_snoc, List.length_append, List.length_singleton, Nat.pow_succ]
  omega
set_option maxRecDepth 100000 in
set_option maxHeartbeats 2000000 in
theorem rnumber_any (t : Bs) (w : World) (hd : digL t) (hn : t ≠ []) (hl : t.length ≤ 512) : Calls Tryz.prog 97 #[.string (bs t)] w fun e w' => e = .returned (.int .i64 (rnum t : Int)) ∧ w = w' := by
  have HSZ : Hid ((bs t).size = t.length) := Lib.hid (bs_size t)
  have hsz : ((bs t).size : Int) = (t.length : Int) := by rw [bs_size]
  have HDT : Hid ((bs t).data.toList = t) := Lib.hid (bs_data t)
  have HHD := Lib.hid (show lead t = (decide (1 < t.length) && (t.head?.map (·.toNat) == some 48)) from rfl)
  have HRN := Lib.hid (show rnum t = if lead t || decide (5 < t.length) then 65536 else vl t from rfl)
  have hpos : 0 < t.length := List.length_pos_iff.2 hn
  have h0 : 0 < (bs t).size := by rw [bs_size]; exact hpos
  have hh : t.head?.map (·.toNat) = some (bs t)[0].toNat := by
    cases t with
    | nil => exact absurd rfl hn
    | cons c r => rfl
  have HD := Lib.hid hd
  have HHH := Lib.hid hh
  clear hh hd hn
  have hcb : ((bs t)[0].toNat : Int) < 256 := by have := (bs t)[0].toNat_lt; omega
  generalize lead t = ld at *
  by_cases h5 : 5 < t.length
  · have e1 : rnum t = 65536 := by rw [HRN.out, decide_eq_true h5]; simp
    rw [e1]
    have hg5 : (5 : Int) < (t.length : Int) := by omega
    have hg1 : (1 : Int) < (t.length : Int) := by omega
    cases h48 : (((bs t)[0].toNat : Int) == 48) <;>
    · clear HHD HRN e1 HD HHH HDT HSZ
      go_enter Tryz.func97, Tryz.ntmps97
      go_wp2
      go_ret
      exact ⟨rfl, rfl⟩
  · have hg5 : (t.length : Int) ≤ 5 := by omega
    cases ld with
    | true =>
      have e1 : rnum t = 65536 := by rw [HRN.out]; simp
      rw [e1]
      have hld := HHD.out.symm
      simp only [Bool.and_eq_true, decide_eq_true_eq, beq_iff_eq] at hld
      have hg1 : (1 : Int) < (t.length : Int) := by omega
      have h48 : (((bs t)[0].toNat : Int) == 48) = true := by
        have := HHH.out
        rw [hld.2] at this
        simp at this
        exact beq_iff_eq.2 (by omega)
      clear HHD HRN e1 HD HHH HDT HSZ hld
      go_enter Tryz.func97, Tryz.ntmps97
      go_wp2
      go_ret
      exact ⟨rfl, rfl⟩
    | false =>
      have e1 : rnum t = vl t := by rw [HRN.out, decide_eq_false h5]; simp
      rw [e1]
      have hor : (t.length : Int) ≤ 1 ∨ (((1 : Int) < (t.length : Int)) ∧ (((bs t)[0].toNat : Int) == 48) = false) := by
        by_cases h1 : 1 < t.length
        · refine .inr ⟨by omega, beq_eq_false_iff_ne.2 fun e => ?_⟩
          have := HHD.out
          rw [HHH.out, decide_eq_true h1] at this
          simp at this
          omega
        · exact .inl (by omega)
      clear HHD HRN e1 HHH
      rcases hor with hg1 | ⟨hg1, h48⟩
      all_goals
        go_enter Tryz.func97, Tryz.ntmps97
        go_wp2_with fail
        go_loopw [3, 4] (fun n i wr => ∃ j : Nat, j ≤ t.length ∧ i = .int .i64 j ∧ n = .int .i64 (vl (t.take j) : Int) ∧ w = wr) (fun _ i _ => t.length - (intOf i).toNat)
        case atStart => exact ⟨0, by omega, rfl, rfl, rfl⟩
        case round =>
          obtain ⟨j, hj, rfl, rfl, hw9⟩ := hrel
          subst hw9
          by_cases hlt : j < t.length
          · have hji : (j : Int) < (t.length : Int) := by omega
            have hjs : j < (bs t).size := by rw [bs_size]; exact hlt
            have hgt : (bs t)[j] = t[j] := rfl
            have htk : t.take (j + 1) = t.take j ++ [t[j]] := List.take_succ_eq_append_getElem hlt
            have hdg := (dg_iff t[j]).1 (HD.out _ (List.getElem_mem hlt))
            have hbd := vl_lt (t.take j) (fun c hc => HD.out c (List.mem_of_mem_take hc))
            have hpw : 10 ^ (t.take j).length ≤ 10 ^ 5 := Nat.pow_le_pow_right (by decide) (by rw [List.length_take]; omega)
            have HN := Lib.hid (show (vl (t.take (j + 1)) : Int) = 10 * (vl (t.take j) : Int) + (t[j].toNat : Int) - 48 by rw [htk, vl_snoc]; omega)
            have hb1 : (0 : Int) ≤ (vl (t.take j) : Int) ∧ (vl (t.take j) : Int) ≤ 100000 := by omega
            obtain ⟨hb10, hb11⟩ := hb1
            have hc1 : (48 : Int) ≤ (t[j].toNat : Int) ∧ (t[j].toNat : Int) ≤ 57 := by omega
            obtain ⟨hc10, hc11⟩ := hc1
            rw [← hgt] at hc10 hc11 HN
            clear hgt htk hdg hbd hpw
            generalize vl (t.take j) = V at *
            have hq1 : IntKind.i64.wrap (10 * (V : Int)) = 10 * (V : Int) := by rw [IntKind.wrap_i64]; omega
            have hq0 : wrap64 ((bs t)[j].toNat : Int) = ((bs t)[j].toNat : Int) := w64b _
            have hq2 : IntKind.i64.wrap (10 * (V : Int) + ((bs t)[j].toNat : Int)) = 10 * (V : Int) + ((bs t)[j].toNat : Int) := by rw [IntKind.wrap_i64]; omega
            have hq3 : IntKind.i64.wrap (10 * (V : Int) + ((bs t)[j].toNat : Int) - 48) = 10 * (V : Int) + ((bs t)[j].toNat : Int) - 48 := by rw [IntKind.wrap_i64]; omega
            go_wp2_with fail
            go_roundw
            case rel => exact ⟨j + 1, by omega, by go_num, (by first | (rw [HN.out]; done) | (rw [HN.out]; go_num)), (by first | rfl | trivial)⟩
            case measure => simp [intOf]; omega
          · obtain rfl : j = t.length := by omega
            go_wp2
            go_ret
            exact ⟨by rw [List.take_length]; rfl, rfl⟩
theorem advs_bound (l : Bs) : ∀ p : Pl, 1 ≤ p.1 → 1 ≤ p.2 → 1 ≤ (advs p l).1 ∧ (advs p l).1 ≤ p.1 + l.length ∧ 1 ≤ (advs p l).2 ∧ ((advs p l).2 ≤ p.2 + l.length ∨ (advs p l).2 ≤ 1 + l.length) := by
  induction l with
  | nil => intro p h1 h2; simp [advs]; omega
  | cons c l ih =>
    intro p h1 h2
    have e : advs p (c :: l) = advs (adv p c) l := rfl
    rw [e]
    unfold adv
    split
    · have := ih (p.1 + 1, 1) (by simp only; omega) (by simp only; omega)
      simp only [List.length_cons] at this ⊢
      omega
    · have := ih (p.1, p.2 + 1) (by simp only; omega) (by simp only; omega)
      simp only [List.length_cons] at this ⊢
      omega
structure PcSt (w0 : World) (p : Pl) (W : World) : Prop where
  res : Blk W w0.heap.size 25 #[.int .i64 0, .int .i64 0]
  pos : Blk W (w0.heap.size + 1) 25 #[.int .i64 p.1, .int .i64 p.2]
  below : Below w0.heap.size w0 W
set_option maxRecDepth 100000 in
set_option maxHeartbeats 2000000 in
theorem place_any (s : ByteArray) (at0 : Nat) (w : World) (hl : s.size ≤ 140737488355328) (ha : at0 ≤ s.size) : Calls Tryz.prog 17 #[.string s, .int .i64 at0] w fun e w' => e = .returned (.agg #[.int .i64 (advs (1, 1) (s.data.toList.take at0)).1, .int .i64 (advs (1, 1) (s.data.toList.take at0)).2]) ∧ Below w.heap.size w w' := by
  have HSZ : Hid (s.data.toList.length = s.size) := Lib.hid rfl
  have hb2 := blk_two w 25 25 #[.int .i64 0, .int .i64 0] #[.int .i64 1, .int .i64 1]
  have hA : Below w.heap.size w ((w.alloc (.cells #[.int .i64 0, .int .i64 0] 25)).alloc (.cells #[.int .i64 1, .int .i64 1] 25)) := ((Below.refl _ _).alloc (Nat.le_refl _) _).alloc (by simp) _
  have HS0 := Lib.hid (show PcSt w (1, 1) _ from ⟨hb2.1, hb2.2, hA⟩)
  clear hb2 hA
  go_enter Tryz.func17, Tryz.ntmps17
  go_wp2_with fail
  generalize ((w.alloc (.cells #[.int .i64 0, .int .i64 0] 25)).alloc (.cells #[.int .i64 1, .int .i64 1] 25)) = W0 at *
  go_loopw [6] (fun i wr => ∃ j : Nat, j ≤ at0 ∧ i = .int .i64 j ∧ Hid (PcSt w (advs (1, 1) (s.data.toList.take j)) wr)) (fun i _ => at0 - (intOf i).toNat)
  case atStart => exact ⟨0, by omega, rfl, HS0⟩
  case round =>
    obtain ⟨j, hj, rfl, HS⟩ := hrel
    have hbd := advs_bound (s.data.toList.take j) (1, 1) (by decide) (by decide)
    have hln : (s.data.toList.take j).length ≤ 140737488355328 := by rw [List.length_take, HSZ.out]; omega
    have HNX := Lib.hid (fun (h : j < s.size) => show advs (1, 1) (s.data.toList.take (j + 1)) = adv (advs (1, 1) (s.data.toList.take j)) s[j] by
      rw [List.take_succ_eq_append_getElem (show j < s.data.toList.length by rw [HSZ.out]; exact h), advs_app]; rfl)
    generalize hpp : advs (1, 1) (s.data.toList.take j) = p at *
    have HPP := Lib.hid hpp
    clear hpp
    have hp1 : (1 : Int) ≤ p.1 ∧ p.1 ≤ 140737488355330 ∧ (1 : Int) ≤ p.2 ∧ p.2 ≤ 140737488355330 := by simp only at hbd; omega
    obtain ⟨hp10, hp11, hp20, hp21⟩ := hp1
    clear hbd hln
    have k1 : _ = some (Value.int .i64 p.1) := HS.out.pos.cell 0
    have k2 : _ = some (Value.int .i64 p.2) := HS.out.pos.cell 1
    have f1 := HS.out.pos.frozen 0
    have f2 := HS.out.pos.frozen 1
    by_cases hlt : j < at0
    · have hji : (j : Int) < (at0 : Int) := by omega
      have hjs : j < s.size := by omega
      have hjsi : (j : Int) < (s.size : Int) := by omega
      have HN1 := Lib.hid (HNX.out hjs)
      have hcb : (s[j].toNat : Int) < 256 := by have := s[j].toNat_lt; omega
      clear HNX
      by_cases hc : s[j].toNat = 10
      · have hcb2 : ((s[j].toNat : Int) == 10) = true := beq_iff_eq.2 (by omega)
        have HAd := Lib.hid (show adv p s[j] = (p.1 + 1, 1) by rw [adv, if_pos hc])
        clear hc
        go_wp2_with fail
        go_roundw
        case rel =>
          refine ⟨j + 1, by omega, by go_num, Lib.hid ?_⟩
          rw [HN1.out, HAd.out]
          have h1 := (((HS.out.pos.set_ 1 (.int .i64 (p.2 + 1))).set_ 0 (.int .i64 (p.1 + 1))).set_ 1 (.int .i64 1))
          have h2 := ((((HS.out.res.far (p := ⟨w.heap.size + 1, 1, none⟩) (by simp) (.int .i64 (p.2 + 1))).far (p := ⟨w.heap.size + 1, 0, none⟩) (by simp) (.int .i64 (p.1 + 1)))).far (p := ⟨w.heap.size + 1, 1, none⟩) (by simp) (.int .i64 1))
          have h3 := (((HS.out.below.setCell (p := ⟨w.heap.size + 1, 1, none⟩) (by simp) (.int .i64 (p.2 + 1))).setCell (p := ⟨w.heap.size + 1, 0, none⟩) (by simp) (.int .i64 (p.1 + 1))).setCell (p := ⟨w.heap.size + 1, 1, none⟩) (by simp) (.int .i64 1))
          exact ⟨h2, by simpa using h1, h3⟩
        case measure => simp [intOf]; omega
      · have hcb2 : ((s[j].toNat : Int) == 10) = false := beq_eq_false_iff_ne.2 (by omega)
        have HAd := Lib.hid (show adv p s[j] = (p.1, p.2 + 1) by rw [adv, if_neg hc])
        clear hc
        go_wp2_with fail
        go_roundw
        case rel =>
          refine ⟨j + 1, by omega, by go_num, Lib.hid ?_⟩
          rw [HN1.out, HAd.out]
          have h1 := (HS.out.pos.set_ 1 (.int .i64 (p.2 + 1)))
          have h2 := (HS.out.res.far (p := ⟨w.heap.size + 1, 1, none⟩) (by simp) (.int .i64 (p.2 + 1)))
          have h3 := (HS.out.below.setCell (p := ⟨w.heap.size + 1, 1, none⟩) (by simp) (.int .i64 (p.2 + 1)))
          exact ⟨h2, by simpa using h1, h3⟩
        case measure => simp [intOf]; omega
    · obtain rfl : j = at0 := by omega
      have r0 : _ = some (Value.int .i64 0) := HS.out.res.cell 0
      have r1 : _ = some (Value.int .i64 0) := HS.out.res.cell 1
      have g0 := HS.out.res.frozen 0
      have g1 := HS.out.res.frozen 1
      have HBF := Lib.hid ((HS.out.below.setCell (p := ⟨w.heap.size, 0, none⟩) (Nat.le_refl _) (.int .i64 p.1)).setCell (p := ⟨w.heap.size, 1, none⟩) (Nat.le_refl _) (.int .i64 p.2))
      go_wp2_with fail
      refine bodyPost_ret (v := .agg #[.int .i64 p.1, .int .i64 p.2]) ?_ rfl ⟨by rw [HPP.out], HBF.out⟩
      simp [results, Tryz.results17, go_sem, *]
end Go.Proofs.YtileecbccmfpdaaGreatDoor
