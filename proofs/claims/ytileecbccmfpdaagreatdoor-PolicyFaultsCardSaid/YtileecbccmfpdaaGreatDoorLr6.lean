/- lex: the document's run, skip, Place. -/
import Derived.Test.YtileecbccmfpdaaGreatDoorLr2
namespace Go.Proofs.YtileecbccmfpdaaGreatDoor
set_option linter.unusedVariables false
set_option linter.unusedSimpArgs false
open Go.RowKit
/-- What run counts. -/
def rnd (dg : Bool) (c : UInt8) : Bool := isDg c || (!dg && (isLet c || c.toNat == 45))
theorem rnd_false : rnd false = ofNm := by
  funext c
  unfold rnd ofNm
  cases isDg c <;> cases isLet c <;> simp
theorem rnd_true : rnd true = isDg := by
  funext c
  unfold rnd
  simp
set_option maxRecDepth 100000 in
set_option maxHeartbeats 2000000 in
theorem run_any (s : ByteArray) (at0 : Nat) (dg : Bool) (w : World) (hl : s.size ≤ 512) (ha : at0 ≤ s.size) : Calls Tryz.prog 94 #[.string s, .int .i64 at0, .bool dg] w fun e w' => e = .returned (.int .i64 (((s.data.toList.drop at0).takeWhile (rnd dg)).length : Int)) ∧ w = w' := by
  have HL := Lib.hid (fun c => rletter_any c w)
  have HD := Lib.hid (fun c => rdigit_any c w)
  have HSZ : Hid (s.data.toList.length = s.size) := Lib.hid rfl
  go_enter Tryz.func94, Tryz.ntmps94
  go_wp2_with fail
  go_loopw [7] (fun i wr => ∃ j : Nat, at0 + j ≤ s.size ∧ i = .int .i64 j ∧ Hid (w = wr ∧ ((s.data.toList.drop at0).takeWhile (rnd dg)).length = j + ((s.data.toList.drop (at0 + j)).takeWhile (rnd dg)).length)) (fun i _ => s.size - (intOf i).toNat)
  case atStart => exact ⟨0, by omega, rfl, Lib.hid ⟨rfl, by simp⟩⟩
  case round =>
    obtain ⟨j, hj, rfl, HR⟩ := hrel
    obtain rfl := HR.out.1
    by_cases hlt : at0 + j < s.size
    · have hji : (at0 : Int) + (j : Int) < (s.size : Int) := by omega
      have hnn : (0 : Int) ≤ (at0 : Int) + (j : Int) := by omega
      have htn : ((at0 : Int) + (j : Int)).toNat = at0 + j := by omega
      have hdr : s.data.toList.drop (at0 + j) = s[at0 + j] :: s.data.toList.drop (at0 + j + 1) := List.drop_eq_getElem_cons (by rw [HSZ.out]; exact hlt)
      have hcb : (s[at0 + j].toNat : Int) < 256 := by have := s[at0 + j].toNat_lt; omega
      have HT := Lib.hid (show rnd dg s[at0 + j] = true → ((s.data.toList.drop at0).takeWhile (rnd dg)).length = (j + 1) + ((s.data.toList.drop (at0 + (j + 1))).takeWhile (rnd dg)).length from fun h => by
        have := HR.out.2
        rw [hdr, List.takeWhile_cons_of_pos h] at this
        simp only [List.length_cons] at this
        rw [show at0 + (j + 1) = at0 + j + 1 by omega]
        omega)
      have HF := Lib.hid (show rnd dg s[at0 + j] = false → ((s.data.toList.drop at0).takeWhile (rnd dg)).length = j from fun h => by
        have := HR.out.2
        rw [hdr, List.takeWhile_cons_of_neg (by simp [h])] at this
        simpa using this)
      have HLc := Lib.hid (HL.out s[at0 + j])
      have HDc := Lib.hid (HD.out s[at0 + j])
      have HRN := Lib.hid (show rnd dg s[at0 + j] = (isDg s[at0 + j] || (!dg && (isLet s[at0 + j] || s[at0 + j].toNat == 45))) from rfl)
      have HM := Lib.hid (show (s[at0 + j].toNat == 45) = ((s[at0 + j].toNat : Int) == 45) by rw [Bool.eq_iff_iff, beq_iff_eq, beq_iff_eq]; omega)
      clear hdr HL HD HR
      generalize isDg s[at0 + j] = a at *
      generalize isLet s[at0 + j] = b at *
      generalize rnd dg s[at0 + j] = cc at *
      generalize (s[at0 + j].toNat == 45) = d at *
      cases a with
      | true =>
        have HN := Lib.hid (HT.out (by rw [HRN.out]; rfl))
        go_wp2_with (first
          | (go_at_call 96; refine HDc.out.mono ?_; rintro e w9 ⟨rfl, hw9⟩; subst hw9)
          | (go_at_call 93; refine HLc.out.mono ?_; rintro e w9 ⟨rfl, hw9⟩; subst hw9))
        go_roundw
        case rel => exact ⟨j + 1, by omega, by go_num, Lib.hid ⟨(by first | rfl | trivial), HN.out⟩⟩
        case measure => simp [intOf]; omega
      | false =>
        cases dg with
        | true =>
          have HN := Lib.hid (HF.out (by rw [HRN.out]; rfl))
          go_wp2_with (first
            | (go_at_call 96; refine HDc.out.mono ?_; rintro e w9 ⟨rfl, hw9⟩; subst hw9)
            | (go_at_call 93; refine HLc.out.mono ?_; rintro e w9 ⟨rfl, hw9⟩; subst hw9))
          go_ret
          exact ⟨by rw [HN.out]; rfl, rfl⟩
        | false =>
          cases b with
          | true =>
            have HN := Lib.hid (HT.out (by rw [HRN.out]; rfl))
            go_wp2_with (first
              | (go_at_call 96; refine HDc.out.mono ?_; rintro e w9 ⟨rfl, hw9⟩; subst hw9)
              | (go_at_call 93; refine HLc.out.mono ?_; rintro e w9 ⟨rfl, hw9⟩; subst hw9))
            go_roundw
            case rel => exact ⟨j + 1, by omega, by go_num, Lib.hid ⟨(by first | rfl | trivial), HN.out⟩⟩
            case measure => simp [intOf]; omega
          | false =>
            cases d with
            | true =>
              have hd45 : ((s[at0 + j].toNat : Int) == 45) = true := HM.out.symm
              have HN := Lib.hid (HT.out (by rw [HRN.out]; rfl))
              go_wp2_with (first
                | (go_at_call 96; refine HDc.out.mono ?_; rintro e w9 ⟨rfl, hw9⟩; subst hw9)
                | (go_at_call 93; refine HLc.out.mono ?_; rintro e w9 ⟨rfl, hw9⟩; subst hw9))
              go_roundw
              case rel => exact ⟨j + 1, by omega, by go_num, Lib.hid ⟨(by first | rfl | trivial), HN.out⟩⟩
              case measure => simp [intOf]; omega
            | false =>
              have hd45 : ((s[at0 + j].toNat : Int) == 45) = false := HM.out.symm
              have HN := Lib.hid (HF.out (by rw [HRN.out]; rfl))
              go_wp2_with (first
                | (go_at_call 96; refine HDc.out.mono ?_; rintro e w9 ⟨rfl, hw9⟩; subst hw9)
                | (go_at_call 93; refine HLc.out.mono ?_; rintro e w9 ⟨rfl, hw9⟩; subst hw9))
              go_ret
              exact ⟨by rw [HN.out]; rfl, rfl⟩
    · obtain hje : at0 + j = s.size := by omega
      have hji : (at0 : Int) + (j : Int) = (s.size : Int) := by omega
      have HN := Lib.hid (show ((s.data.toList.drop at0).takeWhile (rnd dg)).length = j by
        have e : s.data.toList.drop (at0 + j) = [] := List.drop_of_length_le (by rw [HSZ.out]; omega)
        have := HR.out.2
        rw [e] at this
        simpa using this)
      have hge : (s.size : Int) ≤ (at0 : Int) + (j : Int) := by omega
      clear HR HL HD
      go_wp2
      go_ret
      exact ⟨by rw [HN.out]; rfl, rfl⟩
/-- Where skip ends: how many bytes it passes. -/
def skn (b : Bool) (l : Bs) : Nat := l.length - (skp b l (1, 1)).1.length
theorem skp_place (b : Bool) (l : Bs) : ∀ p q, (skp b l p).1 = (skp b l q).1 := by
  induction l generalizing b with
  | nil => intro p q; rfl
  | cons c l ih =>
    intro p q
    rw [skp, skp]
    split
    · exact ih _ _ _
    · rfl
theorem skp_advs (b : Bool) (l : Bs) : ∀ p, (skp b l p).2 = advs p (l.take (l.length - (skp b l p).1.length)) := by
  induction l generalizing b with
  | nil => intro p; rfl
  | cons c l ih =>
    intro p
    rw [skp]
    split
    · have hle := skp_len ((b || c.toNat == 35) && !(c.toNat == 10)) l (adv p c)
      rw [ih]
      rw [show (c :: l).length - (skp ((b || c.toNat == 35) && !(c.toNat == 10)) l (adv p c)).1.length = (l.length - (skp ((b || c.toNat == 35) && !(c.toNat == 10)) l (adv p c)).1.length) + 1 by simp only [List.length_cons]; omega]
      rfl
    · simp [advs]
set_option maxRecDepth 100000 in
set_option maxHeartbeats 2000000 in
theorem rskip_any (s : ByteArray) (at0 : Nat) (w : World) (hl : s.size ≤ 512) (ha : at0 ≤ s.size) : Calls Tryz.prog 43 #[.string s, .int .i64 at0] w fun e w' => e = .returned (.int .i64 ((s.size - (skp false (s.data.toList.drop at0) (1, 1)).1.length : Nat) : Int)) ∧ w = w' := by
  have HSZ : Hid (s.data.toList.length = s.size) := Lib.hid rfl
  go_enter Tryz.func43, Tryz.ntmps43
  go_wp2_with fail
  go_loopw [5, 6] (fun i f wr => ∃ (j : Nat) (b : Bool), j ≤ s.size ∧ i = .int .i64 j ∧ f = .bool b ∧ Hid (w = wr ∧ (skp false (s.data.toList.drop at0) (1, 1)).1 = (skp b (s.data.toList.drop j) (1, 1)).1)) (fun i _ _ => s.size - (intOf i).toNat)
  case atStart => exact ⟨at0, false, ha, rfl, rfl, Lib.hid ⟨rfl, rfl⟩⟩
  case round =>
    obtain ⟨j, b, hj, rfl, rfl, HR⟩ := hrel
    obtain rfl := HR.out.1
    by_cases hlt : j < s.size
    · have hji : (j : Int) < (s.size : Int) := by omega
      have hdr : s.data.toList.drop j = s[j] :: s.data.toList.drop (j + 1) := List.drop_eq_getElem_cons (by rw [HSZ.out]; exact hlt)
      have hcb : (s[j].toNat : Int) < 256 := by have := s[j].toNat_lt; omega
      have HT := Lib.hid (show (b || isBl s[j] || s[j].toNat == 35) = true → (skp false (s.data.toList.drop at0) (1, 1)).1 = (skp ((b || s[j].toNat == 35) && !(s[j].toNat == 10)) (s.data.toList.drop (j + 1)) (1, 1)).1 from fun h => by
        rw [HR.out.2, hdr, skp, if_pos h]; exact skp_place _ _ _ _)
      have HF := Lib.hid (show (b || isBl s[j] || s[j].toNat == 35) = false → (skp false (s.data.toList.drop at0) (1, 1)).1.length = s.size - j from fun h => by
        rw [HR.out.2, hdr, skp, if_neg (by simp [h]), ← hdr, List.length_drop, HSZ.out])
      have e32 : (s[j].toNat == 32) = ((s[j].toNat : Int) == 32) := by rw [Bool.eq_iff_iff, beq_iff_eq, beq_iff_eq]; omega
      have e10 : (s[j].toNat == 10) = ((s[j].toNat : Int) == 10) := by rw [Bool.eq_iff_iff, beq_iff_eq, beq_iff_eq]; omega
      have e35 : (s[j].toNat == 35) = ((s[j].toNat : Int) == 35) := by rw [Bool.eq_iff_iff, beq_iff_eq, beq_iff_eq]; omega
      unfold isBl at HT HF
      rw [e32, e10, e35] at HT HF
      have hx : (((s[j].toNat : Int) == 32) = true → ((s[j].toNat : Int) == 10) = false ∧ ((s[j].toNat : Int) == 35) = false) ∧ (((s[j].toNat : Int) == 10) = true → ((s[j].toNat : Int) == 35) = false) := by
        simp only [beq_iff_eq, beq_eq_false_iff_ne]; omega
      have HX := Lib.hid hx
      clear hdr HR e32 e10 e35 hx
      cases h32 : ((s[j].toNat : Int) == 32) <;> cases h10 : ((s[j].toNat : Int) == 10) <;> cases h35 : ((s[j].toNat : Int) == 35) <;> cases b <;> rw [h32, h10, h35] at HT HF HX
      all_goals first
        | (exfalso; have := HX.out; simp at this; done)
        | (have HN := Lib.hid (HT.out rfl)
           go_wp2_with fail
           go_roundw
           case rel => exact ⟨j + 1, _, by omega, by go_num, rfl, Lib.hid ⟨(by first | rfl | trivial), HN.out⟩⟩
           case measure => simp [intOf]; omega)
        | (have HN := Lib.hid (HF.out rfl)
           go_wp2
           go_ret
           refine ⟨?_, rfl⟩
           rw [HN.out, show s.size - (s.size - j) = j by omega]; rfl)
    · obtain rfl : j = s.size := by omega
      have HN := Lib.hid (show (skp false (s.data.toList.drop at0) (1, 1)).1.length = 0 by
        rw [HR.out.2, List.drop_of_length_le (by rw [HSZ.out]; exact Nat.le_refl _)]; cases b <;> rfl)
      clear HR
      go_wp2
      go_ret
      refine ⟨?_, rfl⟩
      rw [HN.out]; rfl
end Go.Proofs.YtileecbccmfpdaaGreatDoor
