/- lex: the document's letter, digit, run, Word, Name. -/
import Derived.Test.YtileecbccmfpdaaGreatDoorLx11
namespace Go.Proofs.YtileecbccmfpdaaGreatDoor
set_option linter.unusedVariables false
set_option linter.unusedSimpArgs false
open Go.RowKit
theorem rletter_any (c : UInt8) (w : World) : Calls Tryz.prog 93 #[.int .u8 (c.toNat : Int)] w fun e w' => e = .returned (.bool (isLet c)) ∧ w = w' := by
  have hc : (c.toNat : Int) < 256 := by have := c.toNat_lt; omega
  have HS := Lib.hid (show isLet c = (decide ((97 : Int) ≤ (c.toNat : Int)) && decide ((c.toNat : Int) ≤ 122)) by
    unfold isLet; congr 1 <;> exact decide_eq_decide.2 (by omega))
  by_cases h1 : (97 : Int) ≤ (c.toNat : Int)
  · have d1 : decide ((97 : Int) ≤ (c.toNat : Int)) = true := decide_eq_true h1
    by_cases h2 : (c.toNat : Int) ≤ 122
    · have d2 : decide ((c.toNat : Int) ≤ 122) = true := decide_eq_true h2
      go_enter Tryz.func93, Tryz.ntmps93
      go_wp2
      go_ret
      exact ⟨by rw [HS.out, d1, d2]; simp [d1, d2], rfl⟩
    · have d2 : decide ((c.toNat : Int) ≤ 122) = false := decide_eq_false h2
      go_enter Tryz.func93, Tryz.ntmps93
      go_wp2
      go_ret
      exact ⟨by rw [HS.out, d1, d2]; simp [d1, d2], rfl⟩
  · have d1 : decide ((97 : Int) ≤ (c.toNat : Int)) = false := decide_eq_false h1
    go_enter Tryz.func93, Tryz.ntmps93
    go_wp2
    go_ret
    exact ⟨by rw [HS.out, d1]; simp [d1], rfl⟩
theorem rdigit_any (c : UInt8) (w : World) : Calls Tryz.prog 96 #[.int .u8 (c.toNat : Int)] w fun e w' => e = .returned (.bool (isDg c)) ∧ w = w' := by
  have hc : (c.toNat : Int) < 256 := by have := c.toNat_lt; omega
  have HS := Lib.hid (show isDg c = (decide ((48 : Int) ≤ (c.toNat : Int)) && decide ((c.toNat : Int) ≤ 57)) by
    unfold isDg; congr 1 <;> exact decide_eq_decide.2 (by omega))
  by_cases h1 : (48 : Int) ≤ (c.toNat : Int)
  · have d1 : decide ((48 : Int) ≤ (c.toNat : Int)) = true := decide_eq_true h1
    by_cases h2 : (c.toNat : Int) ≤ 57
    · have d2 : decide ((c.toNat : Int) ≤ 57) = true := decide_eq_true h2
      go_enter Tryz.func96, Tryz.ntmps96
      go_wp2
      go_ret
      exact ⟨by rw [HS.out, d1, d2]; simp [d1, d2], rfl⟩
    · have d2 : decide ((c.toNat : Int) ≤ 57) = false := decide_eq_false h2
      go_enter Tryz.func96, Tryz.ntmps96
      go_wp2
      go_ret
      exact ⟨by rw [HS.out, d1, d2]; simp [d1, d2], rfl⟩
  · have d1 : decide ((48 : Int) ≤ (c.toNat : Int)) = false := decide_eq_false h1
    go_enter Tryz.func96, Tryz.ntmps96
    go_wp2
    go_ret
    exact ⟨by rw [HS.out, d1]; simp [d1], rfl⟩
/-- run from the beginning on, of a name. -/
def rnf (c : UInt8) : Bool := isDg c || (isLet c || c.toNat == 45)
set_option maxRecDepth 100000 in
set_option maxHeartbeats 2000000 in
theorem run0_any (s : ByteArray) (w : World) (hl : s.size ≤ 9223372036854775807) : Calls Tryz.prog 94 #[.string s, .int .i64 0, .bool false] w fun e w' => e = .returned (.int .i64 ((s.data.toList.takeWhile rnf).length : Int)) ∧ w = w' := by
  have HL := Lib.hid (fun c => rletter_any c w)
  have HD := Lib.hid (fun c => rdigit_any c w)
  have HSZ : Hid (s.data.toList.length = s.size) := Lib.hid rfl
  go_enter Tryz.func94, Tryz.ntmps94
  go_wp2_with fail
  go_loopw [7] (fun i wr => ∃ j : Nat, j ≤ s.size ∧ i = .int .i64 j ∧ Hid (w = wr ∧ (s.data.toList.takeWhile rnf).length = j + ((s.data.toList.drop j).takeWhile rnf).length)) (fun i _ => s.size - (intOf i).toNat)
  case atStart => exact ⟨0, by omega, rfl, Lib.hid ⟨rfl, by simp⟩⟩
  case round =>
    obtain ⟨j, hj, rfl, HR⟩ := hrel
    obtain rfl := HR.out.1
    by_cases hlt : j < s.size
    · have hji : (j : Int) < (s.size : Int) := by omega
      have hdr : s.data.toList.drop j = s[j] :: s.data.toList.drop (j + 1) := List.drop_eq_getElem_cons (by rw [HSZ.out]; exact hlt)
      have hcb : (s[j].toNat : Int) < 256 := by have := s[j].toNat_lt; omega
      have HT := Lib.hid (show rnf s[j] = true → (s.data.toList.takeWhile rnf).length = (j + 1) + ((s.data.toList.drop (j + 1)).takeWhile rnf).length from fun h => by
        have := HR.out.2
        rw [hdr, List.takeWhile_cons_of_pos h] at this
        simp only [List.length_cons] at this
        omega)
      have HF := Lib.hid (show rnf s[j] = false → (s.data.toList.takeWhile rnf).length = j from fun h => by
        have := HR.out.2
        rw [hdr, List.takeWhile_cons_of_neg (by simp [h])] at this
        simpa using this)
      have HLc := Lib.hid (HL.out s[j])
      have HDc := Lib.hid (HD.out s[j])
      have HRN := Lib.hid (show rnf s[j] = (isDg s[j] || (isLet s[j] || s[j].toNat == 45)) from rfl)
      have HM := Lib.hid (show (s[j].toNat == 45) = ((s[j].toNat : Int) == 45) by rw [Bool.eq_iff_iff, beq_iff_eq, beq_iff_eq]; omega)
      clear hdr HL HD HR
      generalize isDg s[j] = a at *
      generalize isLet s[j] = b at *
      generalize rnf s[j] = cc at *
      generalize (s[j].toNat == 45) = d at *
      cases a with
      | true =>
        have HN := Lib.hid (HT.out (by rw [HRN.out]; rfl))
        go_wp2_with (first
          | (go_at_call 96; refine HDc.out.mono ?_; rintro e w9 ⟨rfl, hw9⟩; subst hw9)
          | (go_at_call 93; refine HLc.out.mono ?_; rintro e w9 ⟨rfl, hw9⟩; subst hw9))
        go_roundw
        case rel => exact ⟨j + 1, by omega, by go_num, Lib.hid ⟨(by first | rfl | trivial), HN.out⟩⟩
        case measure => simp [intOf]; omega
      | false =>
        cases b with
        | true =>
          have HN := Lib.hid (HT.out (by rw [HRN.out]; rfl))
          go_wp2_with (first
            | (go_at_call 96; refine HDc.out.mono ?_; rintro e w9 ⟨rfl, hw9⟩; subst hw9)
            | (go_at_call 93; refine HLc.out.mono ?_; rintro e w9 ⟨rfl, hw9⟩; subst hw9))
          go_roundw
          case rel => exact ⟨j + 1, by omega, by go_num, Lib.hid ⟨(by first | rfl | trivial), HN.out⟩⟩
          case measure => simp [intOf]; omega
        | false =>
          cases d with
          | true =>
            have hd45 : ((s[j].toNat : Int) == 45) = true := HM.out.symm
            have HN := Lib.hid (HT.out (by rw [HRN.out]; rfl))
            go_wp2_with (first
              | (go_at_call 96; refine HDc.out.mono ?_; rintro e w9 ⟨rfl, hw9⟩; subst hw9)
              | (go_at_call 93; refine HLc.out.mono ?_; rintro e w9 ⟨rfl, hw9⟩; subst hw9))
            go_roundw
            case rel => exact ⟨j + 1, by omega, by go_num, Lib.hid ⟨(by first | rfl | trivial), HN.out⟩⟩
            case measure => simp [intOf]; omega
          | false =>
            have hd45 : ((s[j].toNat : Int) == 45) = false := HM.out.symm
            have HN := Lib.hid (HF.out (by rw [HRN.out]; rfl))
            go_wp2_with (first
              | (go_at_call 96; refine HDc.out.mono ?_; rintro e w9 ⟨rfl, hw9⟩; subst hw9)
              | (go_at_call 93; refine HLc.out.mono ?_; rintro e w9 ⟨rfl, hw9⟩; subst hw9))
            go_ret
            exact ⟨by rw [HN.out]; rfl, rfl⟩
    · obtain rfl : j = s.size := by omega
      have HN := Lib.hid (show (s.data.toList.takeWhile rnf).length = s.size by
        have := HR.out.2
        rw [List.drop_of_length_le (by rw [HSZ.out]; exact Nat.le_refl _)] at this
        simpa using this)
      clear HR HL HD
      go_wp2
      go_ret
      exact ⟨by rw [HN.out]; rfl, rfl⟩
end Go.Proofs.YtileecbccmfpdaaGreatDoor
