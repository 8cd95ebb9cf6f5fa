/- lex: what the reader asks of what is next. -/
import Derived.Test.YtileecbccmfpdaaGreatDoorLx1
namespace Go.Proofs.YtileecbccmfpdaaGreatDoor
set_option linter.unusedVariables false
set_option linter.unusedSimpArgs false
open Go.RowKit
theorem letter_nx (l : Bs) : on isLet l = (decide ((97 : Int) ≤ nx l) && decide (nx l ≤ 122)) := by
  cases l with
  | nil => rfl
  | cons c l =>
    simp only [on, isLet, nx]
    congr 1 <;> exact decide_eq_decide.2 (by omega)
set_option maxHeartbeats 2000000 in
theorem letter_any (w : World) (r : Nat) (l : Bs) (p : Pl) (h : RdS w r l p) :
    Calls Tryz.prog 74 #[.pointer (some ⟨r, 0, none⟩)] w fun e w' => e = .returned (.bool (on isLet l)) ∧ w = w' := by
  have HN := Lib.hid (next_any w r l p h)
  clear h
  rw [letter_nx]
  generalize nx l = n at *
  by_cases h1 : (97 : Int) ≤ n
  · by_cases h2 : n ≤ 122
    · have d1 : decide ((97 : Int) ≤ n) = true := decide_eq_true h1
      have d2 : decide (n ≤ 122) = true := decide_eq_true h2
      go_enter Tryz.func74, Tryz.ntmps74
      go_wp2_with ((go_at_call 72; refine HN.out.mono ?_; rintro e w9 ⟨rfl, hw9⟩; subst hw9))
      go_ret
      exact ⟨by simp [d1, d2], rfl⟩
    · have d1 : decide ((97 : Int) ≤ n) = true := decide_eq_true h1
      have d2 : decide (n ≤ 122) = false := decide_eq_false h2
      go_enter Tryz.func74, Tryz.ntmps74
      go_wp2_with ((go_at_call 72; refine HN.out.mono ?_; rintro e w9 ⟨rfl, hw9⟩; subst hw9))
      go_ret
      exact ⟨by simp [d1, d2], rfl⟩
  · have d1 : decide ((97 : Int) ≤ n) = false := decide_eq_false h1
    go_enter Tryz.func74, Tryz.ntmps74
    go_wp2_with ((go_at_call 72; refine HN.out.mono ?_; rintro e w9 ⟨rfl, hw9⟩; subst hw9))
    go_ret
    exact ⟨by simp [d1], rfl⟩
theorem digit_nx (l : Bs) : on isDg l = (decide ((48 : Int) ≤ nx l) && decide (nx l ≤ 57)) := by
  cases l with
  | nil => rfl
  | cons c l =>
    simp only [on, isDg, nx]
    congr 1 <;> exact decide_eq_decide.2 (by omega)
set_option maxHeartbeats 2000000 in
theorem digit_any (w : World) (r : Nat) (l : Bs) (p : Pl) (h : RdS w r l p) :
    Calls Tryz.prog 77 #[.pointer (some ⟨r, 0, none⟩)] w fun e w' => e = .returned (.bool (on isDg l)) ∧ w = w' := by
  have HN := Lib.hid (next_any w r l p h)
  clear h
  rw [digit_nx]
  generalize nx l = n at *
  by_cases h1 : (48 : Int) ≤ n
  · by_cases h2 : n ≤ 57
    · have d1 : decide ((48 : Int) ≤ n) = true := decide_eq_true h1
      have d2 : decide (n ≤ 57) = true := decide_eq_true h2
      go_enter Tryz.func77, Tryz.ntmps77
      go_wp2_with ((go_at_call 72; refine HN.out.mono ?_; rintro e w9 ⟨rfl, hw9⟩; subst hw9))
      go_ret
      exact ⟨by simp [d1, d2], rfl⟩
    · have d1 : decide ((48 : Int) ≤ n) = true := decide_eq_true h1
      have d2 : decide (n ≤ 57) = false := decide_eq_false h2
      go_enter Tryz.func77, Tryz.ntmps77
      go_wp2_with ((go_at_call 72; refine HN.out.mono ?_; rintro e w9 ⟨rfl, hw9⟩; subst hw9))
      go_ret
      exact ⟨by simp [d1, d2], rfl⟩
  · have d1 : decide ((48 : Int) ≤ n) = false := decide_eq_false h1
    go_enter Tryz.func77, Tryz.ntmps77
    go_wp2_with ((go_at_call 72; refine HN.out.mono ?_; rintro e w9 ⟨rfl, hw9⟩; subst hw9))
    go_ret
    exact ⟨by simp [d1], rfl⟩
theorem blank_nx (l : Bs) : on isBl l = (nx l == 32 || nx l == 10) := by
  cases l with
  | nil => rfl
  | cons c l => simp only [on, isBl, nx]; congr 1 <;> (rw [Bool.eq_iff_iff, beq_iff_eq, beq_iff_eq]; omega)
set_option maxHeartbeats 2000000 in
theorem blank_any (w : World) (r : Nat) (l : Bs) (p : Pl) (h : RdS w r l p) :
    Calls Tryz.prog 71 #[.pointer (some ⟨r, 0, none⟩)] w fun e w' => e = .returned (.bool (on isBl l)) ∧ w = w' := by
  have HN := Lib.hid (next_any w r l p h)
  clear h
  rw [blank_nx]
  generalize nx l = n at *
  cases h1 : (n == 32) with
  | true =>
    go_enter Tryz.func71, Tryz.ntmps71
    go_wp2_with ((go_at_call 72; refine HN.out.mono ?_; rintro e w9 ⟨rfl, hw9⟩; subst hw9))
    go_ret
    exact ⟨by simp, rfl⟩
  | false =>
    cases h2 : (n == 10) with
    | true =>
      go_enter Tryz.func71, Tryz.ntmps71
      go_wp2_with ((go_at_call 72; refine HN.out.mono ?_; rintro e w9 ⟨rfl, hw9⟩; subst hw9))
      go_ret
      exact ⟨by simp, rfl⟩
    | false =>
      go_enter Tryz.func71, Tryz.ntmps71
      go_wp2_with ((go_at_call 72; refine HN.out.mono ?_; rintro e w9 ⟨rfl, hw9⟩; subst hw9))
      go_ret
      exact ⟨by simp, rfl⟩
theorem more_nx (l : Bs) : (!l.isEmpty) = !(nx l == -1) := by
  cases l with
  | nil => rfl
  | cons c l =>
    have : (nx (c :: l) == -1) = false := beq_eq_false_iff_ne.2 (by simp only [nx]; omega)
    rw [this]; rfl
set_option maxHeartbeats 2000000 in
theorem more_any (w : World) (r : Nat) (l : Bs) (p : Pl) (h : RdS w r l p) :
    Calls Tryz.prog 36 #[.pointer (some ⟨r, 0, none⟩)] w fun e w' => e = .returned (.bool (!l.isEmpty)) ∧ w = w' := by
  have HN := Lib.hid (next_any w r l p h)
  clear h
  rw [more_nx]
  generalize nx l = n at *
  cases h1 : (n == -1) with
  | true =>
    go_enter Tryz.func36, Tryz.ntmps36
    go_wp2_with ((go_at_call 72; refine HN.out.mono ?_; rintro e w9 ⟨rfl, hw9⟩; subst hw9))
    go_ret
    exact ⟨by first | (simp; done) | simpa using h1, rfl⟩
  | false =>
    go_enter Tryz.func36, Tryz.ntmps36
    go_wp2_with ((go_at_call 72; refine HN.out.mono ?_; rintro e w9 ⟨rfl, hw9⟩; subst hw9))
    go_ret
    exact ⟨by first | (simp; done) | simpa using h1, rfl⟩
theorem ofLn_nx (l : Bs) : on ofLn l = (!l.isEmpty && !(nx l == 10)) := by
  cases l with
  | nil => rfl
  | cons c l =>
    have : (nx (c :: l) == 10) = (c.toNat == 10) := by rw [Bool.eq_iff_iff, beq_iff_eq, beq_iff_eq]; simp only [nx]; omega
    rw [this]; simp [on, ofLn]
set_option maxHeartbeats 2000000 in
theorem ofLine_any (w : World) (r : Nat) (l : Bs) (p : Pl) (h : RdS w r l p) :
    Calls Tryz.prog 73 #[.pointer (some ⟨r, 0, none⟩)] w fun e w' => e = .returned (.bool (on ofLn l)) ∧ w = w' := by
  have HN := Lib.hid (next_any w r l p h)
  have HM := Lib.hid (more_any w r l p h)
  clear h
  rw [ofLn_nx]
  generalize nx l = n at *
  generalize (!l.isEmpty) = b at *
  cases b with
  | false =>
    go_enter Tryz.func73, Tryz.ntmps73
    go_wp2_with (first
      | (go_at_call 72; refine HN.out.mono ?_; rintro e w9 ⟨rfl, hw9⟩; subst hw9)
      | (go_at_call 36; refine HM.out.mono ?_; rintro e w9 ⟨rfl, hw9⟩; subst hw9))
    go_ret
    exact ⟨by simp, rfl⟩
  | true =>
    cases h1 : (n == 10) with
    | true =>
      go_enter Tryz.func73, Tryz.ntmps73
      go_wp2_with (first
        | (go_at_call 72; refine HN.out.mono ?_; rintro e w9 ⟨rfl, hw9⟩; subst hw9)
        | (go_at_call 36; refine HM.out.mono ?_; rintro e w9 ⟨rfl, hw9⟩; subst hw9))
      go_ret
      exact ⟨by first | (simp; done) | simpa using h1, rfl⟩
    | false =>
      go_enter Tryz.func73, Tryz.ntmps73
      go_wp2_with (first
        | (go_at_call 72; refine HN.out.mono ?_; rintro e w9 ⟨rfl, hw9⟩; subst hw9)
        | (go_at_call 36; refine HM.out.mono ?_; rintro e w9 ⟨rfl, hw9⟩; subst hw9))
      go_ret
      exact ⟨by first | (simp; done) | simpa using h1, rfl⟩
theorem ofNm_nx (l : Bs) : on ofNm l = (on isLet l || on isDg l || nx l == 45) := by
  cases l with
  | nil => rfl
  | cons c l =>
    have : (nx (c :: l) == 45) = (c.toNat == 45) := by rw [Bool.eq_iff_iff, beq_iff_eq, beq_iff_eq]; simp only [nx]; omega
    rw [this]; rfl
set_option maxHeartbeats 2000000 in
theorem ofName_any (w : World) (r : Nat) (l : Bs) (p : Pl) (h : RdS w r l p) :
    Calls Tryz.prog 76 #[.pointer (some ⟨r, 0, none⟩)] w fun e w' => e = .returned (.bool (on ofNm l)) ∧ w = w' := by
  have HN := Lib.hid (next_any w r l p h)
  have HL := Lib.hid (letter_any w r l p h)
  have HD := Lib.hid (digit_any w r l p h)
  clear h
  rw [ofNm_nx]
  generalize nx l = n at *
  generalize on isLet l = a at *
  generalize on isDg l = b at *
  cases a with
  | true =>
    go_enter Tryz.func76, Tryz.ntmps76
    go_wp2_with (first
      | (go_at_call 72; refine HN.out.mono ?_; rintro e w9 ⟨rfl, hw9⟩; subst hw9)
      | (go_at_call 74; refine HL.out.mono ?_; rintro e w9 ⟨rfl, hw9⟩; subst hw9)
      | (go_at_call 77; refine HD.out.mono ?_; rintro e w9 ⟨rfl, hw9⟩; subst hw9))
    go_ret
    exact ⟨by simp, rfl⟩
  | false =>
    cases b with
    | true =>
      go_enter Tryz.func76, Tryz.ntmps76
      go_wp2_with (first
        | (go_at_call 72; refine HN.out.mono ?_; rintro e w9 ⟨rfl, hw9⟩; subst hw9)
        | (go_at_call 74; refine HL.out.mono ?_; rintro e w9 ⟨rfl, hw9⟩; subst hw9)
        | (go_at_call 77; refine HD.out.mono ?_; rintro e w9 ⟨rfl, hw9⟩; subst hw9))
      go_ret
      exact ⟨by simp, rfl⟩
    | false =>
      cases h1 : (n == 45) with
      | true =>
        go_enter Tryz.func76, Tryz.ntmps76
        go_wp2_with (first
          | (go_at_call 72; refine HN.out.mono ?_; rintro e w9 ⟨rfl, hw9⟩; subst hw9)
          | (go_at_call 74; refine HL.out.mono ?_; rintro e w9 ⟨rfl, hw9⟩; subst hw9)
          | (go_at_call 77; refine HD.out.mono ?_; rintro e w9 ⟨rfl, hw9⟩; subst hw9))
        go_ret
        exact ⟨by simp, rfl⟩
      | false =>
        go_enter Tryz.func76, Tryz.ntmps76
        go_wp2_with (first
          | (go_at_call 72; refine HN.out.mono ?_; rintro e w9 ⟨rfl, hw9⟩; subst hw9)
          | (go_at_call 74; refine HL.out.mono ?_; rintro e w9 ⟨rfl, hw9⟩; subst hw9)
          | (go_at_call 77; refine HD.out.mono ?_; rintro e w9 ⟨rfl, hw9⟩; subst hw9))
        go_ret
        exact ⟨by simp, rfl⟩
end Go.Proofs.YtileecbccmfpdaaGreatDoor
