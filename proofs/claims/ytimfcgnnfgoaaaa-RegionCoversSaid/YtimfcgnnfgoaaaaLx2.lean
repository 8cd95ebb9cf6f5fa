/- lex: what the reader asks of what is next. -/
import Derived.Test.YtimfcgnnfgoaaaaLx1
namespace Go.Proofs.Ytimfcgnnfgoaaaa
set_option linter.unusedVariables false
set_option linter.unusedSimpArgs false
open Go.RowKit
theorem letter_nx (l : Bs) : on isLet l = (decide ((97 : Int) ≤ nx l) && decide (nx l ≤ 122)) := by
  cases l with
  | nil => rfl
  | cons c l =>
    simp only [on, isLet, nx]
    congr 1 <;> exact decide_eq_decide.2 (by omega)
theorem digit_nx (l : Bs) : on isDg l = (decide ((48 : Int) ≤ nx l) && decide (nx l ≤ 57)) := by
  cases l with
  | nil => rfl
  | cons c l =>
    simp only [on, isDg, nx]
    congr 1 <;> exact decide_eq_decide.2 (by omega)
theorem blank_nx (l : Bs) : on isBl l = (nx l == 32 || nx l == 10) := by
  cases l with
  | nil => rfl
  | cons c l => simp only [on, isBl, nx]; congr 1 <;> (rw [Bool.eq_iff_iff, beq_iff_eq, beq_iff_eq]; omega)
theorem more_nx (l : Bs) : (!l.isEmpty) = !(nx l == -1) := by
  cases l with
  | nil => rfl
  | cons c l =>
    have : (nx (c :: l) == -1) = false := beq_eq_false_iff_ne.2 (by simp only [nx]; omega)
    rw [this]; rfl
theorem ofLn_nx (l : Bs) : on ofLn l = (!l.isEmpty && !(nx l == 10)) := by
  cases l with
  | nil => rfl
  | cons c l =>
    have : (nx (c :: l) == 10) = (c.toNat == 10) := by rw [Bool.eq_iff_iff, beq_iff_eq, beq_iff_eq]; simp only [nx]; omega
    rw [this]; simp [on, ofLn]
theorem ofNm_nx (l : Bs) : on ofNm l = (on isLet l || on isDg l || nx l == 45) := by
  cases l with
  | nil => rfl
  | cons c l =>
    have : (nx (c :: l) == 45) = (c.toNat == 45) := by rw [Bool.eq_iff_iff, beq_iff_eq, beq_iff_eq]; simp only [nx]; omega
    rw [this]; rfl
end Go.Proofs.Ytimfcgnnfgoaaaa
