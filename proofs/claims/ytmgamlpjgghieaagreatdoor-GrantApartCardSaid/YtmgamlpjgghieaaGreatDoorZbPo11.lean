/- policy: the tokens of a form's texts, by contract. -/
import Derived.Test.YtmgamlpjgghieaaGreatDoorZbPo10
namespace Go.Proofs.YtmgamlpjgghieaaGreatDoor
set_option linter.unusedVariables false
set_option linter.unusedSimpArgs false
open Go.RowKit
theorem toks_len (l : Bs) : (toks l).1.length ≤ l.length + 1 := by
  unfold toks
  split
  · simp
  · exact tz_few _ _ _
/-- The tokens of texts, if all have tokens. -/
def tokF : List Bs → Option (List Tk)
  | [] => some []
  | s :: F => match (toks s).2 with
    | some _ => none
    | none => (tokF F).map ((toks s).1 ++ ·)
/-- From what was found on. -/
def tokG (acc : List Tk) (F : List Bs) : Option (List Tk) := (tokF F).map (acc ++ ·)
theorem tokG_nil (acc : List Tk) : tokG acc [] = some acc := by simp [tokG, tokF]
theorem tokG_err {acc : List Tk} {s : Bs} {F : List Bs} {f : Int × Pl} (h : (toks s).2 = some f) : tokG acc (s :: F) = none := by simp [tokG, tokF, h]
theorem tokG_ok {acc : List Tk} {s : Bs} {F : List Bs} (h : (toks s).2 = none) : tokG acc (s :: F) = tokG (acc ++ (toks s).1) F := by
  simp only [tokG, tokF, h]
  cases tokF F with
  | none => rfl
  | some L => simp
end Go.Proofs.YtmgamlpjgghieaaGreatDoor
