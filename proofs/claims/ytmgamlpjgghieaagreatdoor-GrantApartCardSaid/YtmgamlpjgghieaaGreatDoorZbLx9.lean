/- lex: token, by contract. -/
import Derived.Test.YtmgamlpjgghieaaGreatDoorZbLx8
namespace Go.Proofs.YtmgamlpjgghieaaGreatDoor
set_option linter.unusedVariables false
set_option linter.unusedSimpArgs false
open Go.RowKit
def tkA (l : Bs) : Bs := if on isLet l = true then l.takeWhile ofNm else if on isDg l = true then l.takeWhile isDg else mkTx l
def tkK (l : Bs) : Int := if on isLet l = true then nameKd (tkA l) else if on isDg l = true then numKd (tkA l) else mkKd l
def tkT (l : Bs) : Bs := if on isLet l = true then nameTx (tkA l) else if on isDg l = true then numTx (tkA l) else mkTx l
def tkN (l : Bs) : Int := if on isLet l = true then 0 else if on isDg l = true then numV (tkA l) else 0
def tkE (l : Bs) : Int := if on isLet l = true then nameE (tkA l) else if on isDg l = true then numE (tkA l) else mkE l
theorem drop_while (f : UInt8 → Bool) (l : Bs) : l.drop (l.takeWhile f).length = l.dropWhile f := by
  have h : (l.takeWhile f ++ l.dropWhile f).drop (l.takeWhile f).length = l.dropWhile f := List.drop_left
  rw [List.takeWhile_append_dropWhile] at h
  exact h
theorem take_len (f : UInt8 → Bool) (l : Bs) : (l.takeWhile f).length ≤ l.length := (List.takeWhile_prefix f (l := l)).length_le
end Go.Proofs.YtmgamlpjgghieaaGreatDoor
