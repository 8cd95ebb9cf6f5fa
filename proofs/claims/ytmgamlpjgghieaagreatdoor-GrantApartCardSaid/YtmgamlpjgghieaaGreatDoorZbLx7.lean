/- lex: name and number of the code, by contract. -/
import Derived.Test.YtmgamlpjgghieaaGreatDoorZbLx6
import Derived.Test.YtmgamlpjgghieaaGreatDoorZbLxNum
import Derived.Lib.AppendIntMem
import Derived.Lib.AtoiErrMem
namespace Go.Proofs.YtmgamlpjgghieaaGreatDoor
set_option linter.unusedVariables false
set_option linter.unusedSimpArgs false
open Go.RowKit
theorem below_grow_ (w : World) (k : Nat) (os : Array Obj) : Below w.heap.size w (Sort.grow (w.drewN k) os) :=
  ⟨rfl, rfl, rfl, by simp [Sort.grow], fun i hi => by
    show ((w.drewN k).heap ++ os)[i]? = _
    rw [Array.getElem?_append_left (by exact hi)]
    rfl⟩
/-- A token as a call gives it, its place left out. -/
def tokV (k : Int) (t : Bs) (n : Int) : Value := .agg #[.int .i64 k, .string (bs t), .int .i64 n, .int .i64 0, .int .i64 0]
def nameE (t : Bs) : Int := if wordB (bs t) = true then 0 else if 16 < t.length then 2 else 0
def nameKd (t : Bs) : Int := if wordB (bs t) = true then 2 else if 16 < t.length then 0 else 1
def nameTx (t : Bs) : Bs := if wordB (bs t) = true then t else if 16 < t.length then [] else t
def NameP (t : Bs) (w : World) (e : Ending) (w' : World) : Prop := e = .returned (.tuple #[tokV (nameKd t) (nameTx t) 0, .int .i64 (nameE t)]) ∧ Below w.heap.size w w'
def numE (t : Bs) : Int := if numBad t = true then 10 else 0
def numKd (t : Bs) : Int := if numBad t = true then 0 else 3
def numTx (t : Bs) : Bs := if numBad t = true then [] else t
def numV (t : Bs) : Int := if numBad t = true then 0 else (vl t : Int)
def NumP (t : Bs) (w : World) (e : Ending) (w' : World) : Prop := e = .returned (.tuple #[tokV (numKd t) (numTx t) (numV t), .int .i64 (numE t)]) ∧ Below w.heap.size w w'
theorem bs_data (t : Bs) : (bs t).data.toList = t := by simp [bs]
end Go.Proofs.YtmgamlpjgghieaaGreatDoor
