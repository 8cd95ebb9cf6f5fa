/- What the laws' rows share: a slice of integers that came in; a slice of bytes as a list of bytes. -/
import Derived.Test.YtdbiaijpbkmfhaaWords
import Derived.ProofKit
import Derived.OpenShut
import Derived.ShutString
import Derived.ChangeOld
namespace Go.Proofs.Ytdbiaijpbkmfhaa
set_option linter.unusedVariables false
set_option linter.unusedSimpArgs false
open Go.RowKit
/-- A slice of integers that came in: nil, or a row of 'cap' cells. -/
def IsRow (k : IntKind) (w : World) (a : Option Addr) (len cap : Nat) (zs : List Int) : Prop :=
  (a = none ∧ len = 0 ∧ cap = 0 ∧ zs = []) ∨
  ∃ x, a = some x ∧ len ≤ cap ∧ cap ≤ maxLen ∧ zs.length = cap ∧ (∀ i, i < zs.length → w.cell? (x.add i) = some (.int k (zs.getD i 0))) ∧ ∀ n ∈ zs, (Lit.int k n).wf = true
theorem block_lt_of_cell {w : World} {a : Addr} {v : Value} (h : w.cell? a = some v) : a.block < w.heap.size := World.block_lt_of_cell? w a h
theorem IsRow.rb {w : World} {a : Option Addr} {len cap : Nat} {zs : List Int} (h : IsRow .u8 w a len cap zs) : len ≤ maxLen ∧ ∃ l : List UInt8, RB w a len l := by
  rcases h with ⟨rfl, rfl, rfl, rfl⟩ | ⟨x, rfl, hl, hm, hz, hc, hw⟩
  · exact ⟨by decide, [], RB.nil_ w⟩
  · refine ⟨by omega, (zs.take len).map (fun n => UInt8.ofNat n.toNat), ?_, fun hn => ⟨x, rfl, ?_, fun j u hu => ?_⟩⟩
    · simp [bv_length]; omega
    · have := block_lt_of_cell (hc 0 (by omega))
      simpa [block_of_add] using this
    · have hj : j < (zs.take len).length := by
        have := (List.getElem?_eq_some_iff.1 hu).1
        simpa [bv] using this
      rw [List.length_take] at hj
      have hzj : j < zs.length := by omega
      rw [hc j hzj, ← hu]
      have hb := bounds_u8 (hw (zs[j]) (List.getElem_mem hzj))
      simp [bv, List.getElem?_take, show j < len by omega, List.getElem?_eq_getElem hzj]
      omega
end Go.Proofs.Ytdbiaijpbkmfhaa
