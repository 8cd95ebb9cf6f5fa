/- lex: the reader takes a byte. -/
import Derived.Test.YtimfcgnnfgoaaaaLx2
namespace Go.Proofs.Ytimfcgnnfgoaaaa
set_option linter.unusedVariables false
set_option linter.unusedSimpArgs false
open Go.RowKit
theorem head_tail {w : World} {a : Addr} {c : UInt8} {l : Bs} (h : w.cell? a = some (.string (bs (c :: l)))) : ∃ x : ByteArray, w.cell? a = some (.string x) ∧ (∃ h0 : 0 < x.size, x[0] = c) ∧ x.extract 1 x.size = bs l := by
  refine ⟨_, h, ⟨by rw [bs0]; omega, rfl⟩, ?_⟩
  apply ByteArray.ext
  simp [bs, ByteArray.size]
end Go.Proofs.Ytimfcgnnfgoaaaa
