/- cell.Child, Beside, Over by contract. -/
import Derived.Test.YtdbiaijpbkmfhaaCellRight
import Derived.IntWalk
import Derived.Laws.BitsAllLaws
import Derived.Laws.BitsLemmas
import Derived.Deep.RegionWith
import Derived.Deep.RegionHeld3
namespace Go.Proofs.Ytdbiaijpbkmfhaa
set_option linter.unusedVariables false
set_option linter.unusedSimpArgs false
open Go.RowKit
theorem ofInt_i64 (a : Nat) (ha : a < 9223372036854775808) : (BitVec.ofInt 64 (a : Int)).toNat = a := by
  rw [BitVec.ofInt_natCast, BitVec.toNat_ofNat]; exact Nat.mod_eq_of_lt (by omega)
theorem i64_xor_nat (a b : Nat) (ha : a < 9223372036854775808) (hb : b < 9223372036854775808) : bits .xor .i64 (a : Int) (b : Int) = ((a ^^^ b : Nat) : Int) := by
  have hx : a ^^^ b < 2 ^ 63 := Nat.xor_lt_two_pow (by omega) (by omega)
  show IntKind.i64.wrap ((BitVec.ofInt 64 (a : Int) ^^^ BitVec.ofInt 64 (b : Int)).toNat : Int) = _
  rw [BitVec.toNat_xor, ofInt_i64 a ha, ofInt_i64 b hb, IntKind.wrap_i64]
  omega
theorem xor_oth (x : Int) (h0 : 0 ≤ x) (h1 : x < 65536) : bits .xor .i64 x 1 = oth x := by
  obtain ⟨n, rfl⟩ := Int.eq_ofNat_of_zero_le h0
  have := i64_xor_nat n 1 (by omega) (by omega)
  rw [xor_one] at this
  have e : ((1 : Nat) : Int) = 1 := rfl
  rw [e] at this
  rw [this]
  unfold oth
  split <;> split <;> omega
theorem okC_16 (L x y : Int) (h : okC L x y = true) : 0 ≤ L ∧ L ≤ 16 ∧ 0 ≤ x ∧ x < 65536 ∧ 0 ≤ y ∧ y < 65536 := by
  obtain ⟨h0, h1, h2, h3, h4, h5⟩ := (okC_iff _ _ _).1 h
  have := pow_le16 L.toNat (by omega)
  omega
end Go.Proofs.Ytdbiaijpbkmfhaa
