/- The document's Text by contract. -/
import Derived.Test.YtonadchibakaeaaText
namespace Go.Proofs.Ytonadchibakaeaa
set_option linter.unusedVariables false
set_option linter.unusedSimpArgs false
open Go.RowKit
theorem digit (d : Nat) (h : d < 10) : (⟨#[48, 49, 50, 51, 52, 53, 54, 55, 56, 57]⟩ : ByteArray).extract d (d + 1) = ⟨#[UInt8.ofNat (48 + d)]⟩ := by
  have : ∀ d : Fin 10, (⟨#[48, 49, 50, 51, 52, 53, 54, 55, 56, 57]⟩ : ByteArray).extract d.1 (d.1 + 1) = ⟨#[UInt8.ofNat (48 + d.1)]⟩ := by decide +kernel
  exact this ⟨d, h⟩
theorem app_ba (a b : List UInt8) : (⟨a.toArray⟩ : ByteArray) ++ (⟨b.toArray⟩ : ByteArray) = ⟨(a ++ b).toArray⟩ := by
  apply ByteArray.ext; simp [ByteArray.data_append]
theorem ret_str {a b : ByteArray} (h : a = b) : Ending.returned (.string a) = .returned (.string b) := by rw [h]
def dg1 (n : Nat) : ByteArray := ⟨#[UInt8.ofNat (48 + n % 10)]⟩
theorem sl10 (n : Nat) (w : World) : (Instr.slice 9 (.string ⟨#[48, 49, 50, 51, 52, 53, 54, 55, 56, 57]⟩) (some (.int .i64 ((n : Int) % 10))) (some (.int .i64 ((n : Int) % 10 + 1))) none).run Try.prog w = .ok (.string (dg1 n)) w := by
  have h := digit (n % 10) (by omega)
  rw [run_slice_string w 9 _ .i64 .i64 _ _ Try.underlying9 (by omega) (by omega) (by simp [ByteArray.size]; omega)]
  have e1 : ((n : Int) % 10).toNat = n % 10 := by omega
  have e2 : ((n : Int) % 10 + 1).toNat = n % 10 + 1 := by omega
  rw [e1, e2, h]; rfl
theorem add10 (n : Nat) (hn : n ≤ 18446744073709551615) (h : ¬ n < 10) (w : World) : (Op.stringOp .add (decB (n / 10)) (dg1 n)).run Try.prog w = .ok (.string (decB n)) w := by
  have e : decB (n / 10) ++ dg1 n = decB n := by
    have := app_ba (dec (n / 10)) [UInt8.ofNat (48 + n % 10)]
    rw [← dec_big n h] at this
    exact this
  rw [run_string_add_sum, e]
  have h1 : (decB (n / 10)).size = nd (n / 10) := by simp [decB, ByteArray.size, dec, dg_length]
  have h2 := nd_le (n / 10) (by omega)
  have h3 : (dg1 n).size = 1 := rfl
  omega
end Go.Proofs.Ytonadchibakaeaa
