/- The document's Text by contract. -/
import Derived.Test.YtdnjhaplofakbaaText
namespace Go.Proofs.Ytdnjhaplofakbaa
set_option linter.unusedVariables false
set_option linter.unusedSimpArgs false
open Go.RowKit
theorem digit (d : Nat) (h : d < 10) : (⟨#[48, 49, 50, 51, 52, 53, 54, 55, 56, 57]⟩ : ByteArray).extract d (d + 1) = ⟨#[UInt8.ofNat (48 + d)]⟩ := by
  have : ∀ d : Fin 10, (⟨#[48, 49, 50, 51, 52, 53, 54, 55, 56, 57]⟩ : ByteArray).extract d.1 (d.1 + 1) = ⟨#[UInt8.ofNat (48 + d.1)]⟩ := by decide +kernel
  exact this ⟨d, h⟩
theorem app_ba (a b : List UInt8) : (⟨a.toArray⟩ : ByteArray) ++ (⟨b.toArray⟩ : ByteArray) = ⟨(a ++ b).toArray⟩ := by
  apply ByteArray.ext; simp [ByteArray.data_append]
theorem ret_str {a b : ByteArray} (h : a = b) : Ending.returned (.string a) = .returned (.string b) := by rw [h]
def dg1 (n : Nat) : ByteArray := ⟨#[UInt8.ofNat (48 + n % 10)]⟩
theorem sl10 (n : Nat) (w : World) : (Instr.slice 9 (.string ⟨#[48, 49, 50, 51, 52, 53, 54, 55, 56, 57]⟩) (some (.int .i64 ((n : Int) % 10))) (some (.int .i64 ((n : Int) % 10 + 1))) none).run Try.prog w = .ok (.string (dg1 n)) w := by
  have h := digit (n % 10) (by omega)
  rw [run_slice_string w 9 _ .i64 .i64 _ _ Try.underlying9 (by omega) (by omega) (by simp [ByteArray.size]; omega)]
  have e1 : ((n : Int) % 10).toNat = n % 10 := by omega
  have e2 : ((n : Int) % 10 + 1).toNat = n % 10 + 1 := by omega
  rw [e1, e2, h]; rfl
theorem add10 (n : Nat) (hn : n ≤ 18446744073709551615) (h : ¬ n < 10) (w : World) : (Op.stringOp .add (decB (n / 10)) (dg1 n)).run Try.prog w = .ok (.string (decB n)) w := by
  have e : decB (n / 10) ++ dg1 n = decB n := by
    have := app_ba (dec (n / 10)) [UInt8.ofNat (48 + n % 10)]
    rw [← dec_big n h] at this
    exact this
  rw [run_string_add_sum, e]
  have h1 : (decB (n / 10)).size = nd (n / 10) := by simp [decB, ByteArray.size, dec, dg_length]
  have h2 := nd_le (n / 10) (by omega)
  have h3 : (dg1 n).size = 1 := rfl
  omega
set_option maxHeartbeats 400000 in
theorem reftext_small (n : Nat) (h : n < 10) (w : World) :
    Calls Try.prog 13 #[.int .u64 n] w fun e w' => e = .returned (.string (decB n)) ∧ ∃ q, w' = w.drewN q := by
  have HD := Lib.hid (dec_small n h)
  have HG := Lib.hid (digit n h)
  go_enter Try.func13, Try.ntmps13
  go_wp2
  go_ret
  refine ⟨ret_str ?_, 0, rfl⟩
  rw [Nat.mod_eq_of_lt h, HG.out, decB, HD.out]
set_option maxHeartbeats 400000 in
theorem reftext_big (n : Nat) (hn : n ≤ 18446744073709551615) (h : ¬ n < 10) (w : World)
   (ih : Hid (∀ w, Calls Try.prog 13 #[.int .u64 (n / 10 : Nat)] w fun e w' => e = .returned (.string (decB (n / 10))) ∧ ∃ q, w' = w.drewN q)) :
    Calls Try.prog 13 #[.int .u64 n] w fun e w' => e = .returned (.string (decB n)) ∧ ∃ q, w' = w.drewN q := by
  have HD := Lib.hid (dec_big n h)
  have HG := Lib.hid (digit (n % 10) (by omega))
  have h1 : ¬ (n : Int) < 10 := by omega
  have h2 := Lib.hid (show (n : Int) / 10 = ((n / 10 : Nat) : Int) by omega)
  go_enter Try.func13, Try.ntmps13
  go_wp2
  have hw1 : IntKind.u64.wrap ((n : Int) / 10) = (n : Int) / 10 := IntWalk.u64_in _ (by omega)
  have hw2 : IntKind.i64.wrap ((n : Int) % 10 + 1) = (n : Int) % 10 + 1 := IntWalk.i64_in _ (by omega)
  have hsl := fun w => sl10 n w
  have hadd := fun w => add10 n hn h w
  go_quiet ((go_at_call 13; rw [h2.out]; exact Calls.quiet_of (ih.out _)))
  go_wp2
  go_ret
  exact ⟨rfl, _, rfl⟩
theorem reftext_any (n : Nat) (hn : n ≤ 18446744073709551615) (w : World) :
    Calls Try.prog 13 #[.int .u64 n] w fun e w' => e = .returned (.string (decB n)) ∧ ∃ q, w' = w.drewN q := by
  induction n using Nat.strongRecOn generalizing w with
  | _ n ih =>
    by_cases h : n < 10
    · exact reftext_small n h w
    · exact reftext_big n hn h w (Lib.hid fun w => ih (n / 10) (by omega) (by omega) w)
end Go.Proofs.Ytdnjhaplofakbaa
