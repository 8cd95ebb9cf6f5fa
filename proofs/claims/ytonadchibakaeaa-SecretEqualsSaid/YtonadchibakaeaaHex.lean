/- num.Hex by contract. -/
import Derived.Test.YtonadchibakaeaaSplit
import Derived.Laws.BitsAllLaws
namespace Go.Proofs.Ytonadchibakaeaa
set_option linter.unusedVariables false
set_option linter.unusedSimpArgs false
open Go.RowKit
open NumS
theorem and15 (b : Nat) (h : b ≤ 255) : bits .and .u8 (b : Int) 15 = ((b % 16 : Nat) : Int) := by
  have := u8_and_nat b 15 (by omega) (by omega)
  rw [show ((15 : Nat) : Int) = 15 from rfl] at this
  rw [this, show (15 : Nat) = 2 ^ 4 - 1 from rfl, Nat.and_two_pow_sub_one_eq_mod]
theorem arr8_0 (x0 x1 x2 x3 x4 x5 x6 x7 : Value) (w : World) : (Instr.index 48 (.agg #[x0, x1, x2, x3, x4, x5, x6, x7]) (.int .i64 0)).run Try.prog w = .ok x0 w := by kernel_rfl
theorem arr8_1 (x0 x1 x2 x3 x4 x5 x6 x7 : Value) (w : World) : (Instr.index 48 (.agg #[x0, x1, x2, x3, x4, x5, x6, x7]) (.int .i64 1)).run Try.prog w = .ok x1 w := by kernel_rfl
theorem arr8_2 (x0 x1 x2 x3 x4 x5 x6 x7 : Value) (w : World) : (Instr.index 48 (.agg #[x0, x1, x2, x3, x4, x5, x6, x7]) (.int .i64 2)).run Try.prog w = .ok x2 w := by kernel_rfl
theorem arr8_3 (x0 x1 x2 x3 x4 x5 x6 x7 : Value) (w : World) : (Instr.index 48 (.agg #[x0, x1, x2, x3, x4, x5, x6, x7]) (.int .i64 3)).run Try.prog w = .ok x3 w := by kernel_rfl
theorem arr8_4 (x0 x1 x2 x3 x4 x5 x6 x7 : Value) (w : World) : (Instr.index 48 (.agg #[x0, x1, x2, x3, x4, x5, x6, x7]) (.int .i64 4)).run Try.prog w = .ok x4 w := by kernel_rfl
theorem arr8_5 (x0 x1 x2 x3 x4 x5 x6 x7 : Value) (w : World) : (Instr.index 48 (.agg #[x0, x1, x2, x3, x4, x5, x6, x7]) (.int .i64 5)).run Try.prog w = .ok x5 w := by kernel_rfl
theorem arr8_6 (x0 x1 x2 x3 x4 x5 x6 x7 : Value) (w : World) : (Instr.index 48 (.agg #[x0, x1, x2, x3, x4, x5, x6, x7]) (.int .i64 6)).run Try.prog w = .ok x6 w := by kernel_rfl
theorem arr8_7 (x0 x1 x2 x3 x4 x5 x6 x7 : Value) (w : World) : (Instr.index 48 (.agg #[x0, x1, x2, x3, x4, x5, x6, x7]) (.int .i64 7)).run Try.prog w = .ok x7 w := by kernel_rfl
attribute [local go_sem] arr8_0 arr8_1 arr8_2 arr8_3 arr8_4 arr8_5 arr8_6 arr8_7
def hc (d : Nat) : UInt8 := if d < 10 then UInt8.ofNat (48 + d) else UInt8.ofNat (87 + d)
theorem hc_at (d : Nat) (h : d < (⟨#[48, 49, 50, 51, 52, 53, 54, 55, 56, 57, 97, 98, 99, 100, 101, 102]⟩ : ByteArray).size) : (⟨#[48, 49, 50, 51, 52, 53, 54, 55, 56, 57, 97, 98, 99, 100, 101, 102]⟩ : ByteArray)[d] = hc d := by
  have : ∀ d : Fin 16, (⟨#[48, 49, 50, 51, 52, 53, 54, 55, 56, 57, 97, 98, 99, 100, 101, 102]⟩ : ByteArray)[d.1]'(d.2) = hc d.1 := by decide +kernel
  exact this ⟨d, h⟩
theorem conv16 (c0 c1 c2 c3 c4 c5 c6 c7 c8 c9 c10 c11 c12 c13 c14 c15 : UInt8) (X Y : Obj) (w : World) : (convert 44 9 (Value.slice (some ⟨w.heap.size, 0, none⟩) 16 16)).run Try.prog (((w.alloc (.cells #[.int .u8 (c0.toNat : Int), .int .u8 (c1.toNat : Int), .int .u8 (c2.toNat : Int), .int .u8 (c3.toNat : Int), .int .u8 (c4.toNat : Int), .int .u8 (c5.toNat : Int), .int .u8 (c6.toNat : Int), .int .u8 (c7.toNat : Int), .int .u8 (c8.toNat : Int), .int .u8 (c9.toNat : Int), .int .u8 (c10.toNat : Int), .int .u8 (c11.toNat : Int), .int .u8 (c12.toNat : Int), .int .u8 (c13.toNat : Int), .int .u8 (c14.toNat : Int), .int .u8 (c15.toNat : Int)] 47)).alloc X).alloc Y) = .ok (.string ⟨#[c0, c1, c2, c3, c4, c5, c6, c7, c8, c9, c10, c11, c12, c13, c14, c15]⟩) (((w.alloc (.cells #[.int .u8 (c0.toNat : Int), .int .u8 (c1.toNat : Int), .int .u8 (c2.toNat : Int), .int .u8 (c3.toNat : Int), .int .u8 (c4.toNat : Int), .int .u8 (c5.toNat : Int), .int .u8 (c6.toNat : Int), .int .u8 (c7.toNat : Int), .int .u8 (c8.toNat : Int), .int .u8 (c9.toNat : Int), .int .u8 (c10.toNat : Int), .int .u8 (c11.toNat : Int), .int .u8 (c12.toNat : Int), .int .u8 (c13.toNat : Int), .int .u8 (c14.toNat : Int), .int .u8 (c15.toNat : Int)] 47)).alloc X).alloc Y) := by
  have hk : Blk (((w.alloc (.cells #[.int .u8 (c0.toNat : Int), .int .u8 (c1.toNat : Int), .int .u8 (c2.toNat : Int), .int .u8 (c3.toNat : Int), .int .u8 (c4.toNat : Int), .int .u8 (c5.toNat : Int), .int .u8 (c6.toNat : Int), .int .u8 (c7.toNat : Int), .int .u8 (c8.toNat : Int), .int .u8 (c9.toNat : Int), .int .u8 (c10.toNat : Int), .int .u8 (c11.toNat : Int), .int .u8 (c12.toNat : Int), .int .u8 (c13.toNat : Int), .int .u8 (c14.toNat : Int), .int .u8 (c15.toNat : Int)] 47)).alloc X).alloc Y) w.heap.size 47 (bv [c0, c1, c2, c3, c4, c5, c6, c7, c8, c9, c10, c11, c12, c13, c14, c15]).toArray := ((Blk.new w _ _).alloc X).alloc Y
  have hr := RB_of_row (off := 0) (n := 16) hk rfl
  exact run_conv_RB _ _ _ 5 _ _ _ _ Try.underlying44 Try.underlying5 Try.underlying9 hr (by omega)
/-- So many hex digits, the highest first. -/
def hexD : Nat → Nat → List UInt8
  | 0, _ => []
  | k + 1, n => hc (n / 16 ^ k % 16) :: hexD k n
theorem hexD_length (k n : Nat) : (hexD k n).length = k := by induction k with
  | zero => rfl
  | succ k ih => simp [hexD, ih]
def hexB (n : Nat) : ByteArray := ⟨(hexD 16 n).toArray⟩
theorem hexB_eq (n : Nat) : (⟨#[hc (bN 7 n / 16), hc (bN 7 n % 16), hc (bN 6 n / 16), hc (bN 6 n % 16), hc (bN 5 n / 16), hc (bN 5 n % 16), hc (bN 4 n / 16), hc (bN 4 n % 16), hc (bN 3 n / 16), hc (bN 3 n % 16), hc (bN 2 n / 16), hc (bN 2 n % 16), hc (bN 1 n / 16), hc (bN 1 n % 16), hc (bN 0 n / 16), hc (bN 0 n % 16)]⟩ : ByteArray) = hexB n := by
  have hi : ∀ k, bN k n / 16 = n / 16 ^ (2 * k + 1) % 16 := fun k => by
    unfold bN
    rw [Nat.pow_succ, Nat.pow_mul, ← Nat.div_div_eq_div_mul, show (16 : Nat) ^ 2 = 256 from rfl]
    generalize n / 256 ^ k = q
    omega
  have lo : ∀ k, bN k n % 16 = n / 16 ^ (2 * k) % 16 := fun k => by
    unfold bN
    rw [Nat.pow_mul, show (16 : Nat) ^ 2 = 256 from rfl]
    generalize n / 256 ^ k = q
    omega
  simp only [hexB, hexD, hi, lo]
set_option maxHeartbeats 1000000 in
theorem hex_any (n : Nat) (hn : n ≤ 18446744073709551615) (w : World) :
    Calls Try.prog 17 #[.int .u64 n] w fun e w' => e = .returned (.string (hexB n)) ∧ Below w.heap.size w w' := by
  have b0 := bN_lt 0 n
  have a0 := and15 _ b0
  have b1 := bN_lt 1 n
  have a1 := and15 _ b1
  have b2 := bN_lt 2 n
  have a2 := and15 _ b2
  have b3 := bN_lt 3 n
  have a3 := and15 _ b3
  have b4 := bN_lt 4 n
  have a4 := and15 _ b4
  have b5 := bN_lt 5 n
  have a5 := and15 _ b5
  have b6 := bN_lt 6 n
  have a6 := and15 _ b6
  have b7 := bN_lt 7 n
  have a7 := and15 _ b7
  have hh := hc_at
  have HX := Lib.hid (hexB_eq n)
  have hcv := conv16
  go_enter Try.func17, Try.ntmps17
  go_wp2_with (go_at_call 21; refine (split_exact n hn _).mono ?_; rintro e w1 ⟨rfl, rfl⟩)
  go_rounds 9
  go_ret
  refine ⟨?_, by go_grown⟩
  rw [← HX.out]
  rfl
end Go.Proofs.Ytonadchibakaeaa
