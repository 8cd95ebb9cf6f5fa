/- cell.Code, FromCode by contract. -/
import Derived.Test.YtdbiaijpbkmfhaaCellKid
import Derived.Test.YtdbiaijpbkmfhaaBlk
import Derived.Deep.LoopGhost
import Derived.Outline
import Derived.RegionTactic
import Derived.BigQuiet
import Derived.Deep.QuietTactic
namespace Go.Proofs.Ytdbiaijpbkmfhaa
set_option linter.unusedVariables false
set_option linter.unusedSimpArgs false
open Go.RowKit
theorem i64_and_nat (a b : Nat) (ha : a < 9223372036854775808) (hb : b < 9223372036854775808) : bits .and .i64 (a : Int) (b : Int) = ((a &&& b : Nat) : Int) := by
  have hx : a &&& b < 2 ^ 63 := Nat.and_lt_two_pow _ (by omega)
  show IntKind.i64.wrap ((BitVec.ofInt 64 (a : Int) &&& BitVec.ofInt 64 (b : Int)).toNat : Int) = _
  rw [BitVec.toNat_and, ofInt_i64 a ha, ofInt_i64 b hb, IntKind.wrap_i64]
  omega
theorem i64_or_nat (a b : Nat) (ha : a < 9223372036854775808) (hb : b < 9223372036854775808) : bits .or .i64 (a : Int) (b : Int) = ((a ||| b : Nat) : Int) := by
  have hx : a ||| b < 2 ^ 63 := Nat.or_lt_two_pow (by omega) (by omega)
  show IntKind.i64.wrap ((BitVec.ofInt 64 (a : Int) ||| BitVec.ofInt 64 (b : Int)).toNat : Int) = _
  rw [BitVec.toNat_or, ofInt_i64 a ha, ofInt_i64 b hb, IntKind.wrap_i64]
  omega
theorem and_bit (n k : Nat) (h : n < 65536) : bits .and .i64 ((n : Int) / 2 ^ k) 1 = ((n / 2 ^ k % 2 : Nat) : Int) := by
  have e : (n : Int) / 2 ^ k = ((n / 2 ^ k : Nat) : Int) := by push_cast; rfl
  have hl : n / 2 ^ k ≤ n := Nat.div_le_self _ _
  have := i64_and_nat (n / 2 ^ k) 1 (by omega) (by omega)
  rw [e]
  rw [Nat.and_one_is_mod] at this
  exact this
theorem u64_nat (n : Nat) (h : n < 18446744073709551616) : IntKind.u64.wrap (n : Int) = (n : Int) := by rw [IntKind.wrap_u64]; omega
theorem pow4_le (k : Nat) (h : k ≤ 16) : 4 ^ k ≤ 4294967296 := by
  have : 4 ^ k ≤ 4 ^ 16 := Nat.pow_le_pow_right (by omega) h
  omega
theorem code_step (k X Y : Nat) (hk : k < 16) (hX : X < 65536) (hY : Y < 65536) :
    bits .or .u64 ((ilv k X Y : Nat) : Int) (IntKind.u64.wrap (bits .or .u64 (IntKind.u64.wrap (IntKind.u64.wrap (bits .and .i64 ((Y : Int) / 2 ^ k) 1) * 2)) (IntKind.u64.wrap (bits .and .i64 ((X : Int) / 2 ^ k) 1)) * 2 ^ (2 * k))) = ((ilv (k + 1) X Y : Nat) : Int) := by
  rw [and_bit Y k hY, and_bit X k hX]
  have h4 := pow4_le k (by omega)
  have h4' := pow4_le (k + 1) (by omega)
  have hi := ilv_lt k X Y
  have hi' := ilv_lt (k + 1) X Y
  have ho := ilv_or k X Y
  have b1 : Y / 2 ^ k % 2 < 2 := Nat.mod_lt _ (by omega)
  have b0 : X / 2 ^ k % 2 < 2 := Nat.mod_lt _ (by omega)
  generalize Y / 2 ^ k % 2 = d1 at *
  generalize X / 2 ^ k % 2 = d0 at *
  rw [u64_nat d1 (by omega), u64_nat d0 (by omega)]
  have e2 : ((d1 : Int) * 2) = ((2 * d1 : Nat) : Int) := by push_cast; omega
  rw [e2, u64_nat _ (by omega), u64_or_nat _ _ (by omega) (by omega)]
  have ho2 := Nat.two_pow_add_eq_or_of_lt (i := 1) (b := d0) (by omega) d1
  rw [← ho2]
  have e3 : (((2 ^ 1 * d1 + d0 : Nat) : Int) * 2 ^ (2 * k)) = (((2 * d1 + d0) * 4 ^ k : Nat) : Int) := by
    push_cast; rw [Int.pow_mul]; rfl
  have hm : (2 * d1 + d0) * 4 ^ k ≤ 3 * 4 ^ k := Nat.mul_le_mul_right _ (by omega)
  rw [e3, u64_nat _ (by omega), u64_or_nat _ _ (by omega) (by omega), ho]
theorem okC_nat (l X Y : Nat) (h : okC (l : Int) (X : Int) (Y : Int) = true) : l ≤ 16 ∧ X < 2 ^ l ∧ Y < 2 ^ l ∧ X < 65536 ∧ Y < 65536 := by
  have h6 := okC_16 _ _ _ h
  obtain ⟨_, h1, _, h3, _, h5⟩ := (okC_iff _ _ _).1 h
  simp only [Int.toNat_natCast] at h3 h5
  have e : ((2 : Int) ^ l) = ((2 ^ l : Nat) : Int) := by push_cast; rfl
  rw [e] at h3 h5
  omega
set_option maxHeartbeats 1000000 in
theorem code_yes (l X Y : Nat) (h : okC (l : Int) (X : Int) (Y : Int) = true) (w : World) :
    Calls Try.prog 34 #[.agg #[.int .i64 (l : Int), .int .i64 (X : Int), .int .i64 (Y : Int)]] w fun e w' => e = .returned (.tuple #[.int .u64 (ilv l X Y : Nat), .bool true]) ∧ Below w.heap.size w w' := by
  obtain ⟨hl, hX2, hY2, hX, hY⟩ := okC_nat l X Y h
  have hm0 : (l : Int) ≤ 16 := by omega
  clear hX2 hY2
  go_enter Try.func34, Try.ntmps34
  go_wp2_with fail
  refine (cright_any _ _ _ _).mono ?_
  rintro e w1 ⟨rfl, hb⟩
  have P : Blk w1 (w.heap.size) 24 #[.int .i64 (l : Int), .int .i64 (X : Int), .int .i64 (Y : Int)] := Blk.thru0 (Blk.newAt (by simp)) hb
  have hB : Below w.heap.size w w1 := below_trans (by go_grown) hb
  have hsz := hb.size
  (try simp at hsz)
  clear hb
  have kP0 := P.cell 0
  have kP1 := P.cell 1
  have kP2 := P.cell 2
  simp only [List.getElem?_toArray, List.getElem?_cons_zero, List.getElem?_cons_succ] at kP0 kP1 kP2
  have zP := P.lt
  go_wp2
  go_loopw [4, 12] (fun c i wr => ∃ k q : Nat, k ≤ l ∧ i = .int .i64 k ∧ c = .int .u64 (ilv k X Y : Nat) ∧ wr = w1.drewN q) (fun _ i _ => l - (intOf i).toNat)
  case atStart => exact ⟨0, 0, Nat.zero_le _, rfl, rfl, rfl⟩
  case round =>
    obtain ⟨k, q, hk, rfl, rfl, rfl⟩ := hrel
    by_cases hlt : k < l
    · have hm : min k 64 = k := by omega
      have HS := Lib.hid (code_step k X Y (by omega) hX hY)
      go_wp2
      go_quiet (fail)
      go_wp2
      go_roundw
      case rel => exact ⟨k + 1, q + nq, by omega, by go_num, by rw [HS.out], rfl⟩
      case measure => simp [intOf]; omega
    · obtain rfl : k = l := by omega
      go_wp2
      go_ret2
      exact ⟨rfl, below_drawn hB _⟩
set_option maxHeartbeats 1000000 in
theorem code_no (L x y : Int) (h : okC L x y = false) (w : World) :
    Calls Try.prog 34 #[.agg #[.int .i64 L, .int .i64 x, .int .i64 y]] w fun e w' => e = .returned (.tuple #[.int .u64 0, .bool false]) ∧ Below w.heap.size w w' := by
  go_enter Try.func34, Try.ntmps34
  go_wp2_with ((go_at_call 46; refine (cright_any _ _ _ _).mono ?_; rintro e w1 ⟨rfl, hb⟩; have hB : Below w.heap.size w w1 := below_trans (by go_grown) hb; have hz := hb.size; (try simp at hz); obtain ⟨hc, hf⟩ := bcell hb; have hz0 : w.heap.size < w1.heap.size := (by omega)))
  go_ret2
  exact ⟨rfl, by go_grown⟩
def codU (L x y : Int) : Int := if okC L x y = true then ((cod L.toNat x.toNat y.toNat : Nat) : Int) else 0
theorem code_u (L x y : Int) (w : World) : Calls Try.prog 34 #[.agg #[.int .i64 L, .int .i64 x, .int .i64 y]] w fun e w' => e = .returned (.tuple #[.int .u64 (codU L x y), .bool (okC L x y)]) ∧ Below w.heap.size w w' := by
  rcases Bool.eq_false_or_eq_true (okC L x y) with h | h
  · have h6 := okC_16 _ _ _ h
    obtain ⟨l, rfl⟩ := Int.eq_ofNat_of_zero_le h6.1
    obtain ⟨X, rfl⟩ := Int.eq_ofNat_of_zero_le h6.2.2.1
    obtain ⟨Y, rfl⟩ := Int.eq_ofNat_of_zero_le h6.2.2.2.2.1
    have := code_yes l X Y h w
    rw [ilv_cod] at this
    simpa [codU, h] using this
  · have := code_no L x y h w
    simpa [codU, h] using this
end Go.Proofs.Ytdbiaijpbkmfhaa
