/- The document's Hex by contract; what is written in hex is read back. -/
import Derived.Test.YtonadchibakaeaaReadHex
import Derived.Test.YtonadchibakaeaaRefText
namespace Go.Proofs.Ytonadchibakaeaa
set_option linter.unusedVariables false
set_option linter.unusedSimpArgs false
open Go.RowKit
theorem sl_hex (d : Nat) (h : d < 16) : (⟨#[48, 49, 50, 51, 52, 53, 54, 55, 56, 57, 97, 98, 99, 100, 101, 102]⟩ : ByteArray).extract d (d + 1) = ⟨#[hc d]⟩ := by
  have : ∀ d : Fin 16, (⟨#[48, 49, 50, 51, 52, 53, 54, 55, 56, 57, 97, 98, 99, 100, 101, 102]⟩ : ByteArray).extract d.1 (d.1 + 1) = ⟨#[hc d.1]⟩ := by decide +kernel
  exact this ⟨d, h⟩
def hx1 (m : Nat) : ByteArray := ⟨#[hc (m % 16)]⟩
def hexDB (k n : Nat) : ByteArray := ⟨(hexD k n).toArray⟩
theorem hexDB_size (k n : Nat) : (hexDB k n).size = k := by simp [hexDB, ByteArray.size, hexD_length]
theorem sl16 (m : Nat) (w : World) : (Instr.slice 9 (.string ⟨#[48, 49, 50, 51, 52, 53, 54, 55, 56, 57, 97, 98, 99, 100, 101, 102]⟩) (some (.int .i64 ((m : Int) % 16))) (some (.int .i64 ((m : Int) % 16 + 1))) none).run Try.prog w = .ok (.string (hx1 m)) w := by
  rw [run_slice_string w 9 _ .i64 .i64 _ _ Try.underlying9 (by omega) (by omega) (by simp [ByteArray.size]; omega)]
  have e1 : ((m : Int) % 16).toNat = m % 16 := by omega
  have e2 : ((m : Int) % 16 + 1).toNat = m % 16 + 1 := by omega
  rw [e1, e2, sl_hex _ (by omega)]; rfl
theorem add16 (n k m : Nat) (hm : m = n / 16 ^ k) (hk : k ≤ 16) (w : World) : (Op.stringOp .add (hx1 m) (hexDB k n)).run Try.prog w = .ok (.string (hexDB (k + 1) n)) w := by
  have e : hx1 m ++ hexDB k n = hexDB (k + 1) n := by
    have := app_ba [hc (m % 16)] (hexD k n)
    rw [hm] at this ⊢
    exact this
  rw [run_string_add_sum, e]
  have h1 := hexDB_size k n
  have h3 : (hx1 m).size = 1 := rfl
  omega
set_option maxHeartbeats 400000 in
theorem refhex_any (n : Nat) (hn : n ≤ 18446744073709551615) (w : World) :
    Calls Try.prog 19 #[.int .u64 n] w fun e w' => e = .returned (.string (hexB n)) ∧ w = w' := by
  go_enter Try.func19, Try.ntmps19
  go_wp2
  go_loop [0, 4, 5] (fun v s i => ∃ k m : Nat, k ≤ 16 ∧ i = .int .i64 k ∧ v = .int .u64 m ∧ s = .string (hexDB k n) ∧ m ≤ 18446744073709551615 ∧ Hid (m = n / 16 ^ k)) (fun _ _ i => 16 - (intOf i).toNat)
  case atStart => exact ⟨0, n, Nat.zero_le _, rfl, rfl, rfl, hn, by simp [Hid]⟩
  case round =>
    obtain ⟨k, m, hk, rfl, rfl, rfl, hm, HM⟩ := hrel
    by_cases hlt : k < 16
    · have hsl := fun w => sl16 m w
      have hadd := fun w => add16 n k m HM.out hk w
      have HD : Hid (m / 16 = n / 16 ^ (k + 1)) := by rw [HM.out, Nat.div_div_eq_div_mul, Nat.pow_succ]; rfl
      go_wp2
      go_round
      case rel => exact ⟨k + 1, m / 16, by omega, by go_num, by go_num, rfl, by omega, HD⟩
      case measure => simp [intOf]; omega
    · obtain rfl : k = 16 := by omega
      go_wp2
      go_ret
      exact ⟨rfl, rfl⟩
theorem hval_front (c : UInt8) (l : List UInt8) : hvalF 0 (c :: l) = hv c * 16 ^ l.length + hval l := by
  have : ∀ (l : List UInt8) (n : Nat), hvalF n l = n * 16 ^ l.length + hval l := by
    intro l
    induction l with
    | nil => intro n; simp [hvalF, hval]
    | cons c l ih =>
      intro n
      have h1 := ih (16 * n + hv c)
      have h2 := ih (16 * 0 + hv c)
      simp only [hvalF, hval, List.foldl_cons, List.length_cons] at h1 h2 ⊢
      rw [h1, h2]
      generalize List.foldl (fun n c => 16 * n + hv c) 0 l = z
      rw [Nat.pow_succ, Nat.add_mul, Nat.add_mul]
      have : 16 * n * 16 ^ l.length = n * (16 ^ l.length * 16) := by rw [Nat.mul_comm 16 n, Nat.mul_assoc, Nat.mul_comm 16]
      omega
  have h := this l (hv c)
  simp only [hvalF, List.foldl_cons] at h ⊢
  simpa using h
theorem hval_hexD (k n : Nat) : hval (hexD k n) = n % 16 ^ k ∧ (hexD k n).all isHex = true := by
  induction k with
  | zero => simp [hexD, hval, hvalF, Nat.mod_one]
  | succ k ih =>
    have h := hv_hc (n / 16 ^ k % 16) (by omega)
    refine ⟨?_, by simp [hexD, h.2, ih.2]⟩
    show hvalF 0 (hexD (k + 1) n) = _
    rw [hexD, hval_front, h.1, ih.1, hexD_length, Nat.pow_succ, Nat.mod_mul, Nat.mul_comm, Nat.add_comm]
theorem hexD_hval (l : List UInt8) (h : l.all isHex = true) : hexD l.length (hval l) = l := by
  induction l with
  | nil => rfl
  | cons c l ih =>
    have hc' : isHex c = true ∧ l.all isHex = true := by simpa using h
    have e := hval_front c l
    have hb := hval_lt l hc'.2
    have hl := hv_lt c hc'.1
    have hp : 0 < 16 ^ l.length := Nat.pow_pos (by omega)
    show hexD (l.length + 1) (hvalF 0 (c :: l)) = _
    rw [hexD]
    have e1 : hvalF 0 (c :: l) / 16 ^ l.length % 16 = hv c := by
      rw [e, Nat.mul_comm, Nat.mul_add_div hp, Nat.div_eq_of_lt hb, Nat.add_zero, Nat.mod_eq_of_lt hl]
    have e2 : ∀ k, k ≤ l.length → hexD k (hvalF 0 (c :: l)) = hexD k (hval l) := by
      intro k
      induction k with
      | zero => intro _; rfl
      | succ k ihk =>
        intro hk
        rw [hexD, hexD, ihk (by omega)]
        congr 2
        obtain ⟨d, hd⟩ : ∃ d, l.length = k + 1 + d := ⟨l.length - (k + 1), by omega⟩
        rw [e, hd, Nat.pow_add, Nat.pow_succ]
        have : hv c * (16 ^ k * 16 * 16 ^ d) + hval l = hval l + 16 ^ k * (16 * (16 ^ d * hv c)) := by
          rw [Nat.add_comm]; congr 1; rw [Nat.mul_comm (hv c), Nat.mul_assoc, Nat.mul_assoc]
        rw [this, Nat.add_mul_div_left _ _ (Nat.pow_pos (by omega)), Nat.add_mul_mod_self_left]
    rw [e1, hc_hv c hc'.1, e2 _ (Nat.le_refl _), ih hc'.2]
end Go.Proofs.Ytonadchibakaeaa
