/- Plain mathematics: what is written is read back; the order of bytes. -/
import Derived.Test.YtdnjhaplofakbaaNumSpec
import Derived.Test.YtdnjhaplofakbaaText
import Derived.Test.YtdnjhaplofakbaaRefHex
import Derived.Test.YtdnjhaplofakbaaRefPut
import Derived.Test.YtdnjhaplofakbaaRefBelow
import Derived.Test.YtdnjhaplofakbaaGet
namespace Go.Proofs.Ytdnjhaplofakbaa
set_option linter.unusedVariables false
set_option linter.unusedSimpArgs false
open NumS
theorem snoc_cases {α : Type} (l : List α) : l = [] ∨ ∃ a c, l = a ++ [c] := by
  rcases List.eq_nil_or_concat l with h | ⟨a, c, h⟩
  · exact .inl h
  · exact .inr ⟨a, c, by simpa using h⟩
theorem dig_of (c : UInt8) (h : isDig c = true) : UInt8.ofNat (48 + (c.toNat - 48)) = c := by
  have h1 : 48 ≤ c.toNat ∧ c.toNat ≤ 57 := by simpa [isDig] using h
  rw [show 48 + (c.toNat - 48) = c.toNat by omega]; simp
theorem dig_to (d : Nat) (h : d < 10) : isDig (UInt8.ofNat (48 + d)) = true ∧ (UInt8.ofNat (48 + d)).toNat - 48 = d := by
  have e : (UInt8.ofNat (48 + d)).toNat = 48 + d := by simp; omega
  constructor
  · simp only [isDig, e, decide_eq_true_eq]; omega
  · rw [e]; omega
theorem val_dec (n : Nat) : val (dec n) = n ∧ digs (dec n) = true := by
  induction n using Nat.strongRecOn with
  | _ n ih =>
    by_cases h : n < 10
    · have := dig_to n h
      rw [dec_small n h]
      constructor
      · have e := val_snoc [] (UInt8.ofNat (48 + n))
        rw [List.nil_append] at e
        rw [e, this.2]; simp [val, valF]
      · simpa [digs] using this.1
    · have h1 := ih (n / 10) (by omega)
      have := dig_to (n % 10) (by omega)
      rw [dec_big n h, val_snoc, digs_snoc, h1.1, h1.2, this.1, this.2]
      exact ⟨by omega, rfl⟩
theorem dec_head (n : Nat) (h : 1 ≤ n) : (dec n).head? ≠ some 48 := by
  induction n using Nat.strongRecOn with
  | _ n ih =>
    by_cases hs : n < 10
    · rw [dec_small n hs]
      simp only [List.head?_cons, ne_eq, Option.some.injEq]
      intro e
      have := (dig_to n hs).2
      rw [e] at this
      have h0 : (48 : UInt8).toNat - 48 = 0 := rfl
      omega
    · rw [dec_big n hs]
      have h1 := ih (n / 10) (by omega) (by omega)
      have hl : (dec (n / 10)) ≠ [] := fun e => by
        have := dg_length (nd (n / 10)) (n / 10)
        have hp := nd_pos (n / 10)
        rw [show dg (nd (n / 10)) (n / 10) = dec (n / 10) from rfl, e] at this
        simp at this; omega
      rw [List.head?_append]
      cases hd : dec (n / 10) with
      | nil => exact absurd hd hl
      | cons c t => rw [hd] at h1; simpa using h1
theorem dec_length (n : Nat) : (dec n).length = nd n := dg_length _ _
theorem parse_dec (n : Nat) (hn : n ≤ 18446744073709551615) : parseS (dec n) = some n := by
  have h := val_dec n
  have hl : lenBad (dec n) = false := by
    have h1 := nd_le n hn
    have h2 := nd_pos n
    simp only [lenBad, decide_eq_false_iff_not, not_or, not_and, dec_length]
    refine ⟨by omega, by omega, fun h3 => dec_head n ?_⟩
    rcases Nat.eq_zero_or_pos n with h0 | h0
    · subst h0
      rw [nd_small 0 (by omega)] at h3
      omega
    · exact h0
  have := parseS_ok _ hl h.2 (by rw [h.1, maxU_eq]; exact hn)
  rw [h.1] at this
  exact this
theorem val_pos (c : UInt8) (l : List UInt8) (h : isDig c = true) (hne : c ≠ 48) : 1 ≤ val (c :: l) := by
  have h1 : 48 ≤ c.toNat ∧ c.toNat ≤ 57 := by simpa [isDig] using h
  have h2 : c.toNat ≠ 48 := fun e => hne (UInt8.toNat.inj e)
  have h3 : val (c :: l) = valF (10 * 0 + (c.toNat - 48)) l := rfl
  have := valF_ge (10 * 0 + (c.toNat - 48)) l
  omega
theorem dec_val (l : List UInt8) (h0 : l ≠ []) (hd : digs l = true) (hh : 1 < l.length → l.head? ≠ some 48) : dec (val l) = l := by
  generalize hn : l.length = n
  induction n generalizing l with
  | zero => exact absurd (List.eq_nil_of_length_eq_zero hn) h0
  | succ n ih =>
    rcases snoc_cases l with h | ⟨a, c, h⟩
    · exact absurd h h0
    · subst h
      rw [digs_snoc] at hd
      have hd' : digs a = true ∧ isDig c = true := by simpa using hd
      have h1 : 48 ≤ c.toNat ∧ c.toNat ≤ 57 := by simpa [isDig] using hd'.2
      rw [val_snoc]
      cases a with
      | nil =>
        have : val [] = 0 := rfl
        rw [this, dec_small _ (by omega), Nat.mul_zero, Nat.zero_add, dig_of c hd'.2]; rfl
      | cons b t =>
        have hb : b ≠ 48 := fun e => hh (by simp) (by simp [e])
        have hdb : isDig b = true := by have := hd'.1; simp [digs] at this; exact this.1
        have hp := val_pos b t hdb hb
        have hi := ih (b :: t) (by simp) hd'.1 (fun _ => by simpa using hb) (by simpa using hn)
        rw [dec_big _ (by omega), show (10 * val (b :: t) + (c.toNat - 48)) / 10 = val (b :: t) by omega, hi, show (10 * val (b :: t) + (c.toNat - 48)) % 10 = c.toNat - 48 by omega, dig_of c hd'.2]
theorem dec_parse (l : List UInt8) (n : Nat) (h : parseS l = some n) : dec n = l ∧ n ≤ 18446744073709551615 := by
  unfold parseS at h
  split at h
  · cases h
  · rename_i hb
    split at h
    · rename_i hd
      cases h
      simp only [lenBad, decide_eq_true_eq, not_or, not_and] at hb
      refine ⟨dec_val l (fun e => hb.1 (by simp [e])) hd.1 (fun h1 => hb.2.2 h1), ?_⟩
      have := hd.2
      rw [maxU_eq] at this
      exact this
    · cases h
theorem read_hex (n : Nat) (hn : n ≤ 18446744073709551615) : rv (hexD 16 n) = n ∧ re (hexD 16 n) = 0 := by
  have h := hval_hexD 16 n
  have h1 := rS_ok (hexD 16 n) (hexD_length 16 n) h.2
  have h2 : (16 : Nat) ^ 16 = 18446744073709551616 := by decide
  rw [h.1, Nat.mod_eq_of_lt (by omega)] at h1
  exact h1
theorem hex_read (l : List UInt8) (n : Nat) (h : rS l = some n) : hexD 16 n = l ∧ n ≤ 18446744073709551615 := by
  unfold rS at h
  split at h
  · rename_i hc
    cases h
    have h1 := hexD_hval l hc.2
    rw [hc.1] at h1
    refine ⟨h1, ?_⟩
    have h2 := hval_lt l hc.2
    rw [hc.1] at h2
    have h3 : (16 : Nat) ^ 16 = 18446744073709551616 := by decide
    omega
  · cases h
theorem getB_be (k n : Nat) : getB (be k n) = n % 256 ^ k := by
  induction k generalizing n with
  | zero => simp [be, getB, getF, Nat.mod_one]
  | succ k ih =>
    have e : (UInt8.ofNat (n % 256)).toNat = n % 256 := by simp
    rw [be_last, getB_snoc, ih, e, Nat.pow_succ, Nat.mul_comm (256 ^ k) 256, Nat.mod_mul]
    omega
theorem be_getB (l : List UInt8) : be l.length (getB l) = l := by
  generalize hn : l.length = n
  induction n generalizing l with
  | zero => rw [List.eq_nil_of_length_eq_zero hn]; rfl
  | succ n ih =>
    rcases snoc_cases l with h | ⟨a, c, h⟩
    · subst h; simp at hn
    · subst h
      have hc := c.toNat_lt
      rw [getB_snoc, be_last, show (256 * getB a + c.toNat) / 256 = getB a by omega, show (256 * getB a + c.toNat) % 256 = c.toNat by omega, ih a (by simpa using hn)]
      simp
theorem lexL_be (k a b : Nat) : lexL (be k a) (be k b) = decide (a % 256 ^ k < b % 256 ^ k) := by
  induction k with
  | zero => simp [be, lexL, Nat.mod_one]
  | succ k ih =>
    have ha := bN_lt k a
    have hb := bN_lt k b
    have ea : (UInt8.ofNat (bN k a)).toNat = bN k a := by simp; omega
    have eb : (UInt8.ofNat (bN k b)).toNat = bN k b := by simp; omega
    have pa : a % 256 ^ (k + 1) = a % 256 ^ k + 256 ^ k * bN k a := Nat.mod_pow_succ
    have pb : b % 256 ^ (k + 1) = b % 256 ^ k + 256 ^ k * bN k b := Nat.mod_pow_succ
    have hp : 0 < 256 ^ k := Nat.pow_pos (by omega)
    have la := Nat.mod_lt a hp
    have lb := Nat.mod_lt b hp
    simp only [be, lexL, ea, eb]
    rw [pa, pb]
    rcases Nat.lt_trichotomy (bN k a) (bN k b) with h | h | h
    · rw [if_neg (fun e => by have := congrArg UInt8.toNat e; rw [ea, eb] at this; omega)]
      have h1 : 256 ^ k * (bN k a + 1) ≤ 256 ^ k * bN k b := Nat.mul_le_mul_left _ h
      rw [Nat.mul_add] at h1
      rw [decide_eq_decide]
      constructor
      · intro _; omega
      · intro _; exact h
    · rw [h, if_pos rfl, ih, decide_eq_decide]; omega
    · rw [if_neg (fun e => by have := congrArg UInt8.toNat e; rw [ea, eb] at this; omega)]
      have h1 : 256 ^ k * (bN k b + 1) ≤ 256 ^ k * bN k a := Nat.mul_le_mul_left _ h
      rw [Nat.mul_add] at h1
      rw [decide_eq_decide]
      constructor
      · intro _; omega
      · intro _; omega
theorem be_inj (k a b : Nat) (ha : a < 256 ^ k) (hb : b < 256 ^ k) : be k a = be k b ↔ a = b := by
  constructor
  · intro h
    have := congrArg getB h
    rw [getB_be, getB_be, Nat.mod_eq_of_lt ha, Nat.mod_eq_of_lt hb] at this
    exact this
  · intro h; rw [h]
end Go.Proofs.Ytdnjhaplofakbaa
