/- Plain mathematics of layer cell: sides, what cells may be, homes, codes. -/
import Derived.WalkKit
namespace Go.Proofs.Ytdbiaijpbkmfhaa
set_option linter.unusedVariables false
set_option linter.unusedSimpArgs false
def okC (L x y : Int) : Bool := decide (0 ≤ L ∧ L ≤ 16 ∧ 0 ≤ x ∧ x < 2 ^ L.toNat ∧ 0 ≤ y ∧ y < 2 ^ L.toNat)
theorem okC_iff (L x y : Int) : okC L x y = true ↔ (0 ≤ L ∧ L ≤ 16 ∧ 0 ≤ x ∧ x < 2 ^ L.toNat ∧ 0 ≤ y ∧ y < 2 ^ L.toNat) := by simp only [okC, decide_eq_true_eq]
theorem pow_pos' (k : Nat) : (0 : Int) < 2 ^ k := Int.pow_pos (by omega)
theorem pow_le16 (k : Nat) (h : k ≤ 16) : (2 : Int) ^ k ≤ 65536 := by
  have : (2 : Int) ^ k ≤ 2 ^ 16 := by exact_mod_cast Nat.pow_le_pow_right (by omega) h
  simpa using this
theorem side_mul (l : Nat) (h : l ≤ 16) : (2 : Int) ^ l * 2 ^ (16 - l) = 65536 := by rw [← Int.pow_add, show l + (16 - l) = 16 by omega]; rfl
theorem side_div (l : Nat) (h : l ≤ 16) : (65536 : Int) / 2 ^ l = 2 ^ (16 - l) := by
  rw [← side_mul l h]; exact Int.mul_ediv_cancel_left _ (by have := pow_pos' l; omega)
/-- A number times a side stays in the grid. -/
theorem side_bd (l : Nat) (h : l ≤ 16) (x : Int) (h0 : 0 ≤ x) (h1 : x < 2 ^ l) : 0 ≤ x * 2 ^ (16 - l) ∧ x * 2 ^ (16 - l) + 2 ^ (16 - l) ≤ 65536 := by
  have hp := pow_pos' (16 - l)
  refine ⟨Int.mul_nonneg h0 (by omega), ?_⟩
  have : (x + 1) * 2 ^ (16 - l) ≤ 2 ^ l * 2 ^ (16 - l) := Int.mul_le_mul_of_nonneg_right (by omega) (by omega)
  rw [side_mul l h, Int.add_mul, Int.one_mul] at this
  exact this
theorem div_bd (l d : Nat) (h : d ≤ l) (x : Int) (h0 : 0 ≤ x) (h1 : x < 2 ^ l) : 0 ≤ x / 2 ^ d ∧ x / 2 ^ d < 2 ^ (l - d) := by
  have hp := pow_pos' d
  refine ⟨Int.ediv_nonneg h0 (by omega), Int.ediv_lt_of_lt_mul hp ?_⟩
  rw [← Int.pow_add, show l - d + d = l by omega]; exact h1
/-- Levels by cases. -/
theorem lev (L : Int) (h0 : 0 ≤ L) (h : L ≤ 16) : ∃ l : Nat, l ≤ 16 ∧ L = (l : Int) := ⟨L.toNat, by omega, by omega⟩
/-- The side of a level's cells. -/
def sideI (L : Int) : Int := 2 ^ (16 - L).toNat
theorem sideI_nat (l : Nat) (h : l ≤ 16) : sideI (l : Int) = 2 ^ (16 - l) := by unfold sideI; congr 1; omega
def b0 (L x y : Int) : Int := if okC L x y = true then x * sideI L else 0
def b1 (L x y : Int) : Int := if okC L x y = true then y * sideI L else 0
def b2 (L x y : Int) : Int := if okC L x y = true then x * sideI L + sideI L - 1 else 0
def b3 (L x y : Int) : Int := if okC L x y = true then y * sideI L + sideI L - 1 else 0
def okA (L x y l : Int) : Bool := okC L x y && decide (0 ≤ l ∧ l ≤ L)
def a0 (L x y l : Int) : Int := if okA L x y l = true then l else 0
def a1 (L x y l : Int) : Int := if okA L x y l = true then x / 2 ^ (L - l).toNat else 0
def a2 (L x y l : Int) : Int := if okA L x y l = true then y / 2 ^ (L - l).toNat else 0
def okK (L x y i : Int) : Bool := okC L x y && decide (L ≠ 16 ∧ 0 ≤ i ∧ i ≤ 3)
def c0 (L x y i : Int) : Int := if okK L x y i = true then L + 1 else 0
def c1 (L x y i : Int) : Int := if okK L x y i = true then 2 * x + i % 2 else 0
def c2 (L x y i : Int) : Int := if okK L x y i = true then 2 * y + i / 2 else 0
def oth (n : Int) : Int := if n % 2 = 0 then n + 1 else n - 1
def okB (L x y : Int) : Bool := okC L x y && decide (L ≠ 0)
def d0 (L x y : Int) : Int := if okB L x y = true then L else 0
def d1 (L x y : Int) : Int := if okB L x y = true then oth x else 0
def d2 (L x y : Int) : Int := if okB L x y = true then y else 0
def e1 (L x y : Int) : Int := if okB L x y = true then x else 0
def e2 (L x y : Int) : Int := if okB L x y = true then oth y else 0
theorem xor_one (n : Nat) : n ^^^ 1 = if n % 2 = 0 then n + 1 else n - 1 := by
  have h : n = 2 * (n / 2) + n % 2 := by omega
  rcases Nat.mod_two_eq_zero_or_one n with e | e
  · rw [if_pos e]
    have e1 : n ^^^ 1 = n ||| 1 := by
      apply Nat.eq_of_testBit_eq; intro i
      rw [Nat.testBit_xor, Nat.testBit_or]
      cases i with
      | zero => simp [Nat.testBit_zero, e]
      | succ i => simp [Nat.testBit_succ]
    have := Nat.two_pow_add_eq_or_of_lt (i := 1) (b := 1) (by omega) (n / 2)
    rw [e1]
    rw [show 2 ^ 1 * (n / 2) = n by omega] at this
    omega
  · rw [if_neg (by omega)]
    have hn : (n - 1) % 2 = 0 := by omega
    have h2 : n = (n - 1) ||| 1 := by
      have := Nat.two_pow_add_eq_or_of_lt (i := 1) (b := 1) (by omega) ((n - 1) / 2)
      rw [show 2 ^ 1 * ((n - 1) / 2) = n - 1 by omega] at this
      omega
    apply Nat.eq_of_testBit_eq; intro i
    rw [Nat.testBit_xor]
    cases i with
    | zero => simp [Nat.testBit_zero, e, hn]
    | succ i =>
      have : n.testBit (i + 1) = (n - 1).testBit (i + 1) := by
        conv => lhs; rw [h2]
        rw [Nat.testBit_or]; simp [Nat.testBit_succ]
      rw [this]; simp [Nat.testBit_succ]
/-- Codes: digit by digit from the lowest on, and from the highest. -/
def ilv : Nat → Nat → Nat → Nat
  | 0, _, _ => 0
  | k + 1, x, y => ilv k x y + 4 ^ k * (2 * (y / 2 ^ k % 2) + x / 2 ^ k % 2)
def cod : Nat → Nat → Nat → Nat
  | 0, _, _ => 0
  | k + 1, x, y => 4 * cod k (x / 2) (y / 2) + (2 * (y % 2) + x % 2)
theorem ilv_low (k x y : Nat) : ilv (k + 1) x y = 4 * ilv k (x / 2) (y / 2) + (2 * (y % 2) + x % 2) := by
  induction k with
  | zero => simp [ilv]
  | succ k ih =>
    rw [ilv, ih, ilv, Nat.pow_succ, Nat.div_div_eq_div_mul, Nat.div_div_eq_div_mul, Nat.pow_succ, Nat.mul_comm 2 (2 ^ k)]
    generalize 2 * (y / (2 ^ k * 2) % 2) + x / (2 ^ k * 2) % 2 = D
    rw [Nat.mul_add, Nat.mul_comm (4 ^ k) 4, Nat.mul_assoc]; omega
theorem ilv_cod (k x y : Nat) : ilv k x y = cod k x y := by
  induction k generalizing x y with
  | zero => rfl
  | succ k ih => rw [ilv_low, ih, cod]
theorem ilv_lt (k x y : Nat) : ilv k x y < 4 ^ k := by
  induction k with
  | zero => simp [ilv]
  | succ k ih =>
    rw [ilv, Nat.pow_succ]
    have : 4 ^ k * (2 * (y / 2 ^ k % 2) + x / 2 ^ k % 2) ≤ 4 ^ k * 3 := Nat.mul_le_mul_left _ (by omega)
    omega
theorem ilv_or (k x y : Nat) : ilv k x y ||| (2 * (y / 2 ^ k % 2) + x / 2 ^ k % 2) * 4 ^ k = ilv (k + 1) x y := by
  have h := Nat.two_pow_add_eq_or_of_lt (i := 2 * k) (b := ilv k x y) (by rw [Nat.pow_mul]; exact ilv_lt k x y) (2 * (y / 2 ^ k % 2) + x / 2 ^ k % 2)
  rw [Nat.pow_mul] at h
  rw [ilv, Nat.or_comm, Nat.mul_comm _ (4 ^ k)]
  have e : (2 ^ 2) ^ k = 4 ^ k := rfl
  rw [e] at h
  omega
def unx : Nat → Nat → Nat
  | 0, _ => 0
  | k + 1, c => unx k c + 2 ^ k * (c / 4 ^ k % 2)
def uny : Nat → Nat → Nat
  | 0, _ => 0
  | k + 1, c => uny k c + 2 ^ k * (c / 4 ^ k / 2 % 2)
theorem unx_lt (k c : Nat) : unx k c < 2 ^ k := by
  induction k with
  | zero => simp [unx]
  | succ k ih =>
    rw [unx, Nat.pow_succ]
    have : 2 ^ k * (c / 4 ^ k % 2) ≤ 2 ^ k * 1 := Nat.mul_le_mul_left _ (by omega)
    omega
theorem uny_lt (k c : Nat) : uny k c < 2 ^ k := by
  induction k with
  | zero => simp [uny]
  | succ k ih =>
    rw [uny, Nat.pow_succ]
    have : 2 ^ k * (c / 4 ^ k / 2 % 2) ≤ 2 ^ k * 1 := Nat.mul_le_mul_left _ (by omega)
    omega
theorem unx_or (k c : Nat) : unx k c ||| (c / 4 ^ k % 2) * 2 ^ k = unx (k + 1) c := by
  have h := Nat.two_pow_add_eq_or_of_lt (i := k) (b := unx k c) (unx_lt k c) (c / 4 ^ k % 2)
  rw [unx, Nat.or_comm, Nat.mul_comm _ (2 ^ k)]; omega
theorem uny_or (k c : Nat) : uny k c ||| (c / 4 ^ k / 2 % 2) * 2 ^ k = uny (k + 1) c := by
  have h := Nat.two_pow_add_eq_or_of_lt (i := k) (b := uny k c) (uny_lt k c) (c / 4 ^ k / 2 % 2)
  rw [uny, Nat.or_comm, Nat.mul_comm _ (2 ^ k)]; omega
theorem div_four (k c : Nat) : c / 4 ^ (k + 1) = c / 4 / 4 ^ k := by rw [Nat.div_div_eq_div_mul, Nat.pow_succ, Nat.mul_comm]
theorem unx_low (k c : Nat) : unx (k + 1) c = 2 * unx k (c / 4) + c % 2 := by
  induction k with
  | zero => simp [unx]
  | succ k ih =>
    rw [unx, ih, unx, Nat.pow_succ, div_four]
    generalize c / 4 / 4 ^ k % 2 = D
    rw [Nat.mul_add, Nat.mul_comm (2 ^ k) 2, Nat.mul_assoc]; omega
theorem uny_low (k c : Nat) : uny (k + 1) c = 2 * uny k (c / 4) + c / 2 % 2 := by
  induction k with
  | zero => simp [uny]
  | succ k ih =>
    rw [uny, ih, uny, Nat.pow_succ, div_four]
    generalize c / 4 / 4 ^ k / 2 % 2 = D
    rw [Nat.mul_add, Nat.mul_comm (2 ^ k) 2, Nat.mul_assoc]; omega
theorem cod_un (k c : Nat) (h : c < 4 ^ k) : cod k (unx k c) (uny k c) = c := by
  induction k generalizing c with
  | zero => simp [cod]; simp at h; omega
  | succ k ih =>
    rw [Nat.pow_succ] at h
    rw [cod, unx_low, uny_low]
    have e1 : (2 * unx k (c / 4) + c % 2) / 2 = unx k (c / 4) := by omega
    have e2 : (2 * uny k (c / 4) + c / 2 % 2) / 2 = uny k (c / 4) := by omega
    rw [e1, e2, ih (c / 4) (by omega)]; omega
theorem un_cod (k x y : Nat) (hx : x < 2 ^ k) (hy : y < 2 ^ k) : unx k (cod k x y) = x ∧ uny k (cod k x y) = y := by
  induction k generalizing x y with
  | zero => simp [unx, uny]; simp at hx hy; omega
  | succ k ih =>
    rw [Nat.pow_succ] at hx hy
    have := ih (x / 2) (y / 2) (by omega) (by omega)
    rw [unx_low, uny_low, cod]
    have e : (4 * cod k (x / 2) (y / 2) + (2 * (y % 2) + x % 2)) / 4 = cod k (x / 2) (y / 2) := by omega
    rw [e, this.1, this.2]; omega
theorem cod_lt (k x y : Nat) : cod k x y < 4 ^ k := by rw [← ilv_cod]; exact ilv_lt k x y
/-- Homes: the greatest level at which both ends of a rectangle are in one cell. -/
def smB (a b c d : Int) (l : Nat) : Bool := decide (a / 2 ^ (16 - l) = c / 2 ^ (16 - l) ∧ b / 2 ^ (16 - l) = d / 2 ^ (16 - l))
def hlv (a b c d : Int) : Nat → Nat
  | 0 => 0
  | l + 1 => if smB a b c d (l + 1) = true then l + 1 else hlv a b c d l
theorem sm_down (a b c d : Int) (l : Nat) (hl : l < 16) (h : smB a b c d (l + 1) = true) : smB a b c d l = true := by
  simp only [smB, decide_eq_true_eq] at h ⊢
  have e : 16 - l = 16 - (l + 1) + 1 := by omega
  have dv : ∀ n : Int, n / 2 ^ (16 - l) = n / 2 ^ (16 - (l + 1)) / 2 := by
    intro n; rw [e, Int.pow_succ, Int.ediv_ediv_of_nonneg (by have := pow_pos' (16 - (l + 1)); omega)]
  rw [dv, dv, dv, dv, h.1, h.2]; simp
theorem sm_le (a b c d : Int) (l m : Nat) (hm : m ≤ 16) (h : l ≤ m) (hs : smB a b c d m = true) : smB a b c d l = true := by
  induction m with
  | zero => obtain rfl : l = 0 := by omega
            exact hs
  | succ m ih =>
    by_cases e : l = m + 1
    · subst e; exact hs
    · exact ih (by omega) (by omega) (sm_down a b c d m (by omega) hs)
theorem hlv_le (a b c d : Int) (n : Nat) : hlv a b c d n ≤ n := by
  induction n with
  | zero => exact Nat.le_refl _
  | succ n ih => rw [hlv]; split <;> omega
theorem hlv_sm (a b c d : Int) (n : Nat) (h0 : smB a b c d 0 = true) : smB a b c d (hlv a b c d n) = true := by
  induction n with
  | zero => exact h0
  | succ n ih => rw [hlv]; split <;> assumption
theorem hlv_of (a b c d : Int) (n k : Nat) (hn : n ≤ 16) (hk : k < n) (h1 : smB a b c d k = true) (h2 : smB a b c d (k + 1) = false) : hlv a b c d n = k := by
  induction n with
  | zero => omega
  | succ n ih =>
    rw [hlv]
    by_cases e : k = n
    · subst e
      rw [h2]
      simp only [Bool.false_eq_true, if_false]
      cases k with
      | zero => rfl
      | succ k => rw [hlv, if_pos h1]
    · have : smB a b c d (n + 1) = false := by
        rcases Bool.eq_false_or_eq_true (smB a b c d (n + 1)) with h | h
        · exact absurd (sm_le a b c d (k + 1) (n + 1) hn (by omega) h) (by rw [h2]; simp)
        · exact h
      rw [this]
      simp only [Bool.false_eq_true, if_false]
      exact ih (by omega) (by omega)
theorem hlv_top (a b c d : Int) (h : smB a b c d 16 = true) : hlv a b c d 16 = 16 := by rw [hlv, if_pos h]
end Go.Proofs.Ytdbiaijpbkmfhaa
