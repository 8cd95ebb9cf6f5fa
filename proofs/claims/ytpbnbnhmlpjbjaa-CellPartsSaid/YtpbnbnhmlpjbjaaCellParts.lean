/- Plain mathematics: the children part a cell's box. -/
import Derived.Test.YtpbnbnhmlpjbjaaCellMath3
namespace Go.Proofs.Ytpbnbnhmlpjbjaa
set_option linter.unusedVariables false
set_option linter.unusedSimpArgs false
def qsum (Q : Int) : Nat → Int
  | 0 => 0
  | k + 1 => qsum Q k + Q
theorem qsum_bd (Q : Int) (h0 : 0 ≤ Q) (h1 : Q ≤ 1073741824) (k : Nat) (hk : k ≤ 4) : 0 ≤ qsum Q k ∧ qsum Q k ≤ 4294967296 := by
  match k, hk with
  | 0, _ => simp [qsum]
  | 1, _ => simp only [qsum]; omega
  | 2, _ => simp only [qsum]; omega
  | 3, _ => simp only [qsum]; omega
  | 4, _ => simp only [qsum]; omega
def kx (x s : Int) (j : Int) : Int := (2 * x + j % 2) * s
def ky (y s : Int) (j : Int) : Int := (2 * y + j / 2) * s
def hk (x y s px py : Int) (j : Int) : Bool := hasB (kx x s j) (ky y s j) (kx x s j + s - 1) (ky y s j + s - 1) px py
def pcnt (x y s px py : Int) : Nat → Int
  | 0 => 0
  | k + 1 => pcnt x y s px py k + if hk x y s px py (k : Int) = true then 1 else 0
theorem pcnt_bd (x y s px py : Int) (k : Nat) : 0 ≤ pcnt x y s px py k ∧ pcnt x y s px py k ≤ k := by
  induction k with
  | zero => simp [pcnt]
  | succ k ih => rw [pcnt]; split <;> omega
theorem part_all (l : Nat) (x y s t px py : Int) (hl : l < 16) (hc : okC (l : Int) x y = true) (hs : (2 : Int) ^ (16 - l) = s) (ht : (2 : Int) ^ (16 - (l + 1)) = t) :
    0 < t ∧ t ≤ 32768 ∧ 0 ≤ t * t ∧ t * t ≤ 1073741824 ∧
    (∀ j : Int, 0 ≤ j → j ≤ 3 → insB (kx x t j) (ky y t j) (kx x t j + t - 1) (ky y t j + t - 1) (x * s) (y * s) (x * s + s - 1) (y * s + s - 1) = true ∧ areaU (kx x t j) (ky y t j) (kx x t j + t - 1) (ky y t j + t - 1) = t * t) ∧
    areaU (x * s) (y * s) (x * s + s - 1) (y * s + s - 1) = qsum (t * t) 4 ∧
    hasB (x * s) (y * s) (x * s + s - 1) (y * s + s - 1) px py = (pcnt x y t px py 4 == 1) ∧ pcnt x y t px py 4 ≤ 1 := by
  have tp := pow_pos' (16 - (l + 1))
  have tl : (2 : Int) ^ (16 - (l + 1)) ≤ 32768 := by
    have : (2 : Int) ^ (16 - (l + 1)) ≤ 2 ^ 15 := by exact_mod_cast Nat.pow_le_pow_right (by omega) (by omega)
    simpa using this
  have est : s = 2 * t := by rw [← hs, ← ht, show 16 - l = 16 - (l + 1) + 1 by omega, Int.pow_succ]; omega
  obtain ⟨_, _, hx0, hx1, hy0, hy1⟩ := (okC_iff _ _ _).1 hc
  simp only [Int.toNat_natCast] at hx1 hy1
  have bx := side_bd l (by omega) x hx0 hx1
  have bb := side_bd l (by omega) y hy0 hy1
  rw [hs] at bx bb
  rw [ht] at tp tl
  have ex : x * s = 2 * (x * t) := by rw [est, ← Int.mul_assoc, Int.mul_comm x 2, Int.mul_assoc]
  have ey : y * s = 2 * (y * t) := by rw [est, ← Int.mul_assoc, Int.mul_comm y 2, Int.mul_assoc]
  have kxe : ∀ j : Int, kx x t j = 2 * (x * t) + j % 2 * t := fun j => by rw [kx, Int.add_mul, Int.mul_assoc]
  have kye : ∀ j : Int, ky y t j = 2 * (y * t) + j / 2 * t := fun j => by rw [ky, Int.add_mul, Int.mul_assoc]
  have h00 : (0 : Int) * t = 0 := Int.zero_mul t
  have h11 : (1 : Int) * t = t := Int.one_mul t
  have tt0 : 0 ≤ t * t := Int.mul_nonneg (by omega) (by omega)
  have tt1 : t * t ≤ 1073741824 := by have := Int.mul_le_mul tl tl (by omega) (by omega); omega
  have area : ∀ A B u : Int, 0 < u → 0 ≤ A → 0 ≤ B → A + u ≤ 65536 → B + u ≤ 65536 → areaU A B (A + u - 1) (B + u - 1) = u * u := by
    intro A B u h1 h2 h3 h4 h5
    rw [areaU, if_pos ((rightB_iff _ _ _ _).2 (by omega)), show A + u - 1 - A + 1 = u by omega, show B + u - 1 - B + 1 = u by omega]
  have ev : ∀ j : Int, 0 ≤ j → j ≤ 3 → (j % 2 * t = 0 ∨ j % 2 * t = t) ∧ (j / 2 * t = 0 ∨ j / 2 * t = t) := by
    intro j h0 h3
    have e1 : j % 2 = 0 ∨ j % 2 = 1 := by omega
    have e2 : j / 2 = 0 ∨ j / 2 = 1 := by omega
    constructor
    · rcases e1 with e | e <;> rw [e] <;> simp
    · rcases e2 with e | e <;> rw [e] <;> simp
  refine ⟨tp, tl, tt0, tt1, fun j h0 h3 => ?_, ?_, ?_⟩
  · obtain ⟨v1, v2⟩ := ev j h0 h3
    rw [kxe, kye, ex, ey, est]
    rw [ex] at bx; rw [ey] at bb; rw [est] at bx bb
    generalize x * t = X at *
    generalize y * t = Y at *
    generalize j % 2 * t = U at *
    generalize j / 2 * t = V at *
    exact ⟨(insB_iff _ _ _ _ _ _ _ _).2 (by omega), area _ _ _ tp (by omega) (by omega) (by omega) (by omega)⟩
  · rw [area _ _ _ (by omega) (by omega) (by omega) (by omega) (by omega), est]
    have e4 : 2 * t * (2 * t) = 4 * (t * t) := by rw [Int.mul_assoc, ← Int.mul_assoc t 2 t, Int.mul_comm t 2, Int.mul_assoc, ← Int.mul_assoc 2 2]; rfl
    rw [e4]; simp only [qsum]; omega
  · have k0 : pcnt x y t px py 4 = (if hk x y t px py 0 = true then 1 else 0) + (if hk x y t px py 1 = true then 1 else 0) + (if hk x y t px py 2 = true then 1 else 0) + (if hk x y t px py 3 = true then 1 else 0) := by
      simp only [pcnt]; simp
    have i0 : hk x y t px py 0 = true ↔ _ := hasB_iff _ _ _ _ _ _
    have i1 : hk x y t px py 1 = true ↔ _ := hasB_iff _ _ _ _ _ _
    have i2 : hk x y t px py 2 = true ↔ _ := hasB_iff _ _ _ _ _ _
    have i3 : hk x y t px py 3 = true ↔ _ := hasB_iff _ _ _ _ _ _
    rw [kxe, kye] at i0 i1 i2 i3
    rw [show (0 : Int) % 2 = 0 by decide, show (0 : Int) / 2 = 0 by decide, h00] at i0
    rw [show (1 : Int) % 2 = 1 by decide, show (1 : Int) / 2 = 0 by decide, h00, h11] at i1
    rw [show (2 : Int) % 2 = 0 by decide, show (2 : Int) / 2 = 1 by decide, h00, h11] at i2
    rw [show (3 : Int) % 2 = 1 by decide, show (3 : Int) / 2 = 1 by decide, h11] at i3
    have ib := hasB_iff (x * s) (y * s) (x * s + s - 1) (y * s + s - 1) px py
    simp only [ex, ey] at ib bx bb ⊢
    simp only [est] at ib bx bb ⊢
    rw [k0, Bool.eq_iff_iff, ib, beq_iff_eq]
    generalize x * t = X at *
    generalize y * t = Y at *
    clear ib k0 ev kxe kye area ex ey est hs ht tt0 tt1
    rcases Bool.eq_false_or_eq_true (hk x y t px py 0) with g0 | g0 <;> rcases Bool.eq_false_or_eq_true (hk x y t px py 1) with g1 | g1 <;> rcases Bool.eq_false_or_eq_true (hk x y t px py 2) with g2 | g2 <;> rcases Bool.eq_false_or_eq_true (hk x y t px py 3) with g3 | g3 <;> simp only [g0, g1, g2, g3, true_iff, false_iff, Bool.false_eq_true, if_true, if_false] at i0 i1 i2 i3 ⊢ <;> omega
theorem parent_child (l : Nat) (x y j : Int) (hl : l < 16) (hc : okC (l : Int) x y = true) (h0 : 0 ≤ j) (h3 : j ≤ 3) :
    okA ((l : Int) + 1) (2 * x + j % 2) (2 * y + j / 2) ((l : Int) + 1 - 1) = true ∧ a0 ((l : Int) + 1) (2 * x + j % 2) (2 * y + j / 2) ((l : Int) + 1 - 1) = l ∧ a1 ((l : Int) + 1) (2 * x + j % 2) (2 * y + j / 2) ((l : Int) + 1 - 1) = x ∧ a2 ((l : Int) + 1) (2 * x + j % 2) (2 * y + j / 2) ((l : Int) + 1 - 1) = y := by
  obtain ⟨_, hC, _, _, _⟩ := child_box l x y j hl hc h0 h3
  have e1 : ((l + 1 : Nat) : Int) = (l : Int) + 1 := by push_cast; rfl
  rw [e1] at hC
  have hA : okA ((l : Int) + 1) (2 * x + j % 2) (2 * y + j / 2) ((l : Int) + 1 - 1) = true := by rw [okA, hC, Bool.true_and, decide_eq_true_eq]; omega
  have e2 : ((l : Int) + 1 - ((l : Int) + 1 - 1)).toNat = 1 := by omega
  have p1 : (2 : Int) ^ 1 = 2 := by decide
  refine ⟨hA, by rw [a0, if_pos hA]; omega, by rw [a1, if_pos hA, e2, p1]; omega, by rw [a2, if_pos hA, e2, p1]; omega⟩
end Go.Proofs.Ytpbnbnhmlpjbjaa
