/- Plain mathematics of layer cell's laws. -/
import Derived.Test.YtdbiaijpbkmfhaaCellHome
import Derived.Test.YtdbiaijpbkmfhaaCellCode
import Derived.Test.YtdbiaijpbkmfhaaCellFrom
import Derived.Test.YtdbiaijpbkmfhaaGeomUP
namespace Go.Proofs.Ytdbiaijpbkmfhaa
set_option linter.unusedVariables false
set_option linter.unusedSimpArgs false
theorem oksplit (a b c d lv : Int) (h : okS a b c d lv = true) : rightB a b c d = true ∧ levB lv = true := by simpa [okS] using h
/-- Snapped ends, halved again: the same. -/
theorem twice (l m : Nat) (x s t : Int) (hm : m ≤ l) (hl : l ≤ 16) (h0 : 0 ≤ x) (hs : (2 : Int) ^ (16 - l) = s) (ht : (2 : Int) ^ (16 - m) = t) :
    x / s * s / t = x / t ∧ (x / s * s + s - 1) / t = x / t := by
  have sp := pow_pos' (16 - l)
  have ht2 : t = s * 2 ^ (l - m) := by rw [← ht, ← hs, ← Int.pow_add, show 16 - l + (l - m) = 16 - m by omega]
  rw [hs] at sp
  have e : ∀ y : Int, y / t = y / s / 2 ^ (l - m) := fun y => by rw [ht2, Int.ediv_ediv_of_nonneg (by omega)]
  have e1 : x / s * s / s = x / s := Int.mul_ediv_cancel _ (by omega)
  have e2 : (x / s * s + s - 1) / s = x / s := by
    rw [show x / s * s + s - 1 = (s - 1) + x / s * s by omega, Int.add_mul_ediv_right _ _ (by omega), Int.ediv_eq_zero_of_lt (by omega) (by omega)]; omega
  rw [e, e, e, e1, e2]; exact ⟨rfl, rfl⟩
theorem fl_le (x t : Int) (ht : 0 < t) : x / t * t ≤ x ∧ x < x / t * t + t := by
  have h4 := Int.emod_add_mul_ediv x t
  have h2 := Int.emod_nonneg x (show t ≠ 0 by omega)
  have h3 := Int.emod_lt_of_pos x ht
  rw [Int.mul_comm] at h4
  omega
theorem again (a b c d : Int) (l m : Nat) (hl : l ≤ 16) (hm : m ≤ l) (h : rightB a b c d = true) :
    okS (s0 a b c d l) (s1 a b c d l) (s2 a b c d l) (s3 a b c d l) m = true ∧
    s0 (s0 a b c d l) (s1 a b c d l) (s2 a b c d l) (s3 a b c d l) m = s0 a b c d m ∧ s1 (s0 a b c d l) (s1 a b c d l) (s2 a b c d l) (s3 a b c d l) m = s1 a b c d m ∧
    s2 (s0 a b c d l) (s1 a b c d l) (s2 a b c d l) (s3 a b c d l) m = s2 a b c d m ∧ s3 (s0 a b c d l) (s1 a b c d l) (s2 a b c d l) (s3 a b c d l) m = s3 a b c d m ∧
    insB (s0 a b c d l) (s1 a b c d l) (s2 a b c d l) (s3 a b c d l) (s0 a b c d m) (s1 a b c d m) (s2 a b c d m) (s3 a b c d m) = true := by
  have hr := (rightB_iff _ _ _ _).1 h
  have hL : okS a b c d l = true := by rw [okS, h, (levB_iff _).2 (by omega)]; rfl
  have hM : okS a b c d m = true := by rw [okS, h, (levB_iff _).2 (by omega)]; rfl
  obtain ⟨p0, p1, x0, x1, x2, x3, x4, x5, x6⟩ := snap_math l a c _ hl (by omega) (by omega) (by omega) rfl
  obtain ⟨_, _, y0, y1, y2, y3, y4, y5, y6⟩ := snap_math l b d _ hl (by omega) (by omega) (by omega) rfl
  obtain ⟨q0, q1, u0, u1, u2, u3, u4, u5, u6⟩ := snap_math m a c _ (by omega) (by omega) (by omega) (by omega) rfl
  obtain ⟨_, _, v0, v1, v2, v3, v4, v5, v6⟩ := snap_math m b d _ (by omega) (by omega) (by omega) (by omega) rfl
  obtain ⟨ta, ta'⟩ := twice l m a _ _ hm hl (by omega) rfl rfl
  obtain ⟨tb, tb'⟩ := twice l m b _ _ hm hl (by omega) rfl rfl
  obtain ⟨tc, tc'⟩ := twice l m c _ _ hm hl (by omega) rfl rfl
  obtain ⟨td, td'⟩ := twice l m d _ _ hm hl (by omega) rfl rfl
  have fa := fl_le (a / 2 ^ (16 - l) * 2 ^ (16 - l)) _ q0
  have fb := fl_le (b / 2 ^ (16 - l) * 2 ^ (16 - l)) _ q0
  have fc := fl_le (c / 2 ^ (16 - l) * 2 ^ (16 - l) + 2 ^ (16 - l) - 1) _ q0
  have fd := fl_le (d / 2 ^ (16 - l) * 2 ^ (16 - l) + 2 ^ (16 - l) - 1) _ q0
  rw [ta] at fa; rw [tb] at fb; rw [tc'] at fc; rw [td'] at fd
  have e0 : s0 a b c d l = a / 2 ^ (16 - l) * 2 ^ (16 - l) := by rw [s0, if_pos hL, sideI_nat l hl]
  have e1 : s1 a b c d l = b / 2 ^ (16 - l) * 2 ^ (16 - l) := by rw [s1, if_pos hL, sideI_nat l hl]
  have e2 : s2 a b c d l = c / 2 ^ (16 - l) * 2 ^ (16 - l) + 2 ^ (16 - l) - 1 := by rw [s2, if_pos hL, sideI_nat l hl]
  have e3 : s3 a b c d l = d / 2 ^ (16 - l) * 2 ^ (16 - l) + 2 ^ (16 - l) - 1 := by rw [s3, if_pos hL, sideI_nat l hl]
  have m0 : s0 a b c d m = a / 2 ^ (16 - m) * 2 ^ (16 - m) := by rw [s0, if_pos hM, sideI_nat m (by omega)]
  have m1 : s1 a b c d m = b / 2 ^ (16 - m) * 2 ^ (16 - m) := by rw [s1, if_pos hM, sideI_nat m (by omega)]
  have m2 : s2 a b c d m = c / 2 ^ (16 - m) * 2 ^ (16 - m) + 2 ^ (16 - m) - 1 := by rw [s2, if_pos hM, sideI_nat m (by omega)]
  have m3 : s3 a b c d m = d / 2 ^ (16 - m) * 2 ^ (16 - m) + 2 ^ (16 - m) - 1 := by rw [s3, if_pos hM, sideI_nat m (by omega)]
  have hR : rightB (s0 a b c d l) (s1 a b c d l) (s2 a b c d l) (s3 a b c d l) = true := by rw [rightB_iff, e0, e1, e2, e3]; omega
  have hK : okS (s0 a b c d l) (s1 a b c d l) (s2 a b c d l) (s3 a b c d l) m = true := by rw [okS, hR, (levB_iff _).2 (by omega)]; rfl
  refine ⟨hK, ?_, ?_, ?_, ?_, ?_⟩
  · rw [s0, if_pos hK, sideI_nat m (by omega), m0, e0, ta]
  · rw [s1, if_pos hK, sideI_nat m (by omega), m1, e1, tb]
  · rw [s2, if_pos hK, sideI_nat m (by omega), m2, e2, tc']
  · rw [s3, if_pos hK, sideI_nat m (by omega), m3, e3, td']
  · rw [insB_iff, e0, e1, e2, e3, m0, m1, m2, m3]; omega
/-- A point's cell and a rectangle. -/
theorem meets_snap (a b c d x y : Int) (l : Nat) (hl : l ≤ 16) (h : rightB a b c d = true) (hp : fitsB x y = true) :
    ∃ A B : Int, okM (x / 2 ^ (16 - l) * 2 ^ (16 - l)) (y / 2 ^ (16 - l) * 2 ^ (16 - l)) (x / 2 ^ (16 - l) * 2 ^ (16 - l) + 2 ^ (16 - l) - 1) (y / 2 ^ (16 - l) * 2 ^ (16 - l) + 2 ^ (16 - l) - 1) a b c d = hasB (s0 a b c d l) (s1 a b c d l) (s2 a b c d l) (s3 a b c d l) x y ∧
    insB a b c d (s0 a b c d l) (s1 a b c d l) (s2 a b c d l) (s3 a b c d l) = true ∧
    okM (x / 2 ^ (16 - l) * 2 ^ (16 - l)) (y / 2 ^ (16 - l) * 2 ^ (16 - l)) (x / 2 ^ (16 - l) * 2 ^ (16 - l) + 2 ^ (16 - l) - 1) (y / 2 ^ (16 - l) * 2 ^ (16 - l) + 2 ^ (16 - l) - 1) (s0 a b c d l) (s1 a b c d l) (s2 a b c d l) (s3 a b c d l) = insB (x / 2 ^ (16 - l) * 2 ^ (16 - l)) (y / 2 ^ (16 - l) * 2 ^ (16 - l)) (x / 2 ^ (16 - l) * 2 ^ (16 - l) + 2 ^ (16 - l) - 1) (y / 2 ^ (16 - l) * 2 ^ (16 - l) + 2 ^ (16 - l) - 1) (s0 a b c d l) (s1 a b c d l) (s2 a b c d l) (s3 a b c d l) := by
  have hr := (rightB_iff _ _ _ _).1 h
  have hf := (fitsB_iff _ _).1 hp
  have hL : okS a b c d l = true := by rw [okS, h, (levB_iff _).2 (by omega)]; rfl
  have e0 : s0 a b c d l = a / 2 ^ (16 - l) * 2 ^ (16 - l) := by rw [s0, if_pos hL, sideI_nat l hl]
  have e1 : s1 a b c d l = b / 2 ^ (16 - l) * 2 ^ (16 - l) := by rw [s1, if_pos hL, sideI_nat l hl]
  have e2 : s2 a b c d l = c / 2 ^ (16 - l) * 2 ^ (16 - l) + 2 ^ (16 - l) - 1 := by rw [s2, if_pos hL, sideI_nat l hl]
  have e3 : s3 a b c d l = d / 2 ^ (16 - l) * 2 ^ (16 - l) + 2 ^ (16 - l) - 1 := by rw [s3, if_pos hL, sideI_nat l hl]
  obtain ⟨p0, p1, x0, x1, x2, x3, x4, x5, x6⟩ := snap_math l a c _ hl (by omega) (by omega) (by omega) rfl
  obtain ⟨_, _, y0, y1, y2, y3, y4, y5, y6⟩ := snap_math l b d _ hl (by omega) (by omega) (by omega) rfl
  obtain ⟨_, _, u0, _, u2, u3, u4, u5, _⟩ := snap_math l x x _ hl (by omega) (by omega) (by omega) rfl
  obtain ⟨_, _, v0, _, v2, v3, v4, v5, _⟩ := snap_math l y y _ hl (by omega) (by omega) (by omega) rfl
  -- steps of a side: one cell, or at least a side apart
  have step : ∀ p q : Int, p / 2 ^ (16 - l) * 2 ^ (16 - l) < q / 2 ^ (16 - l) * 2 ^ (16 - l) → p / 2 ^ (16 - l) * 2 ^ (16 - l) + 2 ^ (16 - l) ≤ q / 2 ^ (16 - l) * 2 ^ (16 - l) := by
    intro p q hpq
    have h1 : p / 2 ^ (16 - l) < q / 2 ^ (16 - l) := Int.lt_of_mul_lt_mul_right hpq (by omega)
    have h2 : (p / 2 ^ (16 - l) + 1) * 2 ^ (16 - l) ≤ q / 2 ^ (16 - l) * 2 ^ (16 - l) := Int.mul_le_mul_of_nonneg_right (by omega) (by omega)
    rw [Int.add_mul, Int.one_mul] at h2; exact h2
  have k1 := step x a
  have k2 := step c x
  have k3 := step y b
  have k4 := step d y
  rw [e0, e1, e2, e3]
  refine ⟨0, 0, ?_, ?_, ?_⟩
  all_goals generalize a / 2 ^ (16 - l) * 2 ^ (16 - l) = A at *
  all_goals generalize b / 2 ^ (16 - l) * 2 ^ (16 - l) = B at *
  all_goals generalize c / 2 ^ (16 - l) * 2 ^ (16 - l) = C at *
  all_goals generalize d / 2 ^ (16 - l) * 2 ^ (16 - l) = D at *
  all_goals generalize x / 2 ^ (16 - l) * 2 ^ (16 - l) = X at *
  all_goals generalize y / 2 ^ (16 - l) * 2 ^ (16 - l) = Y at *
  all_goals generalize (2 : Int) ^ (16 - l) = s at *
  · rw [Bool.eq_iff_iff, hasB_iff, okM, Bool.and_eq_true, Bool.and_eq_true, rightB_iff, rightB_iff, rightB_iff]; omega
  · rw [insB_iff]; omega
  · rw [Bool.eq_iff_iff, insB_iff, okM, Bool.and_eq_true, Bool.and_eq_true, rightB_iff, rightB_iff, rightB_iff]; omega
end Go.Proofs.Ytdbiaijpbkmfhaa
