/- Plain mathematics of layer cell's laws (2). -/
import Derived.Test.YtdbiaijpbkmfhaaCellMath2
import Derived.Test.YtdbiaijpbkmfhaaCellKid
namespace Go.Proofs.Ytdbiaijpbkmfhaa
set_option linter.unusedVariables false
set_option linter.unusedSimpArgs false
theorem pow_split (l L : Nat) (hl : l ≤ L) (hL : L ≤ 16) : (2 : Int) ^ (16 - l) = 2 ^ (16 - L) * 2 ^ (L - l) := by rw [← Int.pow_add, show 16 - L + (L - l) = 16 - l by omega]
/-- A cell and the one that it stands under. -/
theorem above_one (l L : Nat) (X x s t : Int) (hl : l ≤ L) (hL : L ≤ 16) (hX : 0 ≤ X) (hs : (2 : Int) ^ (16 - L) = s) (ht : (2 : Int) ^ (16 - l) = t) :
    X / 2 ^ (L - l) * t ≤ X * s ∧ X * s + s - 1 ≤ X / 2 ^ (L - l) * t + t - 1 ∧ (X * s ≤ x → x ≤ X * s + s - 1 → x / t = X / 2 ^ (L - l)) := by
  have sp := pow_pos' (16 - L)
  have tp := pow_pos' (16 - l)
  have h2 := pow_split l L hl hL
  rw [hs] at sp h2; rw [ht] at tp h2
  have e : ∀ y : Int, y / t = y / s / 2 ^ (L - l) := fun y => by rw [h2, Int.ediv_ediv_of_nonneg (by omega)]
  have e1 : X * s / s = X := Int.mul_ediv_cancel _ (by omega)
  have e2 : (X * s + s - 1) / s = X := by
    rw [show X * s + s - 1 = (s - 1) + X * s by omega, Int.add_mul_ediv_right _ _ (by omega), Int.ediv_eq_zero_of_lt (by omega) (by omega)]; omega
  have f1 := fl_le (X * s) t tp
  have f2 := fl_le (X * s + s - 1) t tp
  rw [e, e1] at f1; rw [e, e2] at f2
  refine ⟨f1.1, by omega, fun a b => ?_⟩
  have e3 : x / s = X := by
    have h3 : X ≤ x / s := (Int.le_ediv_iff_mul_le sp).2 a
    have h4 : x / s < X + 1 := Int.ediv_lt_of_lt_mul sp (by rw [Int.add_mul, Int.one_mul]; omega)
    omega
  rw [e, e3]
theorem above_math (L X Y l x y : Int) (h : okA L X Y l = true) :
    insB (b0 L X Y) (b1 L X Y) (b2 L X Y) (b3 L X Y) (b0 (a0 L X Y l) (a1 L X Y l) (a2 L X Y l)) (b1 (a0 L X Y l) (a1 L X Y l) (a2 L X Y l)) (b2 (a0 L X Y l) (a1 L X Y l) (a2 L X Y l)) (b3 (a0 L X Y l) (a1 L X Y l) (a2 L X Y l)) = true ∧
    (hasB (b0 L X Y) (b1 L X Y) (b2 L X Y) (b3 L X Y) x y = true → okA 16 x y l = true ∧ a0 16 x y l = a0 L X Y l ∧ a1 16 x y l = a1 L X Y l ∧ a2 16 x y l = a2 L X Y l) := by
  have h' := h
  rw [okA, Bool.and_eq_true, decide_eq_true_eq] at h'
  obtain ⟨hc, hl0, hl1⟩ := h'
  obtain ⟨g0, g1, gx0, gx1, gy0, gy1⟩ := okC_16 _ _ _ hc
  obtain ⟨N, rfl⟩ := Int.eq_ofNat_of_zero_le g0
  obtain ⟨n, rfl⟩ := Int.eq_ofNat_of_zero_le hl0
  have hn : n ≤ N := by omega
  have hN : N ≤ 16 := by omega
  obtain ⟨_, _, _, hx1, _, hy1⟩ := (okC_iff _ _ _).1 hc
  simp only [Int.toNat_natCast] at hx1 hy1
  have dx := div_bd N (N - n) (by omega) X gx0 hx1
  have dy := div_bd N (N - n) (by omega) Y gy0 hy1
  rw [show N - (N - n) = n by omega] at dx dy
  have ed : ((N : Int) - n).toNat = N - n := by omega
  have eA0 : a0 (N : Int) X Y n = n := by rw [a0, if_pos h]
  have eA1 : a1 (N : Int) X Y n = X / 2 ^ (N - n) := by rw [a1, if_pos h, ed]
  have eA2 : a2 (N : Int) X Y n = Y / 2 ^ (N - n) := by rw [a2, if_pos h, ed]
  have hA : okC (n : Int) (X / 2 ^ (N - n)) (Y / 2 ^ (N - n)) = true := (okC_iff _ _ _).2 (by simp only [Int.toNat_natCast]; omega)
  have sb := side_bd N hN X gx0 hx1
  have sc := side_bd N hN Y gy0 hy1
  have sa := side_bd n (by omega) _ dx.1 dx.2
  have sd := side_bd n (by omega) _ dy.1 dy.2
  have sp := pow_pos' (16 - N)
  have tp := pow_pos' (16 - n)
  obtain ⟨u1, u2, u3⟩ := above_one n N X x _ _ hn hN gx0 rfl rfl
  obtain ⟨v1, v2, v3⟩ := above_one n N Y y _ _ hn hN gy0 rfl rfl
  rw [eA0, eA1, eA2]
  simp only [b0, b1, b2, b3, hc, hA, if_true, sideI_nat N hN, sideI_nat n (show n ≤ 16 by omega)]
  refine ⟨?_, fun hh => ?_⟩
  · rw [insB_iff]
    generalize X / 2 ^ (N - n) * 2 ^ (16 - n) = A at *
    generalize Y / 2 ^ (N - n) * 2 ^ (16 - n) = B at *
    generalize X * 2 ^ (16 - N) = C at *
    generalize Y * 2 ^ (16 - N) = D at *
    omega
  · rw [hasB_iff] at hh
    have hf : fitsB x y = true := (fitsB_iff _ _).2 (by omega)
    have ho : okA 16 x y (n : Int) = true := by
      rw [okA, Bool.and_eq_true, decide_eq_true_eq]
      refine ⟨(okC_iff _ _ _).2 ?_, by omega⟩
      have := (fitsB_iff _ _).1 hf
      simp; omega
    have e16 : ((16 : Int) - n).toNat = 16 - n := by omega
    refine ⟨ho, by rw [a0, if_pos ho], by rw [a1, if_pos ho, e16]; exact u3 (by omega) (by omega), by rw [a2, if_pos ho, e16]; exact v3 (by omega) (by omega)⟩
/-- The level that follows a home parts the corners. -/
theorem hlv_next (a b c d : Int) (n k : Nat) (hn : hlv a b c d n = k) (hk : k < n) : smB a b c d (k + 1) = false := by
  induction n with
  | zero => omega
  | succ n ih =>
    rw [hlv] at hn
    by_cases h : smB a b c d (n + 1) = true
    · rw [if_pos h] at hn; omega
    · rw [if_neg h] at hn
      by_cases e : k = n
      · subst e; simpa using h
      · exact ih hn (by omega)
theorem child_box (k : Nat) (x y i : Int) (hk : k < 16) (h : okC (k : Int) x y = true) (h0 : 0 ≤ i) (h3 : i ≤ 3) :
    okK (k : Int) x y i = true ∧ okC ((k + 1 : Nat) : Int) (2 * x + i % 2) (2 * y + i / 2) = true ∧ c0 (k : Int) x y i = ((k + 1 : Nat) : Int) ∧ c1 (k : Int) x y i = 2 * x + i % 2 ∧ c2 (k : Int) x y i = 2 * y + i / 2 := by
  have hK : okK (k : Int) x y i = true := by rw [okK, h, Bool.true_and, decide_eq_true_eq]; omega
  obtain ⟨_, _, hx0, hx1, hy0, hy1⟩ := (okC_iff _ _ _).1 h
  simp only [Int.toNat_natCast] at hx1 hy1
  refine ⟨hK, (okC_iff _ _ _).2 ?_, by rw [c0, if_pos hK]; omega, by rw [c1, if_pos hK], by rw [c2, if_pos hK]⟩
  simp only [Int.toNat_natCast, Int.pow_succ]
  omega
theorem home_child (a b c d : Int) (k : Nat) (x y i : Int) (hk : k < 16) (hr : rightB a b c d = true) (hs : smB a b c d (k + 1) = false) (h : okC (k : Int) x y = true) (h0 : 0 ≤ i) (h3 : i ≤ 3) :
    insB a b c d (b0 (c0 (k : Int) x y i) (c1 (k : Int) x y i) (c2 (k : Int) x y i)) (b1 (c0 (k : Int) x y i) (c1 (k : Int) x y i) (c2 (k : Int) x y i)) (b2 (c0 (k : Int) x y i) (c1 (k : Int) x y i) (c2 (k : Int) x y i)) (b3 (c0 (k : Int) x y i) (c1 (k : Int) x y i) (c2 (k : Int) x y i)) = false := by
  obtain ⟨_, hC, e0, e1, e2⟩ := child_box k x y i hk h h0 h3
  have sp := pow_pos' (16 - (k + 1))
  rw [Bool.eq_false_iff, ne_eq, insB_iff, e0, e1, e2]
  simp only [b0, b1, b2, b3, hC, if_true, sideI_nat (k + 1) (show k + 1 ≤ 16 by omega)]
  rintro ⟨_, _, ha, hc, hb, hd⟩
  have hrr := (rightB_iff _ _ _ _).1 hr
  have one : ∀ p X : Int, X * 2 ^ (16 - (k + 1)) ≤ p → p ≤ X * 2 ^ (16 - (k + 1)) + 2 ^ (16 - (k + 1)) - 1 → p / 2 ^ (16 - (k + 1)) = X := by
    intro p X u v
    have h3 : X ≤ p / 2 ^ (16 - (k + 1)) := (Int.le_ediv_iff_mul_le sp).2 u
    have h4 : p / 2 ^ (16 - (k + 1)) < X + 1 := Int.ediv_lt_of_lt_mul sp (by rw [Int.add_mul, Int.one_mul]; omega)
    omega
  have := (smB_iff a b c d (k + 1)).2 ⟨by rw [one c _ (by omega) hc, one a _ ha (by omega)], by rw [one d _ (by omega) hd, one b _ hb (by omega)]⟩
  rw [hs] at this; cases this
/-- The code of a child. -/
theorem code_child (L x y i : Int) (h : okK L x y i = true) : okC (c0 L x y i) (c1 L x y i) (c2 L x y i) = true ∧ codU (c0 L x y i) (c1 L x y i) (c2 L x y i) = 4 * codU L x y + i := by
  have h' := h
  rw [okK, Bool.and_eq_true, decide_eq_true_eq] at h'
  obtain ⟨hc, hL, h0, h3⟩ := h'
  have g := okC_16 _ _ _ hc
  obtain ⟨k, rfl⟩ := Int.eq_ofNat_of_zero_le g.1
  obtain ⟨X, rfl⟩ := Int.eq_ofNat_of_zero_le g.2.2.1
  obtain ⟨Y, rfl⟩ := Int.eq_ofNat_of_zero_le g.2.2.2.2.1
  obtain ⟨j, rfl⟩ := Int.eq_ofNat_of_zero_le h0
  obtain ⟨_, hC, e0, e1, e2⟩ := child_box k X Y j (by omega) hc (by omega) (by omega)
  rw [e0, e1, e2]
  refine ⟨hC, ?_⟩
  rw [codU, if_pos hC, codU, if_pos hc]
  have t1 : (2 * (X : Int) + (j : Int) % 2).toNat = 2 * X + j % 2 := by omega
  have t2 : (2 * (Y : Int) + (j : Int) / 2).toNat = 2 * Y + j / 2 := by omega
  simp only [Int.toNat_natCast, t1, t2]
  rw [cod, show (2 * X + j % 2) / 2 = X by omega, show (2 * Y + j / 2) / 2 = Y by omega]
  omega
theorem codU_bd (L x y : Int) (h : okC L x y = true) : 0 ≤ codU L x y ∧ codU L x y < 4294967296 := by
  have g := okC_16 _ _ _ h
  rw [codU, if_pos h]
  have h1 := cod_lt L.toNat x.toNat y.toNat
  have h2 := pow4_le L.toNat (by omega)
  omega
theorem code_back (L x y : Int) (h : okC L x y = true) : okF L (codU L x y) = true ∧ f0 L (codU L x y) = L ∧ f1 L (codU L x y) = x ∧ f2 L (codU L x y) = y := by
  have g := okC_16 _ _ _ h
  obtain ⟨k, rfl⟩ := Int.eq_ofNat_of_zero_le g.1
  obtain ⟨X, rfl⟩ := Int.eq_ofNat_of_zero_le g.2.2.1
  obtain ⟨Y, rfl⟩ := Int.eq_ofNat_of_zero_le g.2.2.2.2.1
  obtain ⟨hl, hX, hY, _, _⟩ := okC_nat k X Y h
  have hu := un_cod k X Y hX hY
  have e : codU (k : Int) (X : Int) (Y : Int) = ((cod k X Y : Nat) : Int) := by rw [codU, if_pos h]; rfl
  have hF : okF (k : Int) ((cod k X Y : Nat) : Int) = true := by
    rw [okF, (levB_iff _).2 (by omega)]; simpa using cod_lt k X Y
  rw [e]
  refine ⟨hF, by rw [f0, if_pos hF], by rw [f1, if_pos hF]; simp [hu.1], by rw [f2, if_pos hF]; simp [hu.2]⟩
theorem code_of (L n : Int) (hn : 0 ≤ n) (h : okF L n = true) : okC (f0 L n) (f1 L n) (f2 L n) = true ∧ codU (f0 L n) (f1 L n) (f2 L n) = n ∧ f0 L n = L := by
  have h' := h
  rw [okF, Bool.and_eq_true, decide_eq_true_eq, levB_iff] at h'
  obtain ⟨g, hlt⟩ := h'
  obtain ⟨k, rfl⟩ := Int.eq_ofNat_of_zero_le g.1
  obtain ⟨c, rfl⟩ := Int.eq_ofNat_of_zero_le hn
  simp only [Int.toNat_natCast] at hlt
  have e0 : f0 (k : Int) (c : Int) = k := by rw [f0, if_pos h]
  have e1 : f1 (k : Int) (c : Int) = ((unx k c : Nat) : Int) := by rw [f1, if_pos h]; rfl
  have e2 : f2 (k : Int) (c : Int) = ((uny k c : Nat) : Int) := by rw [f2, if_pos h]; rfl
  have hx := unx_lt k c
  have hy := uny_lt k c
  have hC : okC (k : Int) ((unx k c : Nat) : Int) ((uny k c : Nat) : Int) = true := by
    refine (okC_iff _ _ _).2 ⟨by omega, by omega, by omega, ?_, by omega, ?_⟩
    · rw [Int.toNat_natCast, show (2 : Int) ^ k = ((2 ^ k : Nat) : Int) by push_cast; rfl]; omega
    · rw [Int.toNat_natCast, show (2 : Int) ^ k = ((2 ^ k : Nat) : Int) by push_cast; rfl]; omega
  rw [e0, e1, e2]
  refine ⟨hC, ?_, rfl⟩
  rw [codU, if_pos hC]
  simp only [Int.toNat_natCast]
  rw [cod_un k c hlt]
end Go.Proofs.Ytdbiaijpbkmfhaa
