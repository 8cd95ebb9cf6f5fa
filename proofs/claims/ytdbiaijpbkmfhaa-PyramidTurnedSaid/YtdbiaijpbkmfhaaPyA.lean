/- pyramid: what counts are, level by level. -/
import Derived.Test.YtdbiaijpbkmfhaaPy10
namespace Go.Proofs.Ytdbiaijpbkmfhaa
set_option linter.unusedVariables false
set_option linter.unusedSimpArgs false
open Go.RowKit
/-- A point's code, by its numbers. -/
theorem codeAt_nat (p : Pn) (l : Nat) (hl : l < 17) (hp : fitsB p.1 p.2 = true) : codeAt l p = ((cod l (p.1.toNat / 2 ^ (16 - l)) (p.2.toNat / 2 ^ (16 - l)) : Nat) : Int) := by
  have h := lev_ok p l hl hp
  rw [codeAt, codU, if_pos h.2.2]
  rw [a1, a2, if_pos h.1, if_pos h.1, show ((16 : Int) - (l : Int)).toNat = 16 - l by omega]
  simp only [fitsB, decide_eq_true_eq] at hp
  obtain ⟨X, hX⟩ := Int.eq_ofNat_of_zero_le hp.1
  obtain ⟨Y, hY⟩ := Int.eq_ofNat_of_zero_le hp.2.2.1
  rw [hX, hY]
  have e1 : ((X : Int) / 2 ^ (16 - l)).toNat = X / 2 ^ (16 - l) := by
    rw [show ((2 : Int) ^ (16 - l)) = ((2 ^ (16 - l) : Nat) : Int) by push_cast; rfl, ← Int.natCast_ediv]; rfl
  have e2 : ((Y : Int) / 2 ^ (16 - l)).toNat = Y / 2 ^ (16 - l) := by
    rw [show ((2 : Int) ^ (16 - l)) = ((2 ^ (16 - l) : Nat) : Int) by push_cast; rfl, ← Int.natCast_ediv]; rfl
  rw [e1, e2]
  rfl
theorem codeAt_low (p : Pn) (l : Nat) (hl : l < 16) (hp : fitsB p.1 p.2 = true) : ∃ i : Nat, i < 4 ∧ codeAt (l + 1) p = 4 * codeAt l p + (i : Int) := by
  rw [codeAt_nat p l (by omega) hp, codeAt_nat p (l + 1) (by omega) hp, cod]
  have e : ∀ X : Nat, X / 2 ^ (16 - (l + 1)) / 2 = X / 2 ^ (16 - l) := fun X => by
    rw [Nat.div_div_eq_div_mul, show 16 - l = (16 - (l + 1)) + 1 by omega, Nat.pow_succ]
  rw [e, e]
  refine ⟨2 * (p.2.toNat / 2 ^ (16 - (l + 1)) % 2) + p.1.toNat / 2 ^ (16 - (l + 1)) % 2, by omega, by push_cast; rfl⟩
theorem cnt_nil (l : Nat) (c : Int) : cnt [] l c = 0 := rfl
/-- A code's points are those of its four children. -/
theorem cnt_four (S : List Pn) (l : Nat) (hl : l < 16) (hS : FitS S) (c : Int) : cnt S l c = cnt S (l + 1) (4 * c + 0) + cnt S (l + 1) (4 * c + 1) + cnt S (l + 1) (4 * c + 2) + cnt S (l + 1) (4 * c + 3) := by
  induction S with
  | nil => rfl
  | cons p S ih =>
    have ih := ih fun q hq => hS q (List.mem_cons_of_mem _ hq)
    obtain ⟨i, hi, h⟩ := codeAt_low p l hl (hS p (List.mem_cons_self ..))
    simp only [cnt_cons, h]
    generalize codeAt l p = d at *
    by_cases hd : c = d
    · subst hd
      rw [if_pos rfl]
      have : i = 0 ∨ i = 1 ∨ i = 2 ∨ i = 3 := by omega
      rcases this with rfl | rfl | rfl | rfl
      · rw [if_pos (by omega), if_neg (by omega), if_neg (by omega), if_neg (by omega)]; omega
      · rw [if_neg (by omega), if_pos (by omega), if_neg (by omega), if_neg (by omega)]; omega
      · rw [if_neg (by omega), if_neg (by omega), if_pos (by omega), if_neg (by omega)]; omega
      · rw [if_neg (by omega), if_neg (by omega), if_neg (by omega), if_pos (by omega)]; omega
    · rw [if_neg hd, if_neg (by omega), if_neg (by omega), if_neg (by omega), if_neg (by omega)]; omega
theorem cntC_kid (S : List Pn) (L x y i : Int) (h : okK L x y i = true) : cntC S (c0 L x y i) (c1 L x y i) (c2 L x y i) = cnt S (L.toNat + 1) (4 * codU L x y + i) := by
  have hc := code_child L x y i h
  have h0 : c0 L x y i = L + 1 := by rw [c0, if_pos h]
  rw [okK, Bool.and_eq_true, decide_eq_true_eq] at h
  have hL := (okC_iff _ _ _).1 h.1
  rw [cntC, if_pos hc.1, hc.2, h0, show (L + 1).toNat = L.toNat + 1 by omega]
theorem cntC_four (S : List Pn) (hS : FitS S) (L x y : Int) (h : okC L x y = true) (hL : L ≠ 16) : cntC S L x y = cntC S (c0 L x y 0) (c1 L x y 0) (c2 L x y 0) + cntC S (c0 L x y 1) (c1 L x y 1) (c2 L x y 1) + cntC S (c0 L x y 2) (c1 L x y 2) (c2 L x y 2) + cntC S (c0 L x y 3) (c1 L x y 3) (c2 L x y 3) := by
  have hb := okC_16 _ _ _ h
  have hk : ∀ i : Int, 0 ≤ i → i ≤ 3 → okK L x y i = true := fun i h0 h3 => by
    rw [okK, h]; simp; omega
  rw [cntC_kid S L x y 0 (hk 0 (by omega) (by omega)), cntC_kid S L x y 1 (hk 1 (by omega) (by omega)), cntC_kid S L x y 2 (hk 2 (by omega) (by omega)), cntC_kid S L x y 3 (hk 3 (by omega) (by omega)), cntC, if_pos h]
  exact cnt_four S L.toNat (by omega) hS _
theorem nd_up (S : List Pn) (l : Nat) (hl : l < 16) (hS : FitS S) : nd (S.map (codeAt l)) ≤ nd (S.map (codeAt (l + 1))) := by
  induction S with
  | nil => exact Nat.le_refl _
  | cons p S ih =>
    have ih := ih fun q hq => hS q (List.mem_cons_of_mem _ hq)
    rw [nd_cons, nd_cons]
    by_cases h : cnt S (l + 1) (codeAt (l + 1) p) = 0
    · rw [if_pos h]; split <;> omega
    · have h2 : cnt S l (codeAt l p) ≠ 0 := by
        obtain ⟨q, hq, e⟩ := List.mem_map.1 (cnt_pos.1 h)
        obtain ⟨i, hi, hpi⟩ := codeAt_low p l hl (hS p (List.mem_cons_self ..))
        obtain ⟨j, hj, hqj⟩ := codeAt_low q l hl (hS q (List.mem_cons_of_mem _ hq))
        exact cnt_pos.2 (List.mem_map.2 ⟨q, hq, by omega⟩)
      rw [if_neg h, if_neg h2]; exact ih
theorem nd_zero (S : List Pn) (l : Nat) : nd (S.map (codeAt l)) = 0 ↔ S = [] := by
  cases S with
  | nil => simp [nd]
  | cons p S =>
    have h := @nd_pos p S l
    constructor
    · intro e; omega
    · intro e; cases e
theorem cntC_perm {S T : List Pn} (h : S.Perm T) (L x y : Int) : cntC S L x y = cntC T L x y := by unfold cntC; rw [cnt_perm h]
theorem levN_perm {S T : List Pn} (h : S.Perm T) (L : Int) : levN S L = levN T L := by unfold levN; rw [nd_perm (h.map _)]
/-- What a cell's box has is what has its code. -/
theorem box_code (p : Pn) (L x y : Int) (hp : fitsB p.1 p.2 = true) (h : okC L x y = true) : hasB (b0 L x y) (b1 L x y) (b2 L x y) (b3 L x y) p.1 p.2 = (codeAt L.toNat p == codU L x y) := by
  have hb := okC_16 _ _ _ h
  obtain ⟨l, rfl⟩ := Int.eq_ofNat_of_zero_le hb.1
  have hl : l < 17 := by omega
  have ho := lev_ok p l hl hp
  have e1 : a1 16 p.1 p.2 (l : Int) = p.1 / 2 ^ (16 - l) := by rw [a1, if_pos ho.1, show ((16 : Int) - (l : Int)).toNat = 16 - l by omega]
  have e2 : a2 16 p.1 p.2 (l : Int) = p.2 / 2 ^ (16 - l) := by rw [a2, if_pos ho.1, show ((16 : Int) - (l : Int)).toNat = 16 - l by omega]
  have hcode : (codeAt l p = codU (l : Int) x y) ↔ (p.1 / 2 ^ (16 - l) = x ∧ p.2 / 2 ^ (16 - l) = y) := by
    rw [← e1, ← e2]
    constructor
    · intro e
      have a := code_back _ _ _ ho.2.2
      have b := code_back _ _ _ h
      rw [codeAt] at e
      rw [e] at a
      exact ⟨a.2.2.1.symm.trans b.2.2.1, a.2.2.2.symm.trans b.2.2.2⟩
    · rintro ⟨f1, f2⟩
      rw [codeAt, f1, f2]
  have hs : (2 : Int) ^ (16 - l) ≤ 65536 := by
    have : (2 : Nat) ^ (16 - l) ≤ 2 ^ 16 := Nat.pow_le_pow_right (by omega) (by omega)
    have h9 : ((2 ^ (16 - l) : Nat) : Int) ≤ ((65536 : Nat) : Int) := Int.ofNat_le.2 this
    rw [show ((2 : Int) ^ (16 - l)) = ((2 ^ (16 - l) : Nat) : Int) by push_cast; rfl]
    exact h9
  have hp0 : (0 : Int) < 2 ^ (16 - l) := Int.pow_pos (by decide)
  have hx : x < 2 ^ l ∧ y < 2 ^ l := by have := (okC_iff _ _ _).1 h; simpa using ⟨this.2.2.2.1, this.2.2.2.2.2⟩
  have hprod : (2 : Int) ^ l * 2 ^ (16 - l) = 65536 := by rw [← Int.pow_add, show l + (16 - l) = 16 by omega]; rfl
  have hside : sideI (l : Int) = 2 ^ (16 - l) := sideI_nat l (by omega)
  rw [Bool.eq_iff_iff, Int.toNat_natCast, beq_iff_eq, hcode, b0, b1, b2, b3, if_pos h, if_pos h, if_pos h, if_pos h, hside, hasB_iff]
  simp only [fitsB, decide_eq_true_eq] at hp
  generalize (2 : Int) ^ (16 - l) = s at *
  generalize (2 : Int) ^ l = t at *
  have hxs : x * s + s ≤ 65536 := by
    have : (x + 1) * s ≤ t * s := Int.mul_le_mul_of_nonneg_right (by omega) (by omega)
    rw [Int.add_mul] at this; omega
  have hys : y * s + s ≤ 65536 := by
    have : (y + 1) * s ≤ t * s := Int.mul_le_mul_of_nonneg_right (by omega) (by omega)
    rw [Int.add_mul] at this; omega
  have hx0 : 0 ≤ x * s := Int.mul_nonneg hb.2.2.1 (by omega)
  have hy0 : 0 ≤ y * s := Int.mul_nonneg hb.2.2.2.2.1 (by omega)
  have d1 : p.1 / s = x ↔ x * s ≤ p.1 ∧ p.1 < x * s + s := by
    constructor
    · rintro rfl
      have := Int.mul_ediv_add_emod p.1 s
      have h1 := Int.emod_nonneg p.1 (by omega : s ≠ 0)
      have h2 := Int.emod_lt_of_pos p.1 hp0
      rw [Int.mul_comm]
      omega
    · rintro ⟨h1, h2⟩
      have k1 : x ≤ p.1 / s := (Int.le_ediv_iff_mul_le hp0).2 h1
      have k2 : p.1 / s < x + 1 := (Int.ediv_lt_iff_lt_mul hp0).2 (by rw [Int.add_mul]; omega)
      omega
  have d2 : p.2 / s = y ↔ y * s ≤ p.2 ∧ p.2 < y * s + s := by
    constructor
    · rintro rfl
      have := Int.mul_ediv_add_emod p.2 s
      have h1 := Int.emod_nonneg p.2 (by omega : s ≠ 0)
      have h2 := Int.emod_lt_of_pos p.2 hp0
      rw [Int.mul_comm]
      omega
    · rintro ⟨h1, h2⟩
      have k1 : y ≤ p.2 / s := (Int.le_ediv_iff_mul_le hp0).2 h1
      have k2 : p.2 / s < y + 1 := (Int.ediv_lt_iff_lt_mul hp0).2 (by rw [Int.add_mul]; omega)
      omega
  rw [d1, d2]
  clear d1 d2
  constructor
  · rintro ⟨_, h1, h2, h3, h4⟩; omega
  · rintro ⟨⟨h1, h2⟩, h3, h4⟩; omega
/-- How many points a rectangle has. -/
def hasN (a b c d : Int) (S : List Pn) : Nat := S.countP fun p => hasB a b c d p.1 p.2
theorem hasN_cell (S : List Pn) (hS : FitS S) (L x y : Int) (h : okC L x y = true) : hasN (b0 L x y) (b1 L x y) (b2 L x y) (b3 L x y) S = cntC S L x y := by
  rw [cntC, if_pos h, hasN, cnt]
  exact List.countP_congr fun p hp => by rw [box_code p L x y (hS p hp) h]
end Go.Proofs.Ytdbiaijpbkmfhaa
