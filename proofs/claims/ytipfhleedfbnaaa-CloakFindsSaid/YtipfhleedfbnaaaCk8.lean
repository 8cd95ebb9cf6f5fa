/- cloak: the hull of two siblings has what both have. -/
import Derived.Test.YtipfhleedfbnaaaCk7
namespace Go.Proofs.Ytipfhleedfbnaaa
set_option linter.unusedVariables false
set_option linter.unusedSimpArgs false
open Go.RowKit
theorem oth_ok (L x y : Int) (h : okC L x y = true) (hL : L ≠ 0) : okC L (oth x) y = true ∧ okC L x (oth y) = true := by
  have g := (okC_iff _ _ _).1 h
  obtain ⟨l, rfl⟩ := Int.eq_ofNat_of_zero_le g.1
  simp only [Int.toNat_natCast] at g
  obtain ⟨m, rfl⟩ : ∃ m, l = m + 1 := ⟨l - 1, by omega⟩
  rw [Int.pow_succ] at g
  rw [okC_iff, okC_iff]
  simp only [Int.toNat_natCast]
  rw [Int.pow_succ]
  generalize (2 : Int) ^ m = u at *
  unfold oth
  constructor <;> (split <;> omega)
theorem side_pos (L : Int) : 0 < sideI L := by unfold sideI; exact Int.pow_pos (by decide)
theorem cbox_right (L x y : Int) (h : okC L x y = true) : rightB (b0 L x y) (b1 L x y) (b2 L x y) (b3 L x y) = true := by
  have g := (okC_iff _ _ _).1 h
  obtain ⟨l, rfl⟩ := Int.eq_ofNat_of_zero_le g.1
  have hl : l ≤ 16 := by omega
  simp only [Int.toNat_natCast] at g
  have hp0 : (0 : Int) < 2 ^ (16 - l) := Int.pow_pos (by decide)
  have hprod : (2 : Int) ^ l * 2 ^ (16 - l) = 65536 := by rw [← Int.pow_add, show l + (16 - l) = 16 by omega]; rfl
  rw [b0, b1, b2, b3, if_pos h, if_pos h, if_pos h, if_pos h, sideI_nat l hl, rightB_iff]
  generalize (2 : Int) ^ (16 - l) = s at *
  generalize (2 : Int) ^ l = t at *
  have hxs : x * s + s ≤ 65536 := by
    have : (x + 1) * s ≤ t * s := Int.mul_le_mul_of_nonneg_right (by omega) (by omega)
    rw [Int.add_mul] at this; omega
  have hys : y * s + s ≤ 65536 := by
    have : (y + 1) * s ≤ t * s := Int.mul_le_mul_of_nonneg_right (by omega) (by omega)
    rw [Int.add_mul] at this; omega
  have hx0 : 0 ≤ x * s := Int.mul_nonneg (by omega) (by omega)
  have hy0 : 0 ≤ y * s := Int.mul_nonneg (by omega) (by omega)
  omega
/-- A point is in the hull of two siblings just if it is in one of them, and never in both. -/
theorem hull_x (L x y : Int) (h : okC L x y = true) (hL : L ≠ 0) (px py : Int) :
    let r := (hu0 (b0 L x y) (b1 L x y) (b2 L x y) (b3 L x y) (b0 L (oth x) y) (b1 L (oth x) y) (b2 L (oth x) y) (b3 L (oth x) y), hu1 (b0 L x y) (b1 L x y) (b2 L x y) (b3 L x y) (b0 L (oth x) y) (b1 L (oth x) y) (b2 L (oth x) y) (b3 L (oth x) y), hu2 (b0 L x y) (b1 L x y) (b2 L x y) (b3 L x y) (b0 L (oth x) y) (b1 L (oth x) y) (b2 L (oth x) y) (b3 L (oth x) y), hu3 (b0 L x y) (b1 L x y) (b2 L x y) (b3 L x y) (b0 L (oth x) y) (b1 L (oth x) y) (b2 L (oth x) y) (b3 L (oth x) y))
    hasB r.1 r.2.1 r.2.2.1 r.2.2.2 px py = (hasB (b0 L x y) (b1 L x y) (b2 L x y) (b3 L x y) px py || hasB (b0 L (oth x) y) (b1 L (oth x) y) (b2 L (oth x) y) (b3 L (oth x) y) px py) ∧
      (hasB (b0 L x y) (b1 L x y) (b2 L x y) (b3 L x y) px py && hasB (b0 L (oth x) y) (b1 L (oth x) y) (b2 L (oth x) y) (b3 L (oth x) y) px py) = false := by
  have ho := (oth_ok L x y h hL).1
  have hr1 := cbox_right L x y h
  have hr2 := cbox_right L (oth x) y ho
  have hs := side_pos L
  have hH : okH (b0 L x y) (b1 L x y) (b2 L x y) (b3 L x y) (b0 L (oth x) y) (b1 L (oth x) y) (b2 L (oth x) y) (b3 L (oth x) y) = true := by rw [okH, hr1, hr2]; rfl
  simp only [hu0, hu1, hu2, hu3, if_pos hH]
  clear hH
  simp only [b0, b1, b2, b3, if_pos h, if_pos ho] at hr1 hr2 ⊢
  have e : oth x * sideI L = if x % 2 = 0 then x * sideI L + sideI L else x * sideI L - sideI L := by
    unfold oth
    split
    · rw [Int.add_mul, Int.one_mul]
    · rw [Int.sub_mul, Int.one_mul]
  rw [e] at hr2 ⊢
  clear e ho
  generalize x * sideI L = X at *
  generalize y * sideI L = Y at *
  generalize sideI L = s at *
  rw [rightB_iff] at hr1 hr2
  rw [Bool.eq_iff_iff, Bool.or_eq_true, ← Bool.not_eq_true, Bool.and_eq_true, hasB_iff, hasB_iff, hasB_iff]
  split at hr2 <;> rename_i hx <;> simp only [hx, if_true, if_false] <;> (constructor <;> omega)
theorem hull_y (L x y : Int) (h : okC L x y = true) (hL : L ≠ 0) (px py : Int) :
    let r := (hu0 (b0 L x y) (b1 L x y) (b2 L x y) (b3 L x y) (b0 L x (oth y)) (b1 L x (oth y)) (b2 L x (oth y)) (b3 L x (oth y)), hu1 (b0 L x y) (b1 L x y) (b2 L x y) (b3 L x y) (b0 L x (oth y)) (b1 L x (oth y)) (b2 L x (oth y)) (b3 L x (oth y)), hu2 (b0 L x y) (b1 L x y) (b2 L x y) (b3 L x y) (b0 L x (oth y)) (b1 L x (oth y)) (b2 L x (oth y)) (b3 L x (oth y)), hu3 (b0 L x y) (b1 L x y) (b2 L x y) (b3 L x y) (b0 L x (oth y)) (b1 L x (oth y)) (b2 L x (oth y)) (b3 L x (oth y)))
    hasB r.1 r.2.1 r.2.2.1 r.2.2.2 px py = (hasB (b0 L x y) (b1 L x y) (b2 L x y) (b3 L x y) px py || hasB (b0 L x (oth y)) (b1 L x (oth y)) (b2 L x (oth y)) (b3 L x (oth y)) px py) ∧
      (hasB (b0 L x y) (b1 L x y) (b2 L x y) (b3 L x y) px py && hasB (b0 L x (oth y)) (b1 L x (oth y)) (b2 L x (oth y)) (b3 L x (oth y)) px py) = false := by
  have ho := (oth_ok L x y h hL).2
  have hr1 := cbox_right L x y h
  have hr2 := cbox_right L x (oth y) ho
  have hs := side_pos L
  have hH : okH (b0 L x y) (b1 L x y) (b2 L x y) (b3 L x y) (b0 L x (oth y)) (b1 L x (oth y)) (b2 L x (oth y)) (b3 L x (oth y)) = true := by rw [okH, hr1, hr2]; rfl
  simp only [hu0, hu1, hu2, hu3, if_pos hH]
  clear hH
  simp only [b0, b1, b2, b3, if_pos h, if_pos ho] at hr1 hr2 ⊢
  have e : oth y * sideI L = if y % 2 = 0 then y * sideI L + sideI L else y * sideI L - sideI L := by
    unfold oth
    split
    · rw [Int.add_mul, Int.one_mul]
    · rw [Int.sub_mul, Int.one_mul]
  rw [e] at hr2 ⊢
  clear e ho
  generalize x * sideI L = X at *
  generalize y * sideI L = Y at *
  generalize sideI L = s at *
  rw [rightB_iff] at hr1 hr2
  rw [Bool.eq_iff_iff, Bool.or_eq_true, ← Bool.not_eq_true, Bool.and_eq_true, hasB_iff, hasB_iff, hasB_iff]
  split at hr2 <;> rename_i hx <;> simp only [hx, if_true, if_false] <;> (constructor <;> omega)
theorem countP_or {S : List Pn} {f g h : Pn → Bool} (hh : ∀ p, p ∈ S → f p = (g p || h p) ∧ (g p && h p) = false) : S.countP f = S.countP g + S.countP h := by
  induction S with
  | nil => rfl
  | cons p S ih =>
    have ih := ih fun q hq => hh q (List.mem_cons_of_mem _ hq)
    have h1 := hh p (List.mem_cons_self ..)
    rw [List.countP_cons, List.countP_cons, List.countP_cons, ih, h1.1]
    cases hg : g p <;> cases hk : h p <;> simp [hg, hk] at h1 ⊢ <;> omega
theorem okB_parts {L x y : Int} (h : okB L x y = true) : okC L x y = true ∧ L ≠ 0 := by simpa [okB] using h
theorem own_n {S : List Pn} (hS : FitS S) {L x y : Int} (h : okC L x y = true) : (ownK S L x y).n = (hasN (ownK S L x y).a (ownK S L x y).b (ownK S L x y).c (ownK S L x y).d S : Int) := by
  show (cntC S L x y : Int) = _
  rw [← hasN_cell S hS L x y h]; rfl
theorem bes_n {S : List Pn} (hS : FitS S) {L x y : Int} (h : okB L x y = true) : (besK S L x y).n = (hasN (besK S L x y).a (besK S L x y).b (besK S L x y).c (besK S L x y).d S : Int) := by
  obtain ⟨ho, hL⟩ := okB_parts h
  have e0 : d0 L x y = L := by rw [d0, if_pos h]
  have e1' : d1 L x y = oth x := by rw [d1, if_pos h]
  have e2' : d2 L x y = y := by rw [d2, if_pos h]
  unfold besK
  rw [e0, e1', e2']
  show ((cntC S L x y : Int) + (cntC S L (oth x) y : Int)) = _
  rw [← hasN_cell S hS L x y ho, ← hasN_cell S hS L (oth x) y (oth_ok L x y ho hL).1]
  have := countP_or (S := S) (f := fun p => hasB (hu0 (b0 L x y) (b1 L x y) (b2 L x y) (b3 L x y) (b0 L (oth x) y) (b1 L (oth x) y) (b2 L (oth x) y) (b3 L (oth x) y)) (hu1 (b0 L x y) (b1 L x y) (b2 L x y) (b3 L x y) (b0 L (oth x) y) (b1 L (oth x) y) (b2 L (oth x) y) (b3 L (oth x) y)) (hu2 (b0 L x y) (b1 L x y) (b2 L x y) (b3 L x y) (b0 L (oth x) y) (b1 L (oth x) y) (b2 L (oth x) y) (b3 L (oth x) y)) (hu3 (b0 L x y) (b1 L x y) (b2 L x y) (b3 L x y) (b0 L (oth x) y) (b1 L (oth x) y) (b2 L (oth x) y) (b3 L (oth x) y)) p.1 p.2) (g := fun p => hasB (b0 L x y) (b1 L x y) (b2 L x y) (b3 L x y) p.1 p.2) (h := fun p => hasB (b0 L (oth x) y) (b1 L (oth x) y) (b2 L (oth x) y) (b3 L (oth x) y) p.1 p.2) (fun p _ => hull_x L x y ho hL p.1 p.2)
  unfold hasN pairK ownK
  simp only
  rw [this]
  push_cast
  rfl
theorem ovr_n {S : List Pn} (hS : FitS S) {L x y : Int} (h : okB L x y = true) : (ovrK S L x y).n = (hasN (ovrK S L x y).a (ovrK S L x y).b (ovrK S L x y).c (ovrK S L x y).d S : Int) := by
  obtain ⟨ho, hL⟩ := okB_parts h
  have e0 : d0 L x y = L := by rw [d0, if_pos h]
  have e1' : e1 L x y = x := by rw [e1, if_pos h]
  have e2' : e2 L x y = oth y := by rw [e2, if_pos h]
  unfold ovrK
  rw [e0, e1', e2']
  show ((cntC S L x y : Int) + (cntC S L x (oth y) : Int)) = _
  rw [← hasN_cell S hS L x y ho, ← hasN_cell S hS L x (oth y) (oth_ok L x y ho hL).2]
  have := countP_or (S := S) (f := fun p => hasB (hu0 (b0 L x y) (b1 L x y) (b2 L x y) (b3 L x y) (b0 L x (oth y)) (b1 L x (oth y)) (b2 L x (oth y)) (b3 L x (oth y))) (hu1 (b0 L x y) (b1 L x y) (b2 L x y) (b3 L x y) (b0 L x (oth y)) (b1 L x (oth y)) (b2 L x (oth y)) (b3 L x (oth y))) (hu2 (b0 L x y) (b1 L x y) (b2 L x y) (b3 L x y) (b0 L x (oth y)) (b1 L x (oth y)) (b2 L x (oth y)) (b3 L x (oth y))) (hu3 (b0 L x y) (b1 L x y) (b2 L x y) (b3 L x y) (b0 L x (oth y)) (b1 L x (oth y)) (b2 L x (oth y)) (b3 L x (oth y))) p.1 p.2) (g := fun p => hasB (b0 L x y) (b1 L x y) (b2 L x y) (b3 L x y) p.1 p.2) (h := fun p => hasB (b0 L x (oth y)) (b1 L x (oth y)) (b2 L x (oth y)) (b3 L x (oth y)) p.1 p.2) (fun p _ => hull_y L x y ho hL p.1 p.2)
  unfold hasN pairK ownK
  simp only
  rw [this]
  push_cast
  rfl
/-- What is tried counts what its box has. -/
theorem tried_has {S : List Pn} (hS : FitS S) {L x y : Int} (h : okC L x y = true) {k : Ck} (hk : k ∈ triedK S L x y) : k.n = (hasN k.a k.b k.c k.d S : Int) := by
  unfold triedK at hk
  split at hk
  · rename_i hb
    split at hk
    · simp only [List.mem_cons, List.not_mem_nil, or_false] at hk
      rcases hk with rfl | rfl | rfl
      · exact own_n hS h
      · exact ovr_n hS hb
      · exact bes_n hS hb
    · simp only [List.mem_cons, List.not_mem_nil, or_false] at hk
      rcases hk with rfl | rfl | rfl
      · exact own_n hS h
      · exact bes_n hS hb
      · exact ovr_n hS hb
  · simp only [List.mem_cons, List.not_mem_nil, or_false] at hk
    rcases hk with rfl; exact own_n hS h
/-- What is tried has what its cell's box has. -/
theorem tried_in {S : List Pn} {L x y : Int} (h : okC L x y = true) {k : Ck} (hk : k ∈ triedK S L x y) (px py : Int) (hp : hasB (b0 L x y) (b1 L x y) (b2 L x y) (b3 L x y) px py = true) : hasB k.a k.b k.c k.d px py = true := by
  have hbes : okB L x y = true → hasB (besK S L x y).a (besK S L x y).b (besK S L x y).c (besK S L x y).d px py = true := fun hb => by
    obtain ⟨ho, hL⟩ := okB_parts hb
    have h1 := (hull_x L x y ho hL px py).1
    unfold besK
    rw [show d0 L x y = L by rw [d0, if_pos hb], show d1 L x y = oth x by rw [d1, if_pos hb], show d2 L x y = y by rw [d2, if_pos hb]]
    rw [hp, Bool.true_or] at h1
    exact h1
  have hovr : okB L x y = true → hasB (ovrK S L x y).a (ovrK S L x y).b (ovrK S L x y).c (ovrK S L x y).d px py = true := fun hb => by
    obtain ⟨ho, hL⟩ := okB_parts hb
    have h1 := (hull_y L x y ho hL px py).1
    unfold ovrK
    rw [show d0 L x y = L by rw [d0, if_pos hb], show e1 L x y = x by rw [e1, if_pos hb], show e2 L x y = oth y by rw [e2, if_pos hb]]
    rw [hp, Bool.true_or] at h1
    exact h1
  unfold triedK at hk
  split at hk
  · rename_i hb
    split at hk
    · simp only [List.mem_cons, List.not_mem_nil, or_false] at hk
      rcases hk with rfl | rfl | rfl
      · exact hp
      · exact hovr hb
      · exact hbes hb
    · simp only [List.mem_cons, List.not_mem_nil, or_false] at hk
      rcases hk with rfl | rfl | rfl
      · exact hp
      · exact hbes hb
      · exact hovr hb
  · simp only [List.mem_cons, List.not_mem_nil, or_false] at hk
    rcases hk with rfl; exact hp
/-- A point is in the box of its own cell. -/
theorem own_cell (p : Pn) (j : Nat) (hj : j < 17) (hp : fitsB p.1 p.2 = true) : hasB (b0 (j : Int) (a1 16 p.1 p.2 (j : Int)) (a2 16 p.1 p.2 (j : Int))) (b1 (j : Int) (a1 16 p.1 p.2 (j : Int)) (a2 16 p.1 p.2 (j : Int))) (b2 (j : Int) (a1 16 p.1 p.2 (j : Int)) (a2 16 p.1 p.2 (j : Int))) (b3 (j : Int) (a1 16 p.1 p.2 (j : Int)) (a2 16 p.1 p.2 (j : Int))) p.1 p.2 = true := by
  rw [box_code p _ _ _ hp (lev_ok p j hj hp).2.2, Int.toNat_natCast]
  simp [codeAt]
end Go.Proofs.Ytipfhleedfbnaaa
