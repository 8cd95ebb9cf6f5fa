/- cloak: where what is tried lies, and how great it is. -/
import Derived.Test.YtipfhleedfbnaaaCk8
namespace Go.Proofs.Ytipfhleedfbnaaa
set_option linter.unusedVariables false
set_option linter.unusedSimpArgs false
open Go.RowKit
theorem par_ok {L x y : Int} (h : okB L x y = true) : okC (L - 1) (x / 2) (y / 2) = true ∧ sideI (L - 1) = 2 * sideI L ∧ okA L x y (L - 1) = true ∧ a0 L x y (L - 1) = L - 1 ∧ a1 L x y (L - 1) = x / 2 ∧ a2 L x y (L - 1) = y / 2 := by
  obtain ⟨ho, hL⟩ := okB_parts h
  have g := (okC_iff _ _ _).1 ho
  obtain ⟨l, rfl⟩ := Int.eq_ofNat_of_zero_le g.1
  obtain ⟨m, rfl⟩ : ∃ m, l = m + 1 := ⟨l - 1, by omega⟩
  have e : ((m + 1 : Nat) : Int) - 1 = (m : Int) := by omega
  have hA : okA ((m + 1 : Nat) : Int) x y (((m + 1 : Nat) : Int) - 1) = true := by rw [okA, ho]; simp; omega
  refine ⟨?_, ?_, hA, by rw [a0, if_pos hA], by rw [a1, if_pos hA, show (((m + 1 : Nat) : Int) - (((m + 1 : Nat) : Int) - 1)).toNat = 1 by omega]; simp, by rw [a2, if_pos hA, show (((m + 1 : Nat) : Int) - (((m + 1 : Nat) : Int) - 1)).toNat = 1 by omega]; simp⟩
  · rw [e, okC_iff]
    simp only [Int.toNat_natCast] at g ⊢
    rw [Int.pow_succ] at g
    omega
  · rw [e, sideI_nat m (by omega), sideI_nat (m + 1) (by omega), show 16 - m = (16 - (m + 1)) + 1 by omega, Int.pow_succ, Int.mul_comm]
theorem half_mul (x s : Int) : x / 2 * (2 * s) = if x % 2 = 0 then x * s else x * s - s := by
  have h : x / 2 * (2 * s) = (2 * (x / 2)) * s := by rw [Int.mul_comm 2 (x / 2), Int.mul_assoc]
  rw [h]
  split
  · rw [show 2 * (x / 2) = x by omega]
  · rw [show 2 * (x / 2) = x - 1 by omega, Int.sub_mul, Int.one_mul]
theorem bes_geo (S : List Pn) {L x y : Int} (h : okB L x y = true) :
    insB (b0 L x y) (b1 L x y) (b2 L x y) (b3 L x y) (besK S L x y).a (besK S L x y).b (besK S L x y).c (besK S L x y).d = true ∧
    insB (besK S L x y).a (besK S L x y).b (besK S L x y).c (besK S L x y).d (b0 (L - 1) (x / 2) (y / 2)) (b1 (L - 1) (x / 2) (y / 2)) (b2 (L - 1) (x / 2) (y / 2)) (b3 (L - 1) (x / 2) (y / 2)) = true ∧
    areaU (besK S L x y).a (besK S L x y).b (besK S L x y).c (besK S L x y).d = 2 * areaU (b0 L x y) (b1 L x y) (b2 L x y) (b3 L x y) := by
  obtain ⟨ho, hL⟩ := okB_parts h
  obtain ⟨hp, hsd, _⟩ := par_ok h
  have hob := (oth_ok L x y ho hL).1
  have hr1 := cbox_right L x y ho
  have hr2 := cbox_right L (oth x) y hob
  have hr3 := cbox_right _ _ _ hp
  have hs := side_pos L
  have hH : okH (b0 L x y) (b1 L x y) (b2 L x y) (b3 L x y) (b0 L (oth x) y) (b1 L (oth x) y) (b2 L (oth x) y) (b3 L (oth x) y) = true := by rw [okH, hr1, hr2]; rfl
  unfold besK
  rw [show d0 L x y = L by rw [d0, if_pos h], show d1 L x y = oth x by rw [d1, if_pos h], show d2 L x y = y by rw [d2, if_pos h]]
  simp only [pairK, ownK, hu0, hu1, hu2, hu3, hH, if_true]
  clear hH
  simp only [b0, b1, b2, b3, if_pos ho, if_pos hob, if_pos hp, hsd, half_mul] at hr1 hr2 hr3 ⊢
  have e : oth x * sideI L = if x % 2 = 0 then x * sideI L + sideI L else x * sideI L - sideI L := by
    unfold oth
    split
    · rw [Int.add_mul, Int.one_mul]
    · rw [Int.sub_mul, Int.one_mul]
  rw [e] at hr2 ⊢
  clear e hob ho hp hsd
  generalize x * sideI L = X at *
  generalize y * sideI L = Y at *
  generalize sideI L = s at *
  rw [rightB_iff] at hr1 hr2 hr3
  have hA1 : areaU X Y (X + s - 1) (Y + s - 1) = s * s := by
    rw [areaU, if_pos ((rightB_iff _ _ _ _).2 hr1), show X + s - 1 - X + 1 = s by omega, show Y + s - 1 - Y + 1 = s by omega]
  rw [hA1]
  split at hr2 <;> rename_i hx
  · simp only [hx, if_true] at hr3 ⊢
    have m1 : min X (X + s) = X := by omega
    have m2 : max (X + s - 1) (X + s + s - 1) = X + s + s - 1 := by omega
    rw [m1, m2, Int.min_self, Int.max_self]
    refine ⟨?_, ?_, ?_⟩
    · simp only [insB, decide_eq_true_eq]; omega
    · simp only [insB, decide_eq_true_eq]; split at hr3 <;> rename_i hy <;> simp only [hy, if_true, if_false] <;> omega
    · rw [areaU, if_pos ((rightB_iff _ _ _ _).2 (by omega)), show X + s + s - 1 - X + 1 = 2 * s by omega, show Y + s - 1 - Y + 1 = s by omega, Int.mul_assoc]
  · simp only [hx, if_false] at hr3 ⊢
    have m1 : min X (X - s) = X - s := by omega
    have m2 : max (X + s - 1) (X - s + s - 1) = X + s - 1 := by omega
    rw [m1, m2, Int.min_self, Int.max_self]
    refine ⟨?_, ?_, ?_⟩
    · simp only [insB, decide_eq_true_eq]; omega
    · simp only [insB, decide_eq_true_eq]; split at hr3 <;> rename_i hy <;> simp only [hy, if_true, if_false] <;> omega
    · rw [areaU, if_pos ((rightB_iff _ _ _ _).2 (by omega)), show X + s - 1 - (X - s) + 1 = 2 * s by omega, show Y + s - 1 - Y + 1 = s by omega, Int.mul_assoc]
theorem ovr_geo (S : List Pn) {L x y : Int} (h : okB L x y = true) :
    insB (b0 L x y) (b1 L x y) (b2 L x y) (b3 L x y) (ovrK S L x y).a (ovrK S L x y).b (ovrK S L x y).c (ovrK S L x y).d = true ∧
    insB (ovrK S L x y).a (ovrK S L x y).b (ovrK S L x y).c (ovrK S L x y).d (b0 (L - 1) (x / 2) (y / 2)) (b1 (L - 1) (x / 2) (y / 2)) (b2 (L - 1) (x / 2) (y / 2)) (b3 (L - 1) (x / 2) (y / 2)) = true ∧
    areaU (ovrK S L x y).a (ovrK S L x y).b (ovrK S L x y).c (ovrK S L x y).d = 2 * areaU (b0 L x y) (b1 L x y) (b2 L x y) (b3 L x y) := by
  obtain ⟨ho, hL⟩ := okB_parts h
  obtain ⟨hp, hsd, _⟩ := par_ok h
  have hob := (oth_ok L x y ho hL).2
  have hr1 := cbox_right L x y ho
  have hr2 := cbox_right L x (oth y) hob
  have hr3 := cbox_right _ _ _ hp
  have hs := side_pos L
  have hH : okH (b0 L x y) (b1 L x y) (b2 L x y) (b3 L x y) (b0 L x (oth y)) (b1 L x (oth y)) (b2 L x (oth y)) (b3 L x (oth y)) = true := by rw [okH, hr1, hr2]; rfl
  unfold ovrK
  rw [show d0 L x y = L by rw [d0, if_pos h], show e1 L x y = x by rw [e1, if_pos h], show e2 L x y = oth y by rw [e2, if_pos h]]
  simp only [pairK, ownK, hu0, hu1, hu2, hu3, hH, if_true]
  clear hH
  simp only [b0, b1, b2, b3, if_pos ho, if_pos hob, if_pos hp, hsd, half_mul] at hr1 hr2 hr3 ⊢
  have e : oth y * sideI L = if y % 2 = 0 then y * sideI L + sideI L else y * sideI L - sideI L := by
    unfold oth
    split
    · rw [Int.add_mul, Int.one_mul]
    · rw [Int.sub_mul, Int.one_mul]
  rw [e] at hr2 ⊢
  clear e hob ho hp hsd
  generalize x * sideI L = X at *
  generalize y * sideI L = Y at *
  generalize sideI L = s at *
  rw [rightB_iff] at hr1 hr2 hr3
  have hA1 : areaU X Y (X + s - 1) (Y + s - 1) = s * s := by
    rw [areaU, if_pos ((rightB_iff _ _ _ _).2 hr1), show X + s - 1 - X + 1 = s by omega, show Y + s - 1 - Y + 1 = s by omega]
  rw [hA1]
  split at hr2 <;> rename_i hx
  · simp only [hx, if_true] at hr3 ⊢
    have m1 : min Y (Y + s) = Y := by omega
    have m2 : max (Y + s - 1) (Y + s + s - 1) = Y + s + s - 1 := by omega
    rw [m1, m2, Int.min_self, Int.max_self]
    refine ⟨?_, ?_, ?_⟩
    · simp only [insB, decide_eq_true_eq]; omega
    · simp only [insB, decide_eq_true_eq]; split at hr3 <;> rename_i hy <;> simp only [hy, if_true, if_false] <;> omega
    · rw [areaU, if_pos ((rightB_iff _ _ _ _).2 (by omega)), show X + s - 1 - X + 1 = s by omega, show Y + s + s - 1 - Y + 1 = 2 * s by omega, Int.mul_comm s (2 * s), Int.mul_assoc]
  · simp only [hx, if_false] at hr3 ⊢
    have m1 : min Y (Y - s) = Y - s := by omega
    have m2 : max (Y + s - 1) (Y - s + s - 1) = Y + s - 1 := by omega
    rw [m1, m2, Int.min_self, Int.max_self]
    refine ⟨?_, ?_, ?_⟩
    · simp only [insB, decide_eq_true_eq]; omega
    · simp only [insB, decide_eq_true_eq]; split at hr3 <;> rename_i hy <;> simp only [hy, if_true, if_false] <;> omega
    · rw [areaU, if_pos ((rightB_iff _ _ _ _).2 (by omega)), show X + s - 1 - X + 1 = s by omega, show Y + s - 1 - (Y - s) + 1 = 2 * s by omega, Int.mul_comm s (2 * s), Int.mul_assoc]
/-- What a cloak is, where it lies. -/
def Shape (k : Ck) : Prop :=
  (k.kd = 0 ∧ k.a = b0 k.L k.x k.y ∧ k.b = b1 k.L k.x k.y ∧ k.c = b2 k.L k.x k.y ∧ k.d = b3 k.L k.x k.y) ∨
  (k.kd ≠ 0 ∧ okB k.L k.x k.y = true ∧ insB (b0 k.L k.x k.y) (b1 k.L k.x k.y) (b2 k.L k.x k.y) (b3 k.L k.x k.y) k.a k.b k.c k.d = true ∧
    insB k.a k.b k.c k.d (b0 (k.L - 1) (k.x / 2) (k.y / 2)) (b1 (k.L - 1) (k.x / 2) (k.y / 2)) (b2 (k.L - 1) (k.x / 2) (k.y / 2)) (b3 (k.L - 1) (k.x / 2) (k.y / 2)) = true ∧
    areaU k.a k.b k.c k.d = 2 * areaU (b0 k.L k.x k.y) (b1 k.L k.x k.y) (b2 k.L k.x k.y) (b3 k.L k.x k.y))
theorem tried_shape {S : List Pn} {L x y : Int} {k : Ck} (hk : k ∈ triedK S L x y) : k.L = L ∧ k.x = x ∧ k.y = y ∧ Shape k := by
  have hown : Shape (ownK S L x y) := .inl ⟨rfl, rfl, rfl, rfl, rfl⟩
  have hbes : okB L x y = true → Shape (besK S L x y) := fun hb => by
    obtain ⟨g1, g2, g3⟩ := bes_geo S hb
    exact .inr ⟨by show (1 : Int) ≠ 0; decide, hb, g1, g2, g3⟩
  have hovr : okB L x y = true → Shape (ovrK S L x y) := fun hb => by
    obtain ⟨g1, g2, g3⟩ := ovr_geo S hb
    exact .inr ⟨by show (2 : Int) ≠ 0; decide, hb, g1, g2, g3⟩
  unfold triedK at hk
  split at hk
  · rename_i hb
    split at hk
    · simp only [List.mem_cons, List.not_mem_nil, or_false] at hk
      rcases hk with rfl | rfl | rfl
      · exact ⟨rfl, rfl, rfl, hown⟩
      · exact ⟨rfl, rfl, rfl, hovr hb⟩
      · exact ⟨rfl, rfl, rfl, hbes hb⟩
    · simp only [List.mem_cons, List.not_mem_nil, or_false] at hk
      rcases hk with rfl | rfl | rfl
      · exact ⟨rfl, rfl, rfl, hown⟩
      · exact ⟨rfl, rfl, rfl, hbes hb⟩
      · exact ⟨rfl, rfl, rfl, hovr hb⟩
  · simp only [List.mem_cons, List.not_mem_nil, or_false] at hk
    rcases hk with rfl; exact ⟨rfl, rfl, rfl, hown⟩
/-- What seek finds was tried at a cell that has the point, and does. -/
theorem seek_tried {S : List Pn} {K A : Int} : ∀ (l : Nat) (x y : Int) {k : Ck}, okC (l : Int) x y = true → seekK S K A l x y = some k → ∃ j : Nat, j ≤ l ∧ okC (j : Int) (x / 2 ^ (l - j)) (y / 2 ^ (l - j)) = true ∧ k ∈ triedK S (j : Int) (x / 2 ^ (l - j)) (y / 2 ^ (l - j)) ∧ doesP K A k.n (areaU k.a k.b k.c k.d) = true := by
  intro l
  induction l with
  | zero =>
    intro x y k ho h
    rw [seekK] at h
    exact ⟨0, Nat.le_refl _, by simpa using ho, by simpa using List.mem_of_find?_eq_some h, by have := List.find?_some h; simpa using this⟩
  | succ l ih =>
    intro x y k ho h
    rw [seekK] at h
    cases hf : firstK K A (triedK S ((l : Int) + 1) x y) with
    | some q =>
      rw [hf] at h; simp at h; subst h
      refine ⟨l + 1, Nat.le_refl _, by simpa using ho, ?_, by have := List.find?_some hf; simpa using this⟩
      have := List.mem_of_find?_eq_some hf
      simpa using this
    | none =>
      rw [hf] at h; simp at h
      have ho2 : okC (l : Int) (x / 2) (y / 2) = true := by
        have h := (okC_iff _ _ _).1 ho
        rw [okC_iff]
        simp only [Int.toNat_natCast] at h ⊢
        rw [Int.pow_succ] at h
        omega
      obtain ⟨j, hj, g1, g2, g3⟩ := ih _ _ ho2 h
      have e : ∀ z : Int, z / 2 / 2 ^ (l - j) = z / 2 ^ (l + 1 - j) := fun z => by
        rw [Int.ediv_ediv_of_nonneg (by decide), show l + 1 - j = (l - j) + 1 by omega, Int.pow_succ, Int.mul_comm]
      rw [e, e] at g1 g2
      exact ⟨j, by omega, g1, g2, g3⟩
theorem hides {S : List Pn} (hS : FitS S) {K A px py : Int} (h : findE S K A px py = 0) :
    hasB ((findK S K A px py).getD ck0).a ((findK S K A px py).getD ck0).b ((findK S K A px py).getD ck0).c ((findK S K A px py).getD ck0).d px py = true ∧
    K ≤ ((findK S K A px py).getD ck0).n ∧ ((findK S K A px py).getD ck0).n = (hasN ((findK S K A px py).getD ck0).a ((findK S K A px py).getD ck0).b ((findK S K A px py).getD ck0).c ((findK S K A px py).getD ck0).d S : Int) ∧
    A ≤ areaU ((findK S K A px py).getD ck0).a ((findK S K A px py).getD ck0).b ((findK S K A px py).getD ck0).c ((findK S K A px py).getD ck0).d ∧
    okC ((findK S K A px py).getD ck0).L ((findK S K A px py).getD ck0).x ((findK S K A px py).getD ck0).y = true ∧ Shape ((findK S K A px py).getD ck0) := by
  have hc : fitsB px py = true ∧ rightP K = true := by
    unfold findE at h
    split at h
    · assumption
    · cases h
  rw [findE, if_pos hc] at h
  rw [findK, if_pos hc]
  cases hs : seekK S K A 16 px py with
  | none => rw [hs] at h; cases h
  | some k =>
    simp only [Option.getD_some]
    obtain ⟨j, hj, g1, g2, g3⟩ := seek_tried 16 px py (by rw [show ((16 : Nat) : Int) = 16 from rfl, ← fits_okC]; exact hc.1) hs
    obtain ⟨s1, s2, s3, s4⟩ := tried_shape g2
    have hl2 := lev_ok (px, py) j (by omega) hc.1
    have e1' : a1 16 px py (j : Int) = px / 2 ^ (16 - j) := by
      have := hl2.1; simp only at this
      rw [a1, if_pos this, show ((16 : Int) - (j : Int)).toNat = 16 - j by omega]
    have e2' : a2 16 px py (j : Int) = py / 2 ^ (16 - j) := by
      have := hl2.1; simp only at this
      rw [a2, if_pos this, show ((16 : Int) - (j : Int)).toNat = 16 - j by omega]
    have hcell := own_cell (px, py) j (by omega) hc.1
    simp only [e1', e2'] at hcell
    simp only [doesP, Bool.and_eq_true, decide_eq_true_eq] at g3
    exact ⟨tried_in g1 g2 px py hcell, g3.1.2, tried_has hS g1 g2, g3.2, by rw [s1, s2, s3]; exact g1, s4⟩
end Go.Proofs.Ytipfhleedfbnaaa
