/- rules: no order of rules matters, and one rule more: the pure side. -/
import Derived.Test.YtmgamlpjgghieaaGreatDoorZbRu5
namespace Go.Proofs.YtmgamlpjgghieaaGreatDoor
set_option linter.unusedVariables false
set_option linter.unusedSimpArgs false
open Go.RowKit
theorem zmS_comm (ro ti la x y : Int) (s : Int × Int) (a b : Rc × RV) : zmS ro ti la x y (zmS ro ti la x y s a) b = zmS ro ti la x y (zmS ro ti la x y s b) a := by
  obtain ⟨s1, s2⟩ := s
  unfold zmS
  by_cases ha : (isForB a.1 ro ti la && a.1.bx.any (bxH x y)) = true
  · by_cases hb : (isForB b.1 ro ti la && b.1.bx.any (bxH x y)) = true
    · simp only [ha, hb, if_true]
      by_cases a4 : a.1.k = 4
      · by_cases b4 : b.1.k = 4
        · simp only [a4, b4, if_true]; congr 1; omega
        · by_cases b5 : b.1.k = 5
          · simp [a4, b5]
          · simp [a4, b4, b5]
      · by_cases a5 : a.1.k = 5
        · by_cases b4 : b.1.k = 4
          · simp [a5, b4]
          · by_cases b5 : b.1.k = 5
            · simp [a5, b5]; omega
            · simp [a5, b4, b5]
        · by_cases b4 : b.1.k = 4
          · simp [a4, a5, b4]
          · by_cases b5 : b.1.k = 5
            · simp [a4, a5, b5]
            · simp [a4, a5, b4, b5]
    · simp only [ha, hb, if_true]; simp
  · simp only [ha]; simp
theorem zm_perm (ro ti la x y : Int) {l m : List (Rc × RV)} (h : l.Perm m) : ∀ s, l.foldl (zmS ro ti la x y) s = m.foldl (zmS ro ti la x y) s := by
  induction h with
  | nil => intro s; rfl
  | cons a _ ih => intro s; exact ih _
  | swap a b l => intro s; simp only [List.foldl_cons]; rw [zmS_comm]
  | trans _ _ h1 h2 => intro s; rw [h1, h2]
theorem all_perm {α : Type} {p : α → Bool} {l m : List α} (h : l.Perm m) : l.all p = m.all p := by
  rw [Bool.eq_iff_iff, List.all_eq_true, List.all_eq_true]
  exact ⟨fun hl x hx => hl x (h.mem_iff.2 hx), fun hm x hx => hm x (h.mem_iff.1 hx)⟩
theorem any_perm {α : Type} {p : α → Bool} {l m : List α} (h : l.Perm m) : l.any p = m.any p := by
  rw [Bool.eq_iff_iff, List.any_eq_true, List.any_eq_true]
  exact ⟨fun ⟨x, hx, hp⟩ => ⟨x, h.mem_iff.1 hx, hp⟩, fun ⟨x, hx, hp⟩ => ⟨x, h.mem_iff.2 hx, hp⟩⟩
theorem zoom_perm {l m : List (Rc × RV)} (h : l.Perm m) (ro ti la x y : Int) : zoomN l ro ti la x y = zoomN m ro ti la x y := by
  unfold zoomN zmF rursB
  rw [zm_perm ro ti la x y h, all_perm h]
theorem cloaks_perm {l m : List (Rc × RV)} (h : l.Perm m) (ro : Int) : cloaksB l ro = cloaksB m ro := by
  unfold cloaksB rursB
  rw [any_perm h, all_perm h]
/-- One rule more. -/
theorem zoom_more (l : List (Rc × RV)) (r : Rc × RV) (hr : rurB r.1 = true) (ro ti la x y : Int) :
    (r.1.k = 4 → zoomN l ro ti la x y ≤ zoomN (l ++ [r]) ro ti la x y) ∧ (r.1.k = 5 → zoomN (l ++ [r]) ro ti la x y ≤ zoomN l ro ti la x y) ∧ (r.1.k ≠ 4 → r.1.k ≠ 5 → zoomN (l ++ [r]) ro ti la x y = zoomN l ro ti la x y) := by
  have hall : rursB (l ++ [r]) = rursB l := by unfold rursB; rw [List.all_append]; simp [hr]
  have hst : zmF (l ++ [r]) ro ti la x y = zmS ro ti la x y (zmF l ro ti la x y) r := by unfold zmF; rw [List.foldl_append]; rfl
  unfold zoomN
  rw [hall, hst]
  generalize zmF l ro ti la x y = s
  obtain ⟨s1, s2⟩ := s
  unfold zmS
  by_cases hA : rursB l = true
  · rw [if_pos hA, if_pos hA]
    by_cases hF : (isForB r.1 ro ti la && r.1.bx.any (bxH x y)) = true
    · rw [if_pos hF]
      refine ⟨fun h => ?_, fun h => ?_, fun h4 h5 => ?_⟩
      · rw [if_pos h]; simp only; omega
      · rw [if_neg (by omega), if_pos h]; simp only; omega
      · rw [if_neg h4, if_neg h5]
    · rw [if_neg hF]
      exact ⟨fun _ => Int.le_refl _, fun _ => Int.le_refl _, fun _ _ => rfl⟩
  · rw [if_neg hA, if_neg hA]
    exact ⟨fun _ => Int.le_refl _, fun _ => Int.le_refl _, fun _ _ => rfl⟩
end Go.Proofs.YtmgamlpjgghieaaGreatDoor
