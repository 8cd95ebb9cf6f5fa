/- reply: the document's Fits is the code's, by contract. -/
import Derived.Test.YtmapcdmegkfheaaZbRe18
namespace Go.Proofs.Ytmapcdmegkfheaa
set_option linter.unusedVariables false
set_option linter.unusedSimpArgs false
open Go.RowKit
theorem each11 : ∀ k : Fin 20, eachN k.val = 11 → (k.val = 13 ∨ k.val = 14 ∨ k.val = 15 ∨ k.val = 16) := by decide
theorem each8 : ∀ k : Fin 20, eachN k.val = 8 → (k.val = 17 ∨ k.val = 18) := by decide
theorem zero_bare (a : An) : bareB a = (zeroB a && (decide (a.sn = 0) && decide (a.en = 0))) := by
  simp only [bareB, zeroB, Bool.and_assoc]
theorem may_rest {op m : Int} {a : An} {L : List Snt} {M : List Evt} (hc : (opB op && mB m) = true) (hi : withinB a.st 0 12 = true) : mayB op m a L M = restB op m a L M := by
  rw [Bool.and_eq_true] at hc
  unfold mayB
  rw [hc.1, hc.2, hi]; rfl
theorem may_ok {op m : Int} {a : An} {L : List Snt} {M : List Evt} (hc : (opB op && mB m) = true) (hi : withinB a.st 0 12 = true) (hs : a.st = 0) : mayB op m a L M = (holdsB op m a L M && bareB (outA op a)) := by
  rw [may_rest hc hi]; unfold restB; rw [if_pos hs]
theorem out_sn {op : Int} {a : An} (h : ¬ (op = 13 ∨ op = 14 ∨ op = 15 ∨ op = 16)) : (outA op a).sn = a.sn := by
  unfold outA
  simp only [h, if_false]
  repeat' split
  all_goals rfl
theorem out_en {op : Int} {a : An} (h : ¬ (op = 17 ∨ op = 18)) : (outA op a).en = a.en := by
  unfold outA
  simp only [h, if_false]
  repeat' split
  all_goals rfl
theorem bare_sn {a : An} (h : 0 < a.sn) : bareB a = false := by
  rw [zero_bare, decide_eq_false (show ¬ a.sn = 0 by omega)]; simp
theorem bare_en {a : An} (h : 0 < a.en) : bareB a = false := by
  rw [zero_bare, decide_eq_false (show ¬ a.en = 0 by omega)]; simp
theorem refits_any (w : World) (op m : Int) (a : An) (L : List Snt) (M : List Evt) (h : AnR w a L M) :
    Calls Try.prog 15 #[.int .i64 op, .int .i64 m, .agg a.cs] w fun e w' => e = .returned (.bool (mayB op m a L M)) ∧ Below w.heap.size w w' := by
  by_cases hc : (opB op && mB m) = true
  rotate_left
  · have hc' : (opB op && mB m) = false := by simpa using hc
    have hm : mayB op m a L M = false := by
      unfold mayB
      rw [← Bool.and_assoc, hc']; rfl
    rw [hm]; exact rf_A w op m a L M h hc'
  by_cases hi : withinB a.st 0 12 = true
  rotate_left
  · have hi' : withinB a.st 0 12 = false := by simpa using hi
    have hm : mayB op m a L M = false := by
      unfold mayB
      rw [hi']; simp
    rw [hm]; exact rf_B w op m a L M h hc hi'
  by_cases hs : a.st = 0
  rotate_left
  · have hm : mayB op m a L M = (zeroB a && (decide (a.sn = 0) && decide (a.en = 0))) := by
      rw [may_rest hc hi]; unfold restB; rw [if_neg hs, zero_bare]
    rw [hm]; exact rf_C w op m a L M h hc hi hs
  have hM := may_ok (op := op) (m := m) (a := a) (L := L) (M := M) hc hi hs
  have hcc := hc
  rw [Bool.and_eq_true] at hcc
  have ho2 : 1 ≤ op ∧ op ≤ 19 := by simpa [opB] using hcc.1
  have hm2 : 0 ≤ m ∧ m ≤ 64 := by simpa [mB] using hcc.2
  obtain ⟨kk, hk⟩ : ∃ kk : Nat, op = (kk : Int) := ⟨op.toNat, by omega⟩
  have hk1 : 1 ≤ kk := by omega
  have hk2 : kk ≤ 19 := by omega
  have n11 : eachN kk ≠ 11 → ¬ (op = 13 ∨ op = 14 ∨ op = 15 ∨ op = 16) := fun h9 h8 => by
    have : kk = 13 ∨ kk = 14 ∨ kk = 15 ∨ kk = 16 := by omega
    rcases this with rfl | rfl | rfl | rfl <;> exact h9 rfl
  have n8 : eachN kk ≠ 8 → ¬ (op = 17 ∨ op = 18) := fun h9 h8 => by
    have : kk = 17 ∨ kk = 18 := by omega
    rcases this with rfl | rfl <;> exact h9 rfl
  have hsl := h.sl
  have hel := h.el
  by_cases h1 : a.sn = 0
  · have hL : L = [] := List.eq_nil_of_length_eq_zero (by omega)
    by_cases h3 : a.en = 0
    · have hMM : M = [] := List.eq_nil_of_length_eq_zero (by omega)
      subst hL; subst hMM
      by_cases h4 : op = 4
      · have hm : mayB op m a [] [] = zeroB { a with sec := 0 } := by
          rw [hM, h4]; simp [holdsB, outA, zero_bare, h1, h3]
        rw [hm]; exact rf_Z4 w op m a [] [] h hc hs hm2.1 h4 h1 h3
      · by_cases h5 : op = 5
        · have hm : mayB op m a [] [] = zeroB { a with sec := 0 } := by
            rw [hM, h5]; simp [holdsB, outA, zero_bare, h1, h3]
          rw [hm]; exact rf_Z5 w op m a [] [] h hc hs hm2.1 h5 h1 h3
        · by_cases h12 : op = 12
          · have hm : mayB op m a [] [] = ((fitsB a.rx a.ry && withinB a.lab 0 7) && zeroB { a with rx := 0, ry := 0, lab := 0 }) := by
              rw [hM, h12]
              simp only [holdsB, outA, zero_bare, if_true, show ¬ ((12 : Int) = 4 ∨ (12 : Int) = 5) by decide, if_false, h1, h3]
              rw [Bool.eq_iff_iff]
              simp [zeroB, four]
              constructor <;> (intro hh; simp [hh])
            rw [hm]; exact rf_Z12 w op m a [] [] h hc hs hm2.1 h12 h1 h3
          · by_cases h10 : op = 10
            · have hm : mayB op m a [] [] = (rightB a.b0 a.b1 a.b2 a.b3 && zeroB { a with b0 := 0, b1 := 0, b2 := 0, b3 := 0 }) := by
                rw [hM, h10]
                simp only [holdsB, outA, zero_bare, if_true, show ¬ ((10 : Int) = 4 ∨ (10 : Int) = 5) by decide, show ¬ ((10 : Int) = 12) by decide, if_false, h1, h3]
                simp
              rw [hm]; exact rf_Z10 w op m a [] [] h hc hs hm2.1 h10 h1 h3
            · have hm : mayB op m a [] [] = zeroB a := by
                rw [hM]
                unfold holdsB outA
                rw [if_neg h12, if_neg h10, if_neg (show ¬ (op = 4 ∨ op = 5) by omega), if_neg h12, if_neg h10]
                by_cases hs2 : op = 13 ∨ op = 14 ∨ op = 15 ∨ op = 16
                · rw [if_pos hs2, if_pos hs2, zero_bare]
                  simp [h1, h3, hm2.1, zeroB]
                · rw [if_neg hs2, if_neg hs2]
                  by_cases he2 : op = 17 ∨ op = 18
                  · rw [if_pos he2, if_pos he2, zero_bare]
                    simp [h1, h3, hm2.1, zeroB]
                  · rw [if_neg he2, if_neg he2, zero_bare]
                    simp [h1, h3]
              rw [hm]; exact rf_Z0 w op m a [] [] h hc hs hm2.1 h4 h5 h12 h10 h1 h3
    · have h3' : 0 < a.en := by omega
      by_cases h2 : eachN kk = 8
      · have ho : op = 17 ∨ op = 18 := by have := each8 ⟨kk, by omega⟩ h2; simp only at this; omega
        by_cases h6 : (a.en : Int) ≤ m
        · have hm : mayB op m a L M = (M.all evB && zeroB a) := by
            rw [hM]
            rcases ho with rfl | rfl <;> simp [holdsB, outA, zero_bare, h1, h6, zeroB]
          rw [hm]; exact rf_V w op m a L M h hc hs hm2.1 (by omega) (by omega) (by omega) (by omega) kk hk hk1 hk2 h1 h2 h3' h6
        · have hm : mayB op m a L M = false := by
            rw [hM]
            rcases ho with rfl | rfl <;> simp [holdsB, h6]
          rw [hm]; exact rf_D5 w op m a L M h hc hi hs kk hk hk1 hk2 h1 h2 h3' (by omega) hm2.1
      · have hm : mayB op m a L M = false := by
          rw [hM, bare_en (by rw [out_en (n8 h2)]; exact h3')]; simp
        rw [hm]; exact rf_D2 w op m a L M h hc hi hs kk hk hk1 hk2 h1 h3' h2
  · have h1' : 0 < a.sn := by omega
    by_cases h2 : eachN kk = 11
    · have ho : op = 13 ∨ op = 14 ∨ op = 15 ∨ op = 16 := by have := each11 ⟨kk, by omega⟩ h2; simp only at this; omega
      by_cases h3 : a.en = 0
      · by_cases h6 : (a.sn : Int) ≤ m
        · have hm : mayB op m a L M = (L.all snB && zeroB a) := by
            rw [hM]
            rcases ho with rfl | rfl | rfl | rfl <;> simp [holdsB, outA, zero_bare, h3, h6, zeroB]
          rw [hm]; exact rf_S w op m a L M h hc hs hm2.1 (by omega) (by omega) (by omega) (by omega) kk hk hk1 hk2 h1' h2 h3 h6
        · have hm : mayB op m a L M = false := by
            rw [hM]
            rcases ho with rfl | rfl | rfl | rfl <;> simp [holdsB, h6]
          rw [hm]; exact rf_D4 w op m a L M h hc hi hs kk hk hk1 hk2 h1' h2 h3 (by omega)
      · have hm : mayB op m a L M = false := by
          rw [hM, bare_en (by rw [out_en (by omega)]; omega)]; simp
        rw [hm]; exact rf_D3 w op m a L M h hc hi hs kk hk hk1 hk2 h1' h2 (by omega)
    · have hm : mayB op m a L M = false := by
        rw [hM, bare_sn (by rw [out_sn (n11 h2)]; exact h1')]; simp
      rw [hm]; exact rf_D1 w op m a L M h hc hi hs kk hk hk1 hk2 h1' h2
end Go.Proofs.Ytmapcdmegkfheaa
