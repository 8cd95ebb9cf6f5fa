/- reply: the document's bytes are the code's. -/
import Derived.Test.YtmapcdmegkfheaaZbRe21
import Derived.Test.YtmapcdmegkfheaaZbRe19
namespace Go.Proofs.Ytmapcdmegkfheaa
set_option linter.unusedVariables false
set_option linter.unusedSimpArgs false
open Go.RowKit
theorem byt_enc {w : World} {op m : Int} {a : An} {L : List Snt} {M : List Evt} (h : AnR w a L M) (hma : mayB op m a L M = true) (hs : a.sec ≤ 18446744073709551615) : bytE op m a L M = encW op m a L M := by
  obtain ⟨q1, q2, q3, q4, q5, q6, q7⟩ := may_few h hma
  obtain ⟨r1, r2, r3⟩ := wr_fit h hma
  have hsl := h.sl
  have hel := h.el
  have hma2 := hma
  unfold mayB at hma2
  simp only [Bool.and_eq_true] at hma2
  have hwi2 : 0 ≤ a.st ∧ a.st ≤ 12 := within_iff.1 hma2.2.2.1
  have hrest := hma2.2.2.2
  have hH := head_be (a := a) q1 q2 hwi2.1 hwi2.2 (by omega)
  unfold restB at hrest
  by_cases hst : a.st = 0
  · rw [if_pos hst] at hrest
    simp only [Bool.and_eq_true] at hrest
    have hho := hrest.1
    suffices hR : refE op a L M = wrW op a L M by unfold bytE encW; rw [hR]
    unfold refE wrW
    rw [hH]
    have hmid : midE op a = midW op a := by
      unfold midE midW
      rw [if_neg (by simp; exact hst)]
      by_cases h4 : op = 4 ∨ op = 5
      · rw [if_pos h4, if_pos h4]
        simp only [rowU, List.flatMap_cons, List.flatMap_nil, List.append_nil, putL]
        rw [if_pos (by omega)]
      · rw [if_neg h4, if_neg h4]
        by_cases h12 : op = 12
        · rw [if_pos h12, if_pos h12]
          unfold holdsB at hho
          rw [if_pos h12] at hho
          simp only [Bool.and_eq_true, fitsB_iff, within_iff] at hho
          obtain ⟨_, hf, hl⟩ := hho
          rw [rowB2, rowB1, put_be (b := 65535) (by decide) (by omega) (by omega), put_be (b := 65535) (by decide) (by omega) (by omega), put_be (b := 255) (by decide) (by omega) (by omega), List.append_assoc]
        · rw [if_neg h12, if_neg h12]
          by_cases h10 : op = 10
          · rw [if_pos h10, if_pos h10]
            unfold holdsB at hho
            rw [if_neg h12, if_pos h10] at hho
            exact (rect_be hho).symm
          · rw [if_neg h10, if_neg h10]
    have hseen : L.flatMap seenE = L.flatMap seenW := by
      by_cases hs2 : op = 13 ∨ op = 14 ∨ op = 15 ∨ op = 16
      · unfold holdsB at hho
        rw [if_neg (by omega), if_neg (by omega), if_pos hs2] at hho
        simp only [Bool.and_eq_true, List.all_eq_true] at hho
        exact flat_congr fun x hx => (seen_be (hho.2 x hx)).symm
      · have : L = [] := by
          have h9 : eachN op.toNat = 0 ∨ eachN op.toNat = 8 := by
            by_cases he : op = 17 ∨ op = 18
            · rcases he with rfl | rfl <;> exact .inr rfl
            · left
              have : op = 1 ∨ op = 2 ∨ op = 3 ∨ op = 4 ∨ op = 5 ∨ op = 6 ∨ op = 7 ∨ op = 8 ∨ op = 9 ∨ op = 10 ∨ op = 11 ∨ op = 12 ∨ op = 19 := by omega
              rcases this with rfl | rfl | rfl | rfl | rfl | rfl | rfl | rfl | rfl | rfl | rfl | rfl | rfl <;> rfl
          have hb := hrest.2
          have := (bare_rows hb).1
          rw [out_sn hs2] at this
          exact List.eq_nil_of_length_eq_zero (by omega)
        rw [this]; rfl
    have hevt : M.flatMap evtE = M.flatMap evtW := by
      by_cases he : op = 17 ∨ op = 18
      · unfold holdsB at hho
        rw [if_neg (by omega), if_neg (by omega), if_neg (by omega), if_pos he] at hho
        simp only [Bool.and_eq_true, List.all_eq_true] at hho
        exact flat_congr fun x hx => (evt_be (hho.2 x hx)).symm
      · have : M = [] := by
          have hb := hrest.2
          have := (bare_rows hb).2
          rw [out_en he] at this
          exact List.eq_nil_of_length_eq_zero (by omega)
        rw [this]; rfl
    rw [hmid, hseen, hevt]
  · rw [if_neg hst] at hrest
    obtain ⟨b1, b2⟩ := bare_rows hrest
    have hL : L = [] := List.eq_nil_of_length_eq_zero (by omega)
    have hM : M = [] := List.eq_nil_of_length_eq_zero (by omega)
    subst hL; subst hM
    have hb := hrest
    simp only [bareB, four, Bool.and_eq_true, decide_eq_true_eq] at hb
    obtain ⟨z1, ⟨z2, z3, z4, z5⟩, ⟨z6, z7, z8, z9⟩, _⟩ := hb
    have hme : midE op a = [] := by unfold midE; rw [if_pos hst]
    have hmw : midW op a = List.replicate (onceN op.toNat) 0 := by
      unfold midW
      by_cases h4 : op = 4 ∨ op = 5
      · rw [if_pos h4, z1]
        rcases h4 with rfl | rfl <;> rfl
      · rw [if_neg h4]
        by_cases h12 : op = 12
        · rw [if_pos h12, z3, z4, z5]
          subst h12; rfl
        · rw [if_neg h12]
          by_cases h10 : op = 10
          · rw [if_pos h10, z6, z7, z8, z9]
            subst h10; rfl
          · rw [if_neg h10]
            have : onceN op.toNat = 0 := by
              have : op = 1 ∨ op = 2 ∨ op = 3 ∨ op = 6 ∨ op = 7 ∨ op = 8 ∨ op = 9 ∨ op = 11 ∨ op = 13 ∨ op = 14 ∨ op = 15 ∨ op = 16 ∨ op = 17 ∨ op = 18 ∨ op = 19 := by omega
              rcases this with rfl | rfl | rfl | rfl | rfl | rfl | rfl | rfl | rfl | rfl | rfl | rfl | rfl | rfl | rfl <;> rfl
            rw [this]; rfl
    have hE : refE op a [] [] = headE op a := by unfold refE; rw [hme]; simp
    have hW : wrW op a [] [] = headE op a ++ midW op a := by unfold wrW; rw [hH]; simp
    unfold bytE encW
    rw [hE, hW]
    refine (pad_eq (headE op a) (midW op a) (lenN op m).toNat (onceN op.toNat) hmw ?_).symm
    rw [len_eq q1 q2 q3 q4, Int.toNat_natCast]
    have : (headE op a).length = 3 := rfl
    omega
end Go.Proofs.Ytmapcdmegkfheaa
