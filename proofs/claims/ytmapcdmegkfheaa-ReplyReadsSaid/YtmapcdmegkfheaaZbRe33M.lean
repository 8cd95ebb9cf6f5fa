/- reply: behind what an answer has all bytes are 0. -/
import Derived.Test.YtmapcdmegkfheaaZbRe27M
namespace Go.Proofs.Ytmapcdmegkfheaa
set_option linter.unusedVariables false
set_option linter.unusedSimpArgs false
open Go.RowKit
/-- How many bytes an answer has. -/
def nN (op : Int) (a : An) : Nat := if a.st = 0 then 3 + onceN op.toNat + (a.sn + a.en) * eachN op.toNat else 3
theorem midF_len {op : Int} (h1 : 1 ≤ op) (h2 : op ≤ 19) (a : An) : (midF op a).length = onceN op.toNat := by
  unfold midF
  by_cases h4 : op = 4 ∨ op = 5
  · rw [if_pos h4, be_length]
    rcases h4 with rfl | rfl <;> rfl
  · rw [if_neg h4]
    by_cases h12 : op = 12
    · rw [if_pos h12]; subst h12
      simp only [List.length_append, be_length]; rfl
    · rw [if_neg h12]
      by_cases h10 : op = 10
      · rw [if_pos h10]; subst h10
        rw [rectE_len]; rfl
      · rw [if_neg h10]
        have : op = 1 ∨ op = 2 ∨ op = 3 ∨ op = 6 ∨ op = 7 ∨ op = 8 ∨ op = 9 ∨ op = 11 ∨ op = 13 ∨ op = 14 ∨ op = 15 ∨ op = 16 ∨ op = 17 ∨ op = 18 ∨ op = 19 := by omega
        rcases this with rfl | rfl | rfl | rfl | rfl | rfl | rfl | rfl | rfl | rfl | rfl | rfl | rfl | rfl | rfl <;> rfl
theorem items_len {op : Int} {a : An} {L : List Snt} {M : List Evt} (F : Fine op a L M) (hsl : L.length = a.sn) (hel : M.length = a.en) : L.length * 11 + M.length * 8 = (a.sn + a.en) * eachN op.toNat := by
  by_cases hs : op = 13 ∨ op = 14 ∨ op = 15 ∨ op = 16
  · have hM := F.en (by omega)
    subst hM
    have e : eachN op.toNat = 11 := by rcases hs with rfl | rfl | rfl | rfl <;> rfl
    rw [e]; simp at hel ⊢; omega
  · have hL := F.sn hs
    subst hL
    by_cases he : op = 17 ∨ op = 18
    · have e : eachN op.toNat = 8 := by rcases he with rfl | rfl <;> rfl
      rw [e]; simp at hsl ⊢; omega
    · have hM := F.en he
      subst hM
      simp at hsl hel
      rw [← hsl, ← hel]; simp
theorem zero_behind {w : World} {op m : Int} {a : An} {L : List Snt} {M : List Evt} (h : AnR w a L M) (hma : mayB op m a L M = true) (hs : a.sec ≤ 18446744073709551615) :
    ∃ P : Bs, P.length = nN op a ∧ encW op m a L M = P ++ List.replicate ((lenN op m).toNat - nN op a) 0 := by
  obtain ⟨q1, q2, q3, q4, q5, q6, q7⟩ := may_few h hma
  obtain ⟨r1, r2, r3⟩ := wr_fit h hma
  have F := fine h hma
  have hit := items_len F h.sl h.el
  have hW := wr_form h hma hs
  have hml := midF_len q1 q2 a
  unfold nN
  by_cases hst : a.st = 0
  · rw [if_pos hst]
    have hl : (wrW op a L M).length = 3 + onceN op.toNat + (a.sn + a.en) * eachN op.toNat := by
      rw [hW, ← hit, ← hml]
      simp only [List.length_append, seenE_len, evtE_len]
      have : (headE op a).length = 3 := rfl
      omega
    exact ⟨wrW op a L M, hl, by unfold encW; rw [hl]⟩
  · rw [if_neg hst]
    have hb : bareB a = true := by
      unfold mayB at hma
      simp only [Bool.and_eq_true] at hma
      have hr := hma.2.2.2
      unfold restB at hr
      rwa [if_neg hst] at hr
    obtain ⟨z1, ⟨z2, z3, z4, z5⟩, ⟨z6, z7, z8, z9⟩, z10, z11⟩ := bare_z hb
    have hL : L = [] := List.eq_nil_of_length_eq_zero (by have := h.sl; omega)
    have hM : M = [] := List.eq_nil_of_length_eq_zero (by have := h.el; omega)
    subst hL; subst hM
    have hmz : midF op a = List.replicate (onceN op.toNat) 0 := by
      unfold midF
      rw [z1, z3, z4, z5, z6, z7, z8, z9]
      by_cases h4 : op = 4 ∨ op = 5
      · rw [if_pos h4]
        rcases h4 with rfl | rfl <;> rfl
      · rw [if_neg h4]
        by_cases h12 : op = 12
        · rw [if_pos h12]; subst h12; rfl
        · rw [if_neg h12]
          by_cases h10 : op = 10
          · rw [if_pos h10]; subst h10; rfl
          · rw [if_neg h10]
            have e : (midF op a).length = 0 := by unfold midF; rw [if_neg h4, if_neg h12, if_neg h10]; rfl
            rw [hml] at e
            rw [e]; rfl
    refine ⟨headE op a, rfl, ?_⟩
    have hW2 : wrW op a [] [] = headE op a ++ midF op a := by rw [hW]; simp
    unfold encW
    rw [hW2]
    refine pad_eq (headE op a) (midF op a) (lenN op m).toNat (onceN op.toNat) hmz ?_
    rw [len_eq q1 q2 q3 q4, Int.toNat_natCast]
    have : (headE op a).length = 3 := rfl
    omega
end Go.Proofs.Ytmapcdmegkfheaa
