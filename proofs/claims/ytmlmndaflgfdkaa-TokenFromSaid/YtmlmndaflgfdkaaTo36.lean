/- token: which rows may be a table's: what From asks and what the document's All asks are the same. -/
import Derived.Test.YtmlmndaflgfdkaaTo33
namespace Go.Proofs.Ytmlmndaflgfdkaa
set_option linter.unusedVariables false
set_option linter.unusedSimpArgs false
open Go.RowKit
/-- What the document's All refuses at a ticket behind these. -/
def badAt (P : List Tk) (k : Tk) : Bool := decide (k.sec = 0) || rfB P k.sec || (decide (0 < k.par) && !rfB P k.par) || !rightG k.g
theorem okF_iff (P : List Tk) (k : Tk) : okF P k ↔ (badAt P k = false ∧ P.length < 8) := by
  unfold okF badAt rfB putE frE
  cases hr : rightG k.g with
  | false => simp
  | true =>
    by_cases h0 : k.sec = 0
    · simp [h0]
    · by_cases h1 : 0 ≤ fnd (secs P) k.sec
      · simp [h0, h1]
      · by_cases h2 : 0 ≤ fnd (secs P) k.par
        · by_cases h3 : 8 ≤ P.length
          · simp [h0, h1, h2, h3]
          · simp [h0, h1, h2, h3]; omega
        · by_cases h3 : 8 ≤ P.length
          · simp [h0, h1, h2, h3]
          · simp [h0, h1, h2, h3]; omega
theorem fromOk_iff (L : List Tk) : FromOk L ↔ ((∀ j (hj : j < L.length), badAt (L.take j) L[j] = false) ∧ L.length ≤ 8) := by
  constructor
  · intro h
    refine ⟨fun j hj => ((okF_iff _ _).1 (h j hj)).1, ?_⟩
    by_cases h9 : L.length ≤ 8
    · exact h9
    · have h1 := ((okF_iff _ _).1 (h 8 (by omega))).2
      rw [List.length_take] at h1
      omega
  · rintro ⟨h, h8⟩ j hj
    exact (okF_iff _ _).2 ⟨h j hj, by rw [List.length_take]; omega⟩
theorem WF.from_ {L : List Tk} (h : WF L) : ∀ j (hj : j < L.length), badAt (L.take j) L[j] = false := by
  induction h with
  | nil => intro j hj; simp at hj
  | @snoc L k h h0 h1 h2 h3 ih =>
    intro j hj
    by_cases hjl : j < L.length
    · have e1 : (L ++ [k]).take j = L.take j := by rw [List.take_append_of_le_length (by omega)]
      have e2 : (L ++ [k])[j] = L[j] := List.getElem_append_left hjl
      rw [e1, e2]
      exact ih j hjl
    · have hj2 : j = L.length := by simp at hj; omega
      subst hj2
      have e1 : (L ++ [k]).take L.length = L := by simp
      have e2 : (L ++ [k])[L.length] = k := by simp
      rw [e1, e2]
      have n1 : ¬ 0 ≤ fnd (secs L) k.sec := fun e => h1 ((fnd_mem _ _).1 e).2
      unfold badAt rfB
      rw [h3]
      rcases h2 with h2 | h2
      · simp [h0, n1, h2]
      · by_cases hp : k.par = 0
        · simp [h0, n1, hp]
        · have n2 : 0 ≤ fnd (secs L) k.par := (fnd_mem _ _).2 ⟨hp, h2⟩
          simp [h0, n1, n2]
theorem TOk.from_ {L : List Tk} (h : TOk L) : FromOk L := (fromOk_iff L).2 ⟨h.wf.from_, h.len⟩
end Go.Proofs.Ytmlmndaflgfdkaa
