/- token: plain theory: what a ticket that is left grants. -/
import Derived.Test.YteepimmnajnhfaaTo27
import Derived.Test.YteepimmnajnhfaaTo23
namespace Go.Proofs.Yteepimmnajnhfaa
set_option linter.unusedVariables false
set_option linter.unusedSimpArgs false
theorem getD_get {L : List Tk} {i : Nat} (hi : i < L.length) : L.getD i Tk.zero = L[i] := by
  rw [List.getD_eq_getElem?_getD, List.getElem?_eq_getElem hi]; rfl
theorem grI_up {L : List Tk} (h : WF L) (now : Int) (f : Nat) : ∀ i, i ≤ f → ∀ hi : i < L.length, Rt (grI L f i) ∧ (now ≤ (grI L f i).til ↔ upR (fun k => decide (k.g.til < now)) L (f + 1) L[i] = false) := by
  induction f with
  | zero =>
    intro i hf hi
    have hr := (rt_iff _).1 (h.right _ (List.getElem_mem hi))
    have e : grI L 0 i = L[i].g := by rw [grI, getD_get hi]
    rw [e]
    refine ⟨hr, ?_⟩
    have ho := h.ord i hi
    rw [getD_get hi] at ho
    have hb : rfB L L[i].par = false := by rw [rfB]; simp; omega
    rw [upR, hb]
    by_cases h1 : L[i].g.til < now
    · rw [if_pos (by simpa using h1)]; simp; omega
    · rw [if_neg (by simpa using h1)]; simp; omega
  | succ f ih =>
    intro i hf hi
    have hr := (rt_iff _).1 (h.right _ (List.getElem_mem hi))
    have ho := h.ord i hi
    rw [getD_get hi] at ho
    by_cases hp : fnd (secs L) L[i].par < 0
    · have e : grI L (f + 1) i = L[i].g := by rw [grI, getD_get hi, if_pos hp]
      rw [e]
      refine ⟨hr, ?_⟩
      have hb : rfB L L[i].par = false := by rw [rfB]; simp; omega
      rw [upR, hb]
      by_cases h1 : L[i].g.til < now
      · rw [if_pos (by simpa using h1)]; simp; omega
      · rw [if_neg (by simpa using h1)]; simp; omega
    · have hb : rfB L L[i].par = true := by rw [rfB]; simp; omega
      obtain ⟨j, hj, e1, e2, _⟩ := rfG_get L L[i].par hb
      have hjf : j ≤ f := by omega
      obtain ⟨r1, r2⟩ := ih j hjf hj
      have e : grI L (f + 1) i = meetG L[i].g (grI L f j) := by
        rw [grI, getD_get hi, if_neg hp, e1, Int.toNat_natCast, meetC_rt hr r1]
      rw [e]
      refine ⟨rt_meet hr r1, ?_⟩
      rw [meetG_til, upR, hb, e2]
      by_cases h1 : L[i].g.til < now
      · rw [if_pos (by simpa using h1)]; simp; omega
      · rw [if_neg (by simpa using h1), if_pos rfl, ← r2]; omega
theorem fnd_sec {L : List Tk} (h : WF L) : ∀ i (hi : i < L.length), fnd (secs L) L[i].sec = i := by
  induction h with
  | nil => intro i hi; simp at hi
  | snoc h0 h1 h2 h3 h4 ih =>
    rename_i L q
    intro i hi
    by_cases hi2 : i < L.length
    · rw [List.getElem_append_left hi2, secs_snoc]
      have h5 := ih i hi2
      rw [fnd_snocN _ _ _ (by omega)]; exact h5
    · have hi3 : i = L.length := by simp at hi; omega
      subst hi3
      rw [List.getElem_concat_length (by rfl), secs_snoc]
      have h6 : fnd (secs L) q.sec < 0 := by
        by_cases h7 : 0 ≤ fnd (secs L) q.sec
        · exact absurd ((fnd_mem _ _).1 h7).2 h2
        · omega
      rw [fnd_snoc, if_pos ⟨h6, rfl, h1⟩, secs_length]
/-- A ticket that is left grants what is not over. -/
theorem liv_left {L : List Tk} (h : WF L) (now : Int) (hl : leftC now L = L) (i : Nat) (hi : i < L.length) : livB L L[i].sec = true ∧ now ≤ (livG L L[i].sec).til ∧ now ≤ L[i].g.til ∧ livG L L[i].sec = grI L L.length i := by
  have e := fnd_sec h i hi
  have hg : livG L L[i].sec = grI L L.length i := by rw [livG, e, if_neg (by omega), Int.toNat_natCast]
  have hn := drop_not h (fun k => decide (k.g.til < now)) L[i] (by
    have : dropT (fun k => decide (k.g.til < now)) L = L := hl
    rw [this]; exact List.getElem_mem hi)
  refine ⟨by rw [livB, e]; simp, ?_, by simpa using hn, hg⟩
  rw [hg]
  have h1 := (grI_up h now L.length i (by omega) hi).2
  rw [h1, up_gone h _ i hi _ (by omega)]
  have h2 : gone (fun k => decide (k.g.til < now)) L = [] := by
    have h3 := drop_drop h fun k => decide (k.g.til < now)
    have : dropT (fun k => decide (k.g.til < now)) L = L := hl
    rw [this] at h3; exact h3
  rw [h2]
  cases hb : hasN [] L[i].sec
  · rfl
  · exact absurd ((hasN_iff _ _).1 hb).2 (by simp)
end Go.Proofs.Yteepimmnajnhfaa
