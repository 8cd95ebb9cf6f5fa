/- token: plain theory: what a ticket grants is narrower; what the document reckons is the same. -/
import Derived.Test.YteepimmnajnhfaaTo28
namespace Go.Proofs.Yteepimmnajnhfaa
set_option linter.unusedVariables false
set_option linter.unusedSimpArgs false
theorem grI_step {L : List Tk} (f i : Nat) (hi : i < L.length) : grI L (f + 1) i = if fnd (secs L) L[i].par < 0 then L[i].g else meetC L[i].g (grI L f (fnd (secs L) L[i].par).toNat) := by rw [grI, getD_get hi]
theorem grI_fuel {L : List Tk} (h : WF L) (f : Nat) : ∀ f' i, i ≤ f → i ≤ f' → ∀ hi : i < L.length, grI L f i = grI L f' i := by
  induction f with
  | zero =>
    intro f' i h1 h2 hi
    have ho := h.ord i hi
    rw [getD_get hi] at ho
    cases f' with
    | zero => rfl
    | succ f' => rw [grI_step f' i hi, if_pos (by omega), grI, getD_get hi]
  | succ f ih =>
    intro f' i h1 h2 hi
    have ho := h.ord i hi
    rw [getD_get hi] at ho
    cases f' with
    | zero => rw [grI_step f i hi, if_pos (by omega), grI, getD_get hi]
    | succ f' =>
      rw [grI_step f i hi, grI_step f' i hi]
      split
      · rfl
      · rename_i hp
        congr 1
        exact ih f' _ (by omega) (by omega) (by omega)
/-- Is a together with b just a? -/
def narB (a b : Gt) : Bool := rightG a && rightG b && decide (meetC a b = a)
theorem nar_of {a b : Gt} (ha : Rt a) (hb : Rt b) (h : meetG a b = a) : narB a b = true := by
  rw [narB, (rt_iff a).2 ha, (rt_iff b).2 hb, meetC_rt ha hb, h]; simp
theorem nar_own {L : List Tk} (h : WF L) (i : Nat) (hi : i < L.length) : narB (grI L L.length i) L[i].g = true := by
  have hr := (rt_iff _).1 (h.right _ (List.getElem_mem hi))
  have r1 := (grI_up h 0 L.length i (by omega) hi).1
  refine nar_of r1 hr ?_
  obtain ⟨n, hn⟩ : ∃ n, L.length = n + 1 := ⟨L.length - 1, by omega⟩
  have ho := h.ord i hi
  rw [getD_get hi] at ho
  rw [hn, grI_step n i hi]
  split
  · exact meetG_self hr
  · rename_i hp
    have hj : (fnd (secs L) L[i].par).toNat < L.length := by omega
    have r2 := (grI_up h 0 n (fnd (secs L) L[i].par).toNat (by omega) hj).1
    rw [meetC_rt hr r2, meetG_left hr r2]
theorem nar_par {L : List Tk} (h : WF L) (i : Nat) (hi : i < L.length) (hp : L[i].par ≠ 0) : livB L L[i].par = true ∧ narB (grI L L.length i) (livG L L[i].par) = true := by
  have hr := (rt_iff _).1 (h.right _ (List.getElem_mem hi))
  have hm : L[i].par ∈ secs L := by
    rcases h.par _ (List.getElem_mem hi) with h1 | h1
    · exact absurd h1 hp
    · exact h1
  have h0 := (fnd_mem (secs L) L[i].par).2 ⟨hp, hm⟩
  refine ⟨by rw [livB]; simpa using h0, ?_⟩
  have ho := h.ord i hi
  rw [getD_get hi] at ho
  have hj : (fnd (secs L) L[i].par).toNat < L.length := by omega
  have r1 := (grI_up h 0 L.length i (by omega) hi).1
  have r2 := (grI_up h 0 L.length (fnd (secs L) L[i].par).toNat (by omega) hj).1
  have e : livG L L[i].par = grI L L.length (fnd (secs L) L[i].par).toNat := by rw [livG, if_neg (by omega)]
  rw [e]
  refine nar_of r1 r2 ?_
  obtain ⟨n, hn⟩ : ∃ n, L.length = n + 1 := ⟨L.length - 1, by omega⟩
  have e2 : grI L L.length i = meetG L[i].g (grI L L.length (fnd (secs L) L[i].par).toNat) := by
    conv => lhs; rw [hn, grI_step n i hi, if_neg (by omega)]
    rw [grI_fuel h n L.length _ (by omega) (by omega) hj, meetC_rt hr r2]
  rw [e2, meetG_right hr r2]
theorem gra_off (L : List Tk) (f : Nat) (g : Gt) (p : Tk) : graR L f g p false = g := by
  cases f with
  | zero => rfl
  | succ f => rw [graR, if_neg (by simp)]
theorem gra_grI {L : List Tk} (h : WF L) (f : Nat) : ∀ (g : Gt) (i : Nat) (hi : i < L.length), Rt g → i + 1 ≤ f → graR L f g L[i] true = meetG g (grI L L.length i) := by
  induction f with
  | zero => intro g i hi hg hf; omega
  | succ f ih =>
    intro g i hi hg hf
    have hr := (rt_iff _).1 (h.right _ (List.getElem_mem hi))
    have ho := h.ord i hi
    rw [getD_get hi] at ho
    obtain ⟨n, hn⟩ : ∃ n, L.length = n + 1 := ⟨L.length - 1, by omega⟩
    rw [graR, if_pos rfl]
    by_cases hp : fnd (secs L) L[i].par < 0
    · have hb : rfB L L[i].par = false := by rw [rfB]; simp; omega
      rw [hb, gra_off]
      rw [hn, grI_step n i hi, if_pos hp]
    · have hb : rfB L L[i].par = true := by rw [rfB]; simp; omega
      obtain ⟨j, hj, e1, e2, _⟩ := rfG_get L L[i].par hb
      have r2 := (grI_up h 0 L.length j (by omega) hj).1
      rw [hb, e2, ih _ j hj (rt_meet hg hr) (by omega)]
      conv => rhs; rw [hn, grI_step n i hi, if_neg hp, e1, Int.toNat_natCast]
      rw [grI_fuel h n L.length j (by omega) (by omega) hj, meetC_rt hr r2, meetG_assoc hg hr r2]
/-- What a ticket grants, by the document. -/
theorem rgr_grI {L : List Tk} (h : WF L) (i : Nat) (hi : i < L.length) : rGr L L[i] = grI L L.length i := by
  have hr := (rt_iff _).1 (h.right _ (List.getElem_mem hi))
  have ho := h.ord i hi
  rw [getD_get hi] at ho
  obtain ⟨n, hn⟩ : ∃ n, L.length = n + 1 := ⟨L.length - 1, by omega⟩
  rw [rGr]
  by_cases hp : fnd (secs L) L[i].par < 0
  · have hb : rfB L L[i].par = false := by rw [rfB]; simp; omega
    rw [hb, gra_off]
    rw [hn, grI_step n i hi, if_pos hp]
  · have hb : rfB L L[i].par = true := by rw [rfB]; simp; omega
    obtain ⟨j, hj, e1, e2, _⟩ := rfG_get L L[i].par hb
    have r2 := (grI_up h 0 L.length j (by omega) hj).1
    rw [hb, e2, gra_grI h L.length _ j hj hr (by omega)]
    conv => rhs; rw [hn, grI_step n i hi, if_neg hp, e1, Int.toNat_natCast]
    rw [grI_fuel h n L.length j (by omega) (by omega) hj, meetC_rt hr r2]
end Go.Proofs.Yteepimmnajnhfaa
