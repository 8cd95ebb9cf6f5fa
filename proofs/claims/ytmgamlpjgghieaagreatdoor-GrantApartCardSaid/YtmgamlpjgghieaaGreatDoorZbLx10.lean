/- lex: a text's tokens, as the document says them. -/
import Derived.Test.YtmgamlpjgghieaaGreatDoorZbLx9
namespace Go.Proofs.YtmgamlpjgghieaaGreatDoor
set_option linter.unusedVariables false
set_option linter.unusedSimpArgs false
open Go.RowKit
structure Tk where
  k : Int
  t : Bs
  n : Int
  p : Pl
abbrev Fl := Option (Int × Pl)
def app (a : List Tk) (R : List Tk × Fl) : List Tk × Fl := match R.2 with
  | some f => ([], some f)
  | none => (a ++ R.1, none)
theorem app_app (a b : List Tk) (R : List Tk × Fl) : app a (app b R) = app (a ++ b) R := by
  obtain ⟨L, f⟩ := R
  cases f <;> simp [app]
theorem app_nil (R : List Tk × Fl) (h : R.2 = none ∨ R.1 = []) : app [] R = R := by
  obtain ⟨L, f⟩ := R
  cases f with
  | none => simp [app]
  | some f =>
    rcases h with h | h
    · cases h
    · simp at h; simp [app, h]
/-- The tokens from a place on at which one begins, or where nothing is left. -/
def tz : Nat → Bs → Pl → List Tk × Fl
  | 0, _, _ => ([], none)
  | _ + 1, [], _ => ([], none)
  | n + 1, c :: l, p =>
    if tkE (c :: l) = 0 then app [⟨tkK (c :: l), tkT (c :: l), tkN (c :: l), p⟩] (tz n (skp false ((c :: l).drop (tkA (c :: l)).length) (advs p (tkA (c :: l)))).1 (skp false ((c :: l).drop (tkA (c :: l)).length) (advs p (tkA (c :: l)))).2)
    else ([], some (tkE (c :: l), p))
theorem tz_nil (n : Nat) (p : Pl) : tz n [] p = ([], none) := by cases n <;> rfl
theorem tz_err {n : Nat} {l : Bs} {p : Pl} (hl : l ≠ []) (hn : 0 < n) (h : tkE l ≠ 0) : tz n l p = ([], some (tkE l, p)) := by
  obtain ⟨m, rfl⟩ : ∃ m, n = m + 1 := ⟨n - 1, by omega⟩
  cases l with
  | nil => exact absurd rfl hl
  | cons c l => rw [tz, if_neg h]
theorem tz_ok {n : Nat} {l : Bs} {p : Pl} (hl : l ≠ []) (h : tkE l = 0) : tz (n + 1) l p = app [⟨tkK l, tkT l, tkN l, p⟩] (tz n (skp false (l.drop (tkA l).length) (advs p (tkA l))).1 (skp false (l.drop (tkA l).length) (advs p (tkA l))).2) := by
  cases l with
  | nil => exact absurd rfl hl
  | cons c l => rw [tz, if_pos h]
theorem skp_len (b : Bool) (l : Bs) : ∀ p, (skp b l p).1.length ≤ l.length := by
  induction l generalizing b with
  | nil => intro p; exact Nat.le_refl _
  | cons c l ih =>
    intro p
    rw [skp]
    split
    · exact Nat.le_trans (ih _ _) (by simp)
    · exact Nat.le_refl _
theorem tkA_pos {l : Bs} (h : tkE l = 0) (hl : l ≠ []) : 0 < (tkA l).length ∧ (tkA l).length ≤ l.length := by
  cases h1 : on isLet l with
  | true =>
    obtain ⟨c, l', rfl, hc⟩ := span_on h1
    have hn : ofNm c = true := by simp [ofNm, hc]
    have e : tkA (c :: l') = (c :: l').takeWhile ofNm := by simp [tkA, h1]
    rw [e]
    exact ⟨by rw [List.takeWhile_cons_of_pos hn]; simp, take_len _ _⟩
  | false =>
    cases h2 : on isDg l with
    | true =>
      obtain ⟨c, l', rfl, hc⟩ := span_on h2
      have e : tkA (c :: l') = (c :: l').takeWhile isDg := by simp [tkA, h1, h2]
      rw [e]
      exact ⟨by rw [List.takeWhile_cons_of_pos hc]; simp, take_len _ _⟩
    | false =>
      have e : tkA l = mkTx l := by simp [tkA, h1, h2]
      have e2 : tkE l = mkE l := by simp [tkE, h1, h2]
      rw [e2] at h
      rw [e]
      unfold mkE at h
      unfold mkTx
      cases hm : mkF l with
      | none => rw [hm] at h; simp at h
      | some k =>
        have hk := List.find?_some hm
        have hk4 := List.mem_range.1 (List.mem_of_find?_eq_some hm)
        have := prefix_take hk
        simp only
        refine ⟨?_, this.2⟩
        have hk2 : k = 0 ∨ k = 1 ∨ k = 2 ∨ k = 3 := by omega
        rcases hk2 with rfl | rfl | rfl | rfl <;> decide
/-- Fuel beyond the length turns nothing. -/
theorem tz_more (n : Nat) : ∀ (m : Nat) (l : Bs) (p : Pl), l.length < n → l.length < m → tz n l p = tz m l p := by
  induction n with
  | zero => intro m l p h; omega
  | succ n ih =>
    intro m l p h1 h2
    obtain ⟨m, rfl⟩ : ∃ k, m = k + 1 := ⟨m - 1, by omega⟩
    by_cases hl : l = []
    · subst hl; rw [tz_nil, tz_nil]
    · by_cases he : tkE l = 0
      · have hA := tkA_pos he hl
        have hs := skp_len false (l.drop (tkA l).length) (advs p (tkA l))
        rw [List.length_drop] at hs
        rw [tz_ok hl he, tz_ok hl he, ih m _ _ (by omega) (by omega)]
      · rw [tz_err hl (by omega) he, tz_err hl (by omega) he]
/-- A text's tokens, or its fault. -/
def toks (l : Bs) : List Tk × Fl := if 512 < l.length then ([], some (2, (1, 1))) else tz (l.length + 1) (skp false l (1, 1)).1 (skp false l (1, 1)).2
def flE : Fl → Int
  | none => 0
  | some f => f.1
def flP : Fl → Pl
  | none => (0, 0)
  | some f => f.2
end Go.Proofs.YtmgamlpjgghieaaGreatDoor
