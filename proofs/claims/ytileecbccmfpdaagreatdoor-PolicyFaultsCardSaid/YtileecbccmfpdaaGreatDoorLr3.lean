/- lex: a text that is one token. -/
import Derived.Test.YtileecbccmfpdaaGreatDoorLr2
namespace Go.Proofs.YtileecbccmfpdaaGreatDoor
set_option linter.unusedVariables false
set_option linter.unusedSimpArgs false
open Go.RowKit
theorem skp_suffix (b : Bool) (l : Bs) : ∀ p, ∃ a, l = a ++ (skp b l p).1 := by
  induction l generalizing b with
  | nil => intro p; exact ⟨[], rfl⟩
  | cons c l ih =>
    intro p
    rw [skp]
    split
    · obtain ⟨a, h⟩ := ih ((b || c.toNat == 35) && !(c.toNat == 10)) (adv p c)
      exact ⟨c :: a, by rw [List.cons_append, ← h]⟩
    · exact ⟨[], rfl⟩
theorem tkT_A {l : Bs} (h : tkE l = 0) : tkT l = tkA l := by
  unfold tkE at h
  unfold tkT
  split at h
  · rename_i h1
    rw [if_pos h1]
    unfold nameE at h
    unfold nameTx
    split at h
    · rename_i h2; rw [if_pos h2]
    · rename_i h2
      split at h
      · cases h
      · rename_i h3; rw [if_neg h2, if_neg h3]
  · rename_i h1
    rw [if_neg h1]
    split at h
    · rename_i h2
      rw [if_pos h2]
      unfold numE at h
      unfold numTx
      split at h
      · cases h
      · rename_i h3; rw [if_neg h3]
    · rename_i h2
      rw [if_neg h2, tkA, if_neg h1, if_neg h2]
theorem one_to {l : Bs} {x : Tk} (h : toks l = ([x], none)) (ht : x.t = l) : l ≠ [] ∧ tkE l = 0 ∧ tkA l = l ∧ x.k = tkK l := by
  unfold toks at h
  split at h
  · simp at h
  · rename_i hlen
    obtain ⟨a, ha⟩ := skp_suffix false l (1, 1)
    generalize hs : skp false l (1, 1) = s at *
    have hne : s.1 ≠ [] := by
      intro e
      rw [e, tz_nil] at h
      simp at h
    by_cases he : tkE s.1 = 0
    · rw [tz_ok hne he] at h
      have hx : x = ⟨tkK s.1, tkT s.1, tkN s.1, s.2⟩ := by
        unfold app at h
        split at h
        · simp at h
        · simp at h; exact h.1.symm
      have hT := tkT_A he
      have h1 := (tkA_pos he hne).2
      have h2 : tkA s.1 = l := by rw [← hT]; rw [hx] at ht; exact ht
      have h3 : a = [] := by
        have e1 := congrArg List.length ha
        rw [List.length_append] at e1
        rw [h2] at h1
        exact List.length_eq_zero_iff.1 (by omega)
      have h4 : s.1 = l := by rw [ha, h3]; rfl
      rw [h4] at hne he h2 hx
      exact ⟨hne, he, h2, by rw [hx]⟩
    · rw [tz_err hne (by omega) he] at h
      simp at h
theorem one_of {l : Bs} (hl : l.length ≤ 512) (hne : l ≠ []) (he : tkE l = 0) (hA : tkA l = l) (hs : on isBl l = false) (h35 : nx l ≠ 35) : toks l = ([⟨tkK l, tkT l, tkN l, (1, 1)⟩], none) := by
  unfold toks
  rw [if_neg (by omega), skp_stop _ hs h35, tz_ok hne he, hA, List.drop_length]
  have e : skp false ([] : Bs) (advs (1, 1) l) = ([], advs (1, 1) l) := rfl
  rw [e, tz_nil]
  simp [app]
theorem rnf_ofNm : rnf = ofNm := by
  funext c
  unfold rnf ofNm
  cases isDg c <;> cases isLet c <;> simp
def nmc (l : Bs) : Bool := match (toks l).1 with
  | [x] => x.k == 1 && decide (x.t = l)
  | _ => false
theorem toks_shape (l : Bs) : (toks l).2 = none ∨ (toks l).1 = [] := by
  unfold toks
  split
  · exact .inr rfl
  · exact tz_shape _ _ _
theorem takeW_all {f : UInt8 → Bool} {l : Bs} (h : (l.takeWhile f).length = l.length) : l.takeWhile f = l := by
  have h1 := (List.prefix_iff_eq_take.1 (List.takeWhile_prefix f (l := l)))
  rw [h, List.take_length] at h1
  exact h1
theorem nmc_rnm (l : Bs) : nmc l = rnm l := by
  rw [Bool.eq_iff_iff]
  constructor
  · intro h
    unfold nmc at h
    split at h
    · rename_i x hx
      have h2 : (toks l).2 = none := by
        rcases toks_shape l with h2 | h2
        · exact h2
        · rw [hx] at h2; cases h2
      simp only [Bool.and_eq_true, beq_iff_eq, decide_eq_true_eq] at h
      obtain ⟨a1, a2, a3, a4⟩ := one_to (x := x) (Prod.ext hx h2) h.2
      rw [h.1] at a4
      have hlet : on isLet l = true := by
        by_cases h1 : on isLet l = true
        · exact h1
        · exfalso
          unfold tkK at a4
          rw [if_neg h1] at a4
          split at a4
          · unfold numKd at a4; split at a4 <;> omega
          · unfold mkKd at a4; split at a4 <;> omega
      unfold tkK at a4
      rw [if_pos hlet, a3] at a4
      have htw : l.takeWhile ofNm = l := by
        have := a3
        rw [tkA, if_pos hlet] at this
        exact this
      unfold nameKd at a4
      split at a4
      · omega
      · rename_i hw
        split at a4
        · omega
        · rename_i h16
          have hpos : 0 < l.length := List.length_pos_iff.2 a1
          have hwf : wordB (bs l) = false := by simpa using hw
          have hle : l.length ≤ 16 := by omega
          unfold rnm
          rw [rnf_ofNm, htw, hlet, hwf, decide_eq_true hpos, decide_eq_true hle, decide_eq_true rfl]
          rfl
    · cases h
  · intro h
    unfold rnm at h
    simp only [Bool.and_eq_true, decide_eq_true_eq, Bool.not_eq_true'] at h
    obtain ⟨h1, h2, h3, h4, h5⟩ := h
    rw [rnf_ofNm] at h4
    have htw := takeW_all h4
    have hA : tkA l = l := by rw [tkA, if_pos h3, htw]
    have hE : tkE l = 0 := by
      rw [tkE, if_pos h3, hA, nameE, h5]
      simp; omega
    have hK : tkK l = 1 := by
      rw [tkK, if_pos h3, hA, nameKd, h5]
      simp; omega
    obtain ⟨c, t, rfl, hc⟩ := span_on h3
    have hcb : 97 ≤ c.toNat ∧ c.toNat ≤ 122 := by simpa [isLet] using hc
    have := one_of (by omega) (by simp) hE hA (by simp [on, isBl]; omega) (by simp [nx]; omega)
    unfold nmc
    rw [this]
    simp only
    rw [hK, tkT_A hE, hA]
    simp
/-- A word is one token. -/
theorem word_one : ∀ i, i < 11 → (toks (wordsL.getD i [])).1.map (fun x => (x.k, x.t)) = [(2, wordsL.getD i [])] ∧ (toks (wordsL.getD i [])).2 = none
  | 0, _ => by constructor <;> kernel_rfl
  | 1, _ => by constructor <;> kernel_rfl
  | 2, _ => by constructor <;> kernel_rfl
  | 3, _ => by constructor <;> kernel_rfl
  | 4, _ => by constructor <;> kernel_rfl
  | 5, _ => by constructor <;> kernel_rfl
  | 6, _ => by constructor <;> kernel_rfl
  | 7, _ => by constructor <;> kernel_rfl
  | 8, _ => by constructor <;> kernel_rfl
  | 9, _ => by constructor <;> kernel_rfl
  | 10, _ => by constructor <;> kernel_rfl
  | k + 11, h => absurd h (by omega)
theorem word_tok (l : Bs) : wordB (bs l) = (match toks l with
    | ([x], none) => decide (x.t = l) && (x.k == 2)
    | _ => false) := by
  rw [Bool.eq_iff_iff]
  constructor
  · intro h
    unfold wordB at h
    rw [List.any_eq_true] at h
    obtain ⟨i, hi, he⟩ := h
    have hi' := List.mem_range.1 hi
    have hl : l = wordsL.getD i [] := bs_inj (by simpa [wS] using he)
    obtain ⟨w1, w2⟩ := word_one i hi'
    rw [← hl] at w1 w2
    cases htk : toks l with
    | mk L f =>
    rw [htk] at w1 w2
    simp only at w1 w2
    subst w2
    match L, w1 with
    | [x], w1 =>
      simp at w1
      simp [w1]
    | [], w1 => simp at w1
    | x :: y :: r, w1 => simp at w1
  · intro h
    split at h
    · rename_i x hx
      simp only [Bool.and_eq_true, beq_iff_eq, decide_eq_true_eq] at h
      obtain ⟨a1, a2, a3, a4⟩ := one_to hx h.1
      rw [h.2] at a4
      by_cases h1 : on isLet l = true
      · unfold tkK at a4
        rw [if_pos h1, a3] at a4
        unfold nameKd at a4
        split at a4
        · assumption
        · split at a4 <;> omega
      · exfalso
        unfold tkK at a4
        rw [if_neg h1] at a4
        split at a4
        · unfold numKd at a4; split at a4 <;> omega
        · unfold mkKd at a4; split at a4 <;> omega
    · cases h
theorem fl_ne (l : Bs) {f : Int × Pl} (h : (toks l).2 = some f) : flE (toks l).2 ≠ 0 := by
  have hz : ∀ (n : Nat) (k : Bs) (p : Pl) (f : Int × Pl), (tz n k p).2 = some f → f.1 ≠ 0 := by
    intro n
    induction n with
    | zero => intro k p f h; simp [tz] at h
    | succ n ih =>
      intro k p f h
      by_cases hk : k = []
      · subst hk; simp [tz_nil] at h
      · by_cases he : tkE k = 0
        · rw [tz_ok hk he] at h
          unfold app at h
          split at h
          · rename_i f' hf
            simp at h
            subst h
            exact ih _ _ _ hf
          · simp at h
        · rw [tz_err hk (by omega) he] at h
          simp at h
          rw [← h]
          exact he
  rw [h]
  show f.1 ≠ 0
  unfold toks at h
  split at h
  · simp at h; rw [← h]; decide
  · exact hz _ _ _ _ h
end Go.Proofs.YtileecbccmfpdaaGreatDoor
