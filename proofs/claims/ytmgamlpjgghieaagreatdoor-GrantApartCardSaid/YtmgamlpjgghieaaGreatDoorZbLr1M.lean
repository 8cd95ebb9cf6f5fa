/- Texts: Lr1, Lr2, Lr3, Lr6, Lr7, LrEnd, LrSame. -/
import Derived.Test.YtmgamlpjgghieaaGreatDoorZbLx11
import Derived.Deep.DeepCutAuto
import Derived.Lib.LastIndexByte
import Derived.BigQuiet
import Derived.Deep.QuietTactic
namespace Go.Proofs.YtmgamlpjgghieaaGreatDoor
section
set_option linter.unusedVariables false
set_option linter.unusedSimpArgs false
open Go.RowKit
/-- run from the beginning on, of a name. -/
def rnf (c : UInt8) : Bool := isDg c || (isLet c || c.toNat == 45)
end
section
set_option linter.unusedVariables false
set_option linter.unusedSimpArgs false
open Go.RowKit
def wordsR : List Bs := [[114, 111, 108, 101], [108, 97, 98, 101, 108], [114, 101, 103, 105, 111, 110], [97, 108, 108, 111, 119], [99, 97, 112], [99, 108, 111, 97, 107], [97, 110, 121], [97, 108, 108], [116, 105, 101, 114], [105, 110], [122, 111, 111, 109]]
def rS (i : Nat) : ByteArray := bs (wordsR.getD i [])
theorem rS_wS : ∀ i, i < 11 → ∃ j, j < 11 ∧ rS i = wS j := by
  have : ∀ i : Fin 11, ∃ j : Fin 11, wordsR.getD i.1 [] = wordsL.getD j.1 [] := by decide +kernel
  intro i hi
  obtain ⟨j, h⟩ := this ⟨i, hi⟩
  exact ⟨j.1, j.2, congrArg bs h⟩
theorem wS_rS : ∀ i, i < 11 → ∃ j, j < 11 ∧ wS i = rS j := by
  have : ∀ i : Fin 11, ∃ j : Fin 11, wordsL.getD i.1 [] = wordsR.getD j.1 [] := by decide +kernel
  intro i hi
  obtain ⟨j, h⟩ := this ⟨i, hi⟩
  exact ⟨j.1, j.2, congrArg bs h⟩
def rvals : Array Value := #[.string ⟨#[114, 111, 108, 101]⟩, .string ⟨#[108, 97, 98, 101, 108]⟩, .string ⟨#[114, 101, 103, 105, 111, 110]⟩, .string ⟨#[97, 108, 108, 111, 119]⟩, .string ⟨#[99, 97, 112]⟩, .string ⟨#[99, 108, 111, 97, 107]⟩, .string ⟨#[97, 110, 121]⟩, .string ⟨#[97, 108, 108]⟩, .string ⟨#[116, 105, 101, 114]⟩, .string ⟨#[105, 110]⟩, .string ⟨#[122, 111, 111, 109]⟩]
theorem rvals_at : ∀ k, k < 11 → rvals[k]? = some (.string (rS k))
  | 0, _ => rfl
  | 1, _ => rfl
  | 2, _ => rfl
  | 3, _ => rfl
  | 4, _ => rfl
  | 5, _ => rfl
  | 6, _ => rfl
  | 7, _ => rfl
  | 8, _ => rfl
  | 9, _ => rfl
  | 10, _ => rfl
  | k + 11, h => absurd h (by omega)
/-- Is a text a name? -/
def rnm (l : Bs) : Bool := decide (0 < l.length) && (decide (l.length ≤ 16) && (on isLet l && (decide ((l.takeWhile rnf).length = l.length) && !wordB (bs l))))
end
section
set_option linter.unusedVariables false
set_option linter.unusedSimpArgs false
open Go.RowKit
theorem skp_suffix (b : Bool) (l : Bs) : ∀ p, ∃ a, l = a ++ (skp b l p).1 := by
  induction l generalizing b with
  | nil => intro p; exact ⟨[], rfl⟩
  | cons c l ih =>
    intro p
    rw [skp]
    split
    · obtain ⟨a, h⟩ := ih ((b || c.toNat == 35) && !(c.toNat == 10)) (adv p c)
      exact ⟨c :: a, by rw [List.cons_append, ← h]⟩
    · exact ⟨[], rfl⟩
theorem tkT_A {l : Bs} (h : tkE l = 0) : tkT l = tkA l := by
  unfold tkE at h
  unfold tkT
  split at h
  · rename_i h1
    rw [if_pos h1]
    unfold nameE at h
    unfold nameTx
    split at h
    · rename_i h2; rw [if_pos h2]
    · rename_i h2
      split at h
      · cases h
      · rename_i h3; rw [if_neg h2, if_neg h3]
  · rename_i h1
    rw [if_neg h1]
    split at h
    · rename_i h2
      rw [if_pos h2]
      unfold numE at h
      unfold numTx
      split at h
      · cases h
      · rename_i h3; rw [if_neg h3]
    · rename_i h2
      rw [if_neg h2, tkA, if_neg h1, if_neg h2]
theorem one_to {l : Bs} {x : Tk} (h : toks l = ([x], none)) (ht : x.t = l) : l ≠ [] ∧ tkE l = 0 ∧ tkA l = l ∧ x.k = tkK l := by
  unfold toks at h
  split at h
  · simp at h
  · rename_i hlen
    obtain ⟨a, ha⟩ := skp_suffix false l (1, 1)
    generalize hs : skp false l (1, 1) = s at *
    have hne : s.1 ≠ [] := by
      intro e
      rw [e, tz_nil] at h
      simp at h
    by_cases he : tkE s.1 = 0
    · rw [tz_ok hne he] at h
      have hx : x = ⟨tkK s.1, tkT s.1, tkN s.1, s.2⟩ := by
        unfold app at h
        split at h
        · simp at h
        · simp at h; exact h.1.symm
      have hT := tkT_A he
      have h1 := (tkA_pos he hne).2
      have h2 : tkA s.1 = l := by rw [← hT]; rw [hx] at ht; exact ht
      have h3 : a = [] := by
        have e1 := congrArg List.length ha
        rw [List.length_append] at e1
        rw [h2] at h1
        exact List.length_eq_zero_iff.1 (by omega)
      have h4 : s.1 = l := by rw [ha, h3]; rfl
      rw [h4] at hne he h2 hx
      exact ⟨hne, he, h2, by rw [hx]⟩
    · rw [tz_err hne (by omega) he] at h
      simp at h
theorem one_of {l : Bs} (hl : l.length ≤ 512) (hne : l ≠ []) (he : tkE l = 0) (hA : tkA l = l) (hs : on isBl l = false) (h35 : nx l ≠ 35) : toks l = ([⟨tkK l, tkT l, tkN l, (1, 1)⟩], none) := by
  unfold toks
  rw [if_neg (by omega), skp_stop _ hs h35, tz_ok hne he, hA, List.drop_length]
  have e : skp false ([] : Bs) (advs (1, 1) l) = ([], advs (1, 1) l) := rfl
  rw [e, tz_nil]
  simp [app]
theorem rnf_ofNm : rnf = ofNm := by
  funext c
  unfold rnf ofNm
  cases isDg c <;> cases isLet c <;> simp
def nmc (l : Bs) : Bool := match (toks l).1 with
  | [x] => x.k == 1 && decide (x.t = l)
  | _ => false
theorem toks_shape (l : Bs) : (toks l).2 = none ∨ (toks l).1 = [] := by
  unfold toks
  split
  · exact .inr rfl
  · exact tz_shape _ _ _
theorem takeW_all {f : UInt8 → Bool} {l : Bs} (h : (l.takeWhile f).length = l.length) : l.takeWhile f = l := by
  have h1 := (List.prefix_iff_eq_take.1 (List.takeWhile_prefix f (l := l)))
  rw [h, List.take_length] at h1
  exact h1
theorem nmc_rnm (l : Bs) : nmc l = rnm l := by
  rw [Bool.eq_iff_iff]
  constructor
  · intro h
    unfold nmc at h
    split at h
    · rename_i x hx
      have h2 : (toks l).2 = none := by
        rcases toks_shape l with h2 | h2
        · exact h2
        · rw [hx] at h2; cases h2
      simp only [Bool.and_eq_true, beq_iff_eq, decide_eq_true_eq] at h
      obtain ⟨a1, a2, a3, a4⟩ := one_to (x := x) (Prod.ext hx h2) h.2
      rw [h.1] at a4
      have hlet : on isLet l = true := by
        by_cases h1 : on isLet l = true
        · exact h1
        · exfalso
          unfold tkK at a4
          rw [if_neg h1] at a4
          split at a4
          · unfold numKd at a4; split at a4 <;> omega
          · unfold mkKd at a4; split at a4 <;> omega
      unfold tkK at a4
      rw [if_pos hlet, a3] at a4
      have htw : l.takeWhile ofNm = l := by
        have := a3
        rw [tkA, if_pos hlet] at this
        exact this
      unfold nameKd at a4
      split at a4
      · omega
      · rename_i hw
        split at a4
        · omega
        · rename_i h16
          have hpos : 0 < l.length := List.length_pos_iff.2 a1
          have hwf : wordB (bs l) = false := by simpa using hw
          have hle : l.length ≤ 16 := by omega
          unfold rnm
          rw [rnf_ofNm, htw, hlet, hwf, decide_eq_true hpos, decide_eq_true hle, decide_eq_true rfl]
          rfl
    · cases h
  · intro h
    unfold rnm at h
    simp only [Bool.and_eq_true, decide_eq_true_eq, Bool.not_eq_true'] at h
    obtain ⟨h1, h2, h3, h4, h5⟩ := h
    rw [rnf_ofNm] at h4
    have htw := takeW_all h4
    have hA : tkA l = l := by rw [tkA, if_pos h3, htw]
    have hE : tkE l = 0 := by
      rw [tkE, if_pos h3, hA, nameE, h5]
      simp; omega
    have hK : tkK l = 1 := by
      rw [tkK, if_pos h3, hA, nameKd, h5]
      simp; omega
    obtain ⟨c, t, rfl, hc⟩ := span_on h3
    have hcb : 97 ≤ c.toNat ∧ c.toNat ≤ 122 := by simpa [isLet] using hc
    have := one_of (by omega) (by simp) hE hA (by simp [on, isBl]; omega) (by simp [nx]; omega)
    unfold nmc
    rw [this]
    simp only
    rw [hK, tkT_A hE, hA]
    simp
/-- A word is one token. -/
theorem word_one : ∀ i, i < 11 → (toks (wordsL.getD i [])).1.map (fun x => (x.k, x.t)) = [(2, wordsL.getD i [])] ∧ (toks (wordsL.getD i [])).2 = none
  | 0, _ => by constructor <;> kernel_rfl
  | 1, _ => by constructor <;> kernel_rfl
  | 2, _ => by constructor <;> kernel_rfl
  | 3, _ => by constructor <;> kernel_rfl
  | 4, _ => by constructor <;> kernel_rfl
  | 5, _ => by constructor <;> kernel_rfl
  | 6, _ => by constructor <;> kernel_rfl
  | 7, _ => by constructor <;> kernel_rfl
  | 8, _ => by constructor <;> kernel_rfl
  | 9, _ => by constructor <;> kernel_rfl
  | 10, _ => by constructor <;> kernel_rfl
  | k + 11, h => absurd h (by omega)
theorem word_tok (l : Bs) : wordB (bs l) = (match toks l with
    | ([x], none) => decide (x.t = l) && (x.k == 2)
    | _ => false) := by
  rw [Bool.eq_iff_iff]
  constructor
  · intro h
    unfold wordB at h
    rw [List.any_eq_true] at h
    obtain ⟨i, hi, he⟩ := h
    have hi' := List.mem_range.1 hi
    have hl : l = wordsL.getD i [] := bs_inj (by simpa [wS] using he)
    obtain ⟨w1, w2⟩ := word_one i hi'
    rw [← hl] at w1 w2
    cases htk : toks l with
    | mk L f =>
    rw [htk] at w1 w2
    simp only at w1 w2
    subst w2
    match L, w1 with
    | [x], w1 =>
      simp at w1
      simp [w1]
    | [], w1 => simp at w1
    | x :: y :: r, w1 => simp at w1
  · intro h
    split at h
    · rename_i x hx
      simp only [Bool.and_eq_true, beq_iff_eq, decide_eq_true_eq] at h
      obtain ⟨a1, a2, a3, a4⟩ := one_to hx h.1
      rw [h.2] at a4
      by_cases h1 : on isLet l = true
      · unfold tkK at a4
        rw [if_pos h1, a3] at a4
        unfold nameKd at a4
        split at a4
        · assumption
        · split at a4 <;> omega
      · exfalso
        unfold tkK at a4
        rw [if_neg h1] at a4
        split at a4
        · unfold numKd at a4; split at a4 <;> omega
        · unfold mkKd at a4; split at a4 <;> omega
    · cases h
theorem fl_ne (l : Bs) {f : Int × Pl} (h : (toks l).2 = some f) : flE (toks l).2 ≠ 0 := by
  have hz : ∀ (n : Nat) (k : Bs) (p : Pl) (f : Int × Pl), (tz n k p).2 = some f → f.1 ≠ 0 := by
    intro n
    induction n with
    | zero => intro k p f h; simp [tz] at h
    | succ n ih =>
      intro k p f h
      by_cases hk : k = []
      · subst hk; simp [tz_nil] at h
      · by_cases he : tkE k = 0
        · rw [tz_ok hk he] at h
          unfold app at h
          split at h
          · rename_i f' hf
            simp at h
            subst h
            exact ih _ _ _ hf
          · simp at h
        · rw [tz_err hk (by omega) he] at h
          simp at h
          rw [← h]
          exact he
  rw [h]
  show f.1 ≠ 0
  unfold toks at h
  split at h
  · simp at h; rw [← h]; decide
  · exact hz _ _ _ _ h
end
section
set_option linter.unusedVariables false
set_option linter.unusedSimpArgs false
open Go.RowKit
/-- What run counts. -/
def rnd (dg : Bool) (c : UInt8) : Bool := isDg c || (!dg && (isLet c || c.toNat == 45))
theorem rnd_false : rnd false = ofNm := by
  funext c
  unfold rnd ofNm
  cases isDg c <;> cases isLet c <;> simp
theorem rnd_true : rnd true = isDg := by
  funext c
  unfold rnd
  simp
/-- Where skip ends: how many bytes it passes. -/
def skn (b : Bool) (l : Bs) : Nat := l.length - (skp b l (1, 1)).1.length
theorem skp_place (b : Bool) (l : Bs) : ∀ p q, (skp b l p).1 = (skp b l q).1 := by
  induction l generalizing b with
  | nil => intro p q; rfl
  | cons c l ih =>
    intro p q
    rw [skp, skp]
    split
    · exact ih _ _ _
    · rfl
theorem skp_advs (b : Bool) (l : Bs) : ∀ p, (skp b l p).2 = advs p (l.take (l.length - (skp b l p).1.length)) := by
  induction l generalizing b with
  | nil => intro p; rfl
  | cons c l ih =>
    intro p
    rw [skp]
    split
    · have hle := skp_len ((b || c.toNat == 35) && !(c.toNat == 10)) l (adv p c)
      rw [ih]
      rw [show (c :: l).length - (skp ((b || c.toNat == 35) && !(c.toNat == 10)) l (adv p c)).1.length = (l.length - (skp ((b || c.toNat == 35) && !(c.toNat == 10)) l (adv p c)).1.length) + 1 by simp only [List.length_cons]; omega]
      rfl
    · simp [advs]
end
section
set_option linter.unusedVariables false
set_option linter.unusedSimpArgs false
open Go.RowKit
def rnum (t : Bs) : Nat := if lead t || decide (5 < t.length) then 65536 else vl t
theorem vl_lt (t : Bs) : digL t → vl t < 10 ^ t.length := by
  refine snoc_ind (P := fun t => digL t → vl t < 10 ^ t.length) (fun _ => by simp [vl]) (fun a c ih hd => ?_) t
  obtain ⟨ha, hc⟩ := digL_snoc hd
  have := ih ha
  have hc2 := (dg_iff c).1 hc
  rw [vl_snoc, List.length_append, List.length_singleton, Nat.pow_succ]
  omega
theorem advs_bound (l : Bs) : ∀ p : Pl, 1 ≤ p.1 → 1 ≤ p.2 → 1 ≤ (advs p l).1 ∧ (advs p l).1 ≤ p.1 + l.length ∧ 1 ≤ (advs p l).2 ∧ ((advs p l).2 ≤ p.2 + l.length ∨ (advs p l).2 ≤ 1 + l.length) := by
  induction l with
  | nil => intro p h1 h2; simp [advs]; omega
  | cons c l ih =>
    intro p h1 h2
    have e : advs p (c :: l) = advs (adv p c) l := rfl
    rw [e]
    unfold adv
    split
    · have := ih (p.1 + 1, 1) (by simp only; omega) (by simp only; omega)
      simp only [List.length_cons] at this ⊢
      omega
    · have := ih (p.1, p.2 + 1) (by simp only; omega) (by simp only; omega)
      simp only [List.length_cons] at this ⊢
      omega
end
section
set_option linter.unusedVariables false
set_option linter.unusedSimpArgs false
open Go.RowKit
theorem advs_line (l : Bs) : (advs (1, 1) l).1 = 1 + (l.count 10 : Int) := by
  refine snoc_ind (P := fun l => (advs (1, 1) l).1 = 1 + (l.count 10 : Int)) rfl (fun a c ih => ?_) l
  rw [advs_app]
  show (adv (advs (1, 1) a) c).1 = _
  unfold adv
  by_cases h : c = 10
  · subst h
    rw [if_pos (by rfl)]
    simp [List.count_append, ih]; omega
  · have : ¬ c.toNat = 10 := fun e => h (UInt8.toNat_inj.1 e)
    rw [if_neg this]
    simp [List.count_append, ih, h]
/-- The last line's end. -/
theorem advs_col (l : Bs) : (∃ a b, l = a ++ b ∧ (∀ c ∈ b, c.toNat ≠ 10) ∧ ((a = [] ∧ (advs (1, 1) l).2 = 1 + b.length) ∨ (∃ a', a = a' ++ [10] ∧ (advs (1, 1) l).2 = 1 + b.length))) := by
  refine snoc_ind (P := fun l => (∃ a b, l = a ++ b ∧ (∀ c ∈ b, c.toNat ≠ 10) ∧ ((a = [] ∧ (advs (1, 1) l).2 = 1 + b.length) ∨ (∃ a', a = a' ++ [10] ∧ (advs (1, 1) l).2 = 1 + b.length)))) ⟨[], [], rfl, by simp, .inl ⟨rfl, rfl⟩⟩ (fun l c ih => ?_) l
  obtain ⟨a, b, rfl, hb, hc⟩ := ih
  have e : advs (1, 1) (a ++ b ++ [c]) = adv (advs (1, 1) (a ++ b)) c := by rw [advs_app]; rfl
  by_cases h : c.toNat = 10
  · refine ⟨a ++ b ++ [c], [], by simp, by simp, .inr ⟨a ++ b, ?_, ?_⟩⟩
    · rw [show c = 10 from UInt8.toNat_inj.1 h]
    · rw [e, adv, if_pos h]; rfl
  · refine ⟨a, b ++ [c], by simp, ?_, ?_⟩
    · intro x hx
      rcases List.mem_append.1 hx with h1 | h1
      · exact hb x h1
      · simp at h1; rw [h1]; exact h
    · rw [e, adv, if_neg h]
      rcases hc with ⟨h1, h2⟩ | ⟨a', h1, h2⟩
      · exact .inl ⟨h1, by simp only [h2, List.length_append, List.length_singleton]; push_cast; omega⟩
      · exact .inr ⟨a', h1, by simp only [h2, List.length_append, List.length_singleton]; push_cast; omega⟩
theorem last_col (s : ByteArray) : (s.size : Int) - Lib.lastIndexByte s 10 = (advs (1, 1) s.data.toList).2 := by
  obtain ⟨a, b, hab, hb, hc⟩ := advs_col s.data.toList
  have hl : s.size = a.length + b.length := by
    have := congrArg List.length hab
    rw [List.length_append] at this
    exact this
  have hget : ∀ j, s.data[j]! = s.data.toList.getD j default := fun j => by
    rw [getElem!_def, List.getD, Array.getElem?_toList]
    cases s.data[j]? <;> rfl
  have hbn : ∀ j, a.length ≤ j → j < s.size → ((s.data[j]!).toNat : Int) ≠ 10 := fun j h1 h2 e => by
    rw [hget, hab, List.getD, List.getElem?_append_right h1, List.getElem?_eq_getElem (by omega)] at e
    simp only [Option.getD_some] at e
    exact hb (b[j - a.length]'(by omega)) (List.getElem_mem _) (by omega)
  have hsp := Lib.lastIndexByte_spec s 10
  rcases hc with ⟨rfl, h2⟩ | ⟨a', rfl, h2⟩
  · have : Lib.lastIndexByte s 10 = -1 := by
      rcases hsp with ⟨h, _⟩ | ⟨i, hi, h, h3, _⟩
      · exact h
      · exact absurd h3 (hbn i (by simp) hi)
    rw [this, h2, hl]; simp; omega
  · have h10 : ((s.data[a'.length]!).toNat : Int) = 10 := by
      rw [hget, hab, List.getD, List.getElem?_append_left (by simp), List.getElem?_append_right (Nat.le_refl _)]
      simp
    have : Lib.lastIndexByte s 10 = (a'.length : Int) := by
      rcases hsp with ⟨_, h⟩ | ⟨i, hi, h, h3, h4⟩
      · exact absurd h10 (h _ (by rw [hl]; simp; omega))
      · rw [h]
        rcases Nat.lt_trichotomy i a'.length with h5 | h5 | h5
        · exact absurd h10 (h4 _ h5 (by rw [hl]; simp; omega))
        · rw [h5]
        · exact absurd h3 (hbn i (by simp; omega) hi)
    rw [this, h2, hl]; simp; omega
end
section
set_option linter.unusedVariables false
set_option linter.unusedSimpArgs false
open Go.RowKit
theorem tz_few (n : Nat) : ∀ (l : Bs) (p : Pl), (tz n l p).1.length ≤ n := by
  induction n with
  | zero => intro l p; simp [tz]
  | succ n ih =>
    intro l p
    by_cases hl : l = []
    · subst hl; simp [tz_nil]
    · by_cases he : tkE l = 0
      · rw [tz_ok hl he]
        unfold app
        split
        · simp
        · simp only [List.length_append, List.length_singleton]
          have := ih (skp false (l.drop (tkA l).length) (advs p (tkA l))).1 (skp false (l.drop (tkA l).length) (advs p (tkA l))).2
          omega
      · rw [tz_err hl (by omega) he]; simp
theorem toks_few (l : Bs) : (toks l).1.length ≤ 1000000 := by
  unfold toks
  split
  · simp
  · have := tz_few (l.length + 1) (skp false l (1, 1)).1 (skp false l (1, 1)).2
    omega

end
end Go.Proofs.YtmgamlpjgghieaaGreatDoor
