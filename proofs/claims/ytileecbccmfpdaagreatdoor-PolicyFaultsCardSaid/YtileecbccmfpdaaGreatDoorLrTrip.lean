/- lex: tokens' texts, something between two, have the same tokens: the pure side. -/
import Derived.Test.YtileecbccmfpdaaGreatDoorLr8
import Derived.Test.YtileecbccmfpdaaGreatDoorLr3
import Derived.Test.YtileecbccmfpdaaGreatDoorLrSame2
namespace Go.Proofs.YtileecbccmfpdaaGreatDoor
set_option linter.unusedVariables false
set_option linter.unusedSimpArgs false
open Go.RowKit
/-- What may stand behind a token. -/
def Ends (r : Bs) : Prop := r = [] ∨ on isBl r = true
theorem take_app {f : UInt8 → Bool} {t r : Bs} (ht : ∀ c ∈ t, f c = true) (hr : on f r = false) : (t ++ r).takeWhile f = t := by
  induction t with
  | nil => exact (span_off hr).1
  | cons c t ih =>
    rw [List.cons_append, List.takeWhile_cons_of_pos (ht c (by simp)), ih (fun x hx => ht x (by simp [hx]))]
theorem bl_num {r : Bs} (h : Ends r) : (∀ f : UInt8 → Bool, (∀ c : UInt8, isBl c = true → f c = false) → on f r = false) := by
  intro f hf
  rcases h with rfl | h
  · rfl
  · obtain ⟨c, t, rfl, hc⟩ := span_on h
    exact hf c hc
theorem bl_cases {c : UInt8} (h : isBl c = true) : c.toNat = 32 ∨ c.toNat = 10 := by simpa [isBl] using h
theorem takeW_mem {f : UInt8 → Bool} {l : Bs} {c : UInt8} (h : c ∈ l.takeWhile f) : f c = true := by
  induction l with
  | nil => simp at h
  | cons x l ih =>
    by_cases hx : f x = true
    · rw [List.takeWhile_cons_of_pos hx] at h
      rcases List.mem_cons.1 h with rfl | h
      · exact hx
      · exact ih h
    · rw [List.takeWhile_cons_of_neg hx] at h; simp at h
/-- A token's text lexes as itself. -/
theorem self_lex {l r : Bs} (hl : l ≠ []) (he : tkE l = 0) (hr : Ends r) :
    tkE (tkA l ++ r) = 0 ∧ tkA (tkA l ++ r) = tkA l ∧ tkK (tkA l ++ r) = tkK l ∧ tkN (tkA l ++ r) = tkN l ∧ on isBl (tkA l ++ r) = false ∧ nx (tkA l ++ r) ≠ 35 := by
  have hA := tkA_pos he hl
  by_cases h1 : on isLet l = true
  · obtain ⟨c, t, rfl, hc⟩ := span_on h1
    have hcb : 97 ≤ c.toNat ∧ c.toNat ≤ 122 := by simpa [isLet] using hc
    have hcn : ofNm c = true := by simp [ofNm, hc]
    have e : tkA (c :: t) = c :: t.takeWhile ofNm := by rw [tkA, if_pos h1, List.takeWhile_cons_of_pos hcn]
    have h2 : on isLet (tkA (c :: t) ++ r) = true := by rw [e]; exact hc
    have h3 : (tkA (c :: t) ++ r).takeWhile ofNm = tkA (c :: t) := by
      refine take_app (fun x hx => ?_) (bl_num hr _ fun x hx => ?_)
      · rw [tkA, if_pos h1] at hx; exact takeW_mem hx
      · rcases bl_cases hx with h | h <;> simp [ofNm, isLet, isDg, h]
    have h4 : tkA (tkA (c :: t) ++ r) = tkA (c :: t) := by
      have : tkA (tkA (c :: t) ++ r) = (tkA (c :: t) ++ r).takeWhile ofNm := by rw [tkA, if_pos h2]
      rw [this, h3]
    refine ⟨?_, h4, ?_, ?_, ?_, ?_⟩
    · rw [tkE, if_pos h2, h4]; rw [tkE, if_pos h1] at he; exact he
    · rw [tkK, if_pos h2, h4, tkK, if_pos h1]
    · rw [tkN, if_pos h2, tkN, if_pos h1]
    · rw [e]; show isBl c = false; simp [isBl]; omega
    · rw [e]; show (c.toNat : Int) ≠ 35; omega
  · by_cases h1d : on isDg l = true
    · obtain ⟨c, t, rfl, hc⟩ := span_on h1d
      have hcb := (dg_iff c).1 hc
      have e : tkA (c :: t) = c :: t.takeWhile isDg := by rw [tkA, if_neg h1, if_pos h1d, List.takeWhile_cons_of_pos hc]
      have h2 : ¬ on isLet (tkA (c :: t) ++ r) = true := by rw [e]; exact h1
      have h2d : on isDg (tkA (c :: t) ++ r) = true := by rw [e]; exact hc
      have h3 : (tkA (c :: t) ++ r).takeWhile isDg = tkA (c :: t) := by
        refine take_app (fun x hx => ?_) (bl_num hr _ fun x hx => ?_)
        · rw [tkA, if_neg h1, if_pos h1d] at hx; exact takeW_mem hx
        · rcases bl_cases hx with h | h <;> simp [isDg, h]
      have h4 : tkA (tkA (c :: t) ++ r) = tkA (c :: t) := by
        have : tkA (tkA (c :: t) ++ r) = (tkA (c :: t) ++ r).takeWhile isDg := by rw [tkA, if_neg h2, if_pos h2d]
        rw [this, h3]
      refine ⟨?_, h4, ?_, ?_, ?_, ?_⟩
      · rw [tkE, if_neg h2, if_pos h2d, h4]; rw [tkE, if_neg h1, if_pos h1d] at he; exact he
      · rw [tkK, if_neg h2, if_pos h2d, h4, tkK, if_neg h1, if_pos h1d]
      · rw [tkN, if_neg h2, if_pos h2d, h4, tkN, if_neg h1, if_pos h1d]
      · rw [e]; show isBl c = false; simp [isBl]; omega
      · rw [e]; show (c.toNat : Int) ≠ 35; omega
    · have eA : tkA l = mkTx l := by rw [tkA, if_neg h1, if_neg h1d]
      have eE : mkE l = 0 := by rw [tkE, if_neg h1, if_neg h1d] at he; exact he
      cases hm : mkF l with
      | none => rw [mkE, hm] at eE; simp at eE
      | some k =>
        have hk4 := List.mem_range.1 (List.mem_of_find?_eq_some hm)
        have eT : mkTx l = mL k := by rw [mkTx, hm]
        rw [eA, eT]
        have hk2 : k = 0 ∨ k = 1 ∨ k = 2 ∨ k = 3 := by omega
        have key : mkF (mL k ++ r) = some k ∧ ¬ on isLet (mL k ++ r) = true ∧ ¬ on isDg (mL k ++ r) = true ∧ on isBl (mL k ++ r) = false ∧ nx (mL k ++ r) ≠ 35 := by
          rcases hk2 with rfl | rfl | rfl | rfl
          · refine ⟨?_, ?_, ?_, ?_, ?_⟩
            · show mkF (61 :: r) = _; rw [mk_eval]; rfl
            · show ¬ isLet 61 = true; decide
            · show ¬ isDg 61 = true; decide
            · show isBl 61 = false; decide
            · show ((61 : UInt8).toNat : Int) ≠ 35; decide
          · refine ⟨?_, ?_, ?_, ?_, ?_⟩
            · show mkF (43 :: r) = _; rw [mk_eval]; rfl
            · show ¬ isLet 43 = true; decide
            · show ¬ isDg 43 = true; decide
            · show isBl 43 = false; decide
            · show ((43 : UInt8).toNat : Int) ≠ 35; decide
          · refine ⟨?_, ?_, ?_, ?_, ?_⟩
            · show mkF (59 :: r) = _; rw [mk_eval]; rfl
            · show ¬ isLet 59 = true; decide
            · show ¬ isDg 59 = true; decide
            · show isBl 59 = false; decide
            · show ((59 : UInt8).toNat : Int) ≠ 35; decide
          · refine ⟨?_, ?_, ?_, ?_, ?_⟩
            · show mkF (46 :: (46 :: r)) = _; rw [mk_eval]; rfl
            · show ¬ isLet 46 = true; decide
            · show ¬ isDg 46 = true; decide
            · show isBl 46 = false; decide
            · show ((46 : UInt8).toNat : Int) ≠ 35; decide
        obtain ⟨k1, k2, k3, k4, k5⟩ := key
        have m1 : mkTx (mL k ++ r) = mL k := by rw [mkTx, k1]
        refine ⟨?_, ?_, ?_, ?_, k4, k5⟩
        · rw [tkE, if_neg k2, if_neg k3, mkE, k1]; rfl
        · rw [tkA, if_neg k2, if_neg k3, m1]
        · rw [tkK, if_neg k2, if_neg k3, mkKd, k1, tkK, if_neg h1, if_neg h1d, mkKd, hm]
        · rw [tkN, if_neg k2, if_neg k3, tkN, if_neg h1, if_neg h1d]
/-- A token that was told. -/
def Good (x : Tk) : Prop := ∃ l, l ≠ [] ∧ tkE l = 0 ∧ x.k = tkK l ∧ x.t = tkA l ∧ x.n = tkN l
theorem tz_good (n : Nat) : ∀ (l : Bs) (p : Pl), ∀ x ∈ (tz n l p).1, Good x := by
  induction n with
  | zero => intro l p x hx; simp [tz] at hx
  | succ n ih =>
    intro l p x hx
    by_cases hl : l = []
    · subst hl; simp [tz_nil] at hx
    · by_cases he : tkE l = 0
      · rw [tz_ok hl he] at hx
        unfold app at hx
        split at hx
        · simp at hx
        · simp only [List.singleton_append, List.mem_cons] at hx
          rcases hx with rfl | hx
          · exact ⟨l, hl, he, rfl, tkT_A he, rfl⟩
          · exact ih _ _ x hx
      · rw [tz_err hl (by omega) he] at hx; simp at hx
theorem toks_good (l : Bs) : ∀ x ∈ (toks l).1, Good x := by
  unfold toks
  split
  · intro x hx; simp at hx
  · exact tz_good _ _ _
def ktn (x : Tk) : Int × Bs × Int := (x.k, x.t, x.n)
theorem jn_head (b : Bs) (hb : on isBl b = true) {x : Tk} {L : List Tk} (hx : Good x) : on isBl (jnX b (x :: L)) = false ∧ nx (jnX b (x :: L)) ≠ 35 ∧ jnX b (x :: L) ≠ [] ∧ ∃ r, Ends r ∧ jnX b (x :: L) = x.t ++ r := by
  obtain ⟨l, h1, h2, h3, h4, h5⟩ := hx
  have hne : x.t ≠ [] := by
    rw [h4]
    intro e
    have := (tkA_pos h2 h1).1
    rw [e] at this
    simp at this
  have key : ∃ r, Ends r ∧ jnX b (x :: L) = x.t ++ r := by
    cases L with
    | nil => exact ⟨[], .inl rfl, by simp [jnX]⟩
    | cons y L =>
      refine ⟨b ++ jnX b (y :: L), .inr ?_, rfl⟩
      obtain ⟨c, t, rfl, hc⟩ := span_on hb
      exact hc
  obtain ⟨r, hr, e⟩ := key
  have hs := self_lex h1 h2 hr
  rw [← h4] at hs
  rw [e]
  exact ⟨hs.2.2.2.2.1, hs.2.2.2.2.2, by simp [hne], r, hr, rfl⟩
theorem trip (b : Bs) (hb : on isBl b = true) (hskip : ∀ (x : Bs) (p : Pl), on isBl x = false → nx x ≠ 35 → (skp false (b ++ x) p).1 = x) : ∀ (L : List Tk), (∀ x ∈ L, Good x) → ∀ (n : Nat) (p : Pl), (jnX b L).length < n → (tz n (jnX b L) p).2 = none ∧ (tz n (jnX b L) p).1.map ktn = L.map ktn := by
  intro L
  induction L with
  | nil => intro _ n p _; rw [show jnX b [] = [] from rfl, tz_nil]; exact ⟨rfl, rfl⟩
  | cons x L ih =>
    intro hg n p hn
    obtain ⟨m, rfl⟩ : ∃ m, n = m + 1 := ⟨n - 1, by omega⟩
    obtain ⟨hh1, hh2, hh3, r0, hr0, e0⟩ := jn_head b hb (L := L) (hg x (by simp))
    obtain ⟨l, h1, h2, h3, h4, h5⟩ := hg x (by simp)
    have hs := self_lex h1 h2 hr0
    rw [← h4, ← e0] at hs
    obtain ⟨s1, s2, s3, s4, _, _⟩ := hs
    have hpos : 0 < x.t.length := by rw [h4]; exact (tkA_pos h2 h1).1
    rw [tz_ok hh3 s1, s2, s3, s4, tkT_A s1, s2, ← h3, ← h5]
    have hd : (jnX b (x :: L)).drop x.t.length = r0 := by rw [e0, List.drop_left]
    rw [hd]
    cases L with
    | nil =>
      have hr : r0 = [] := by
        have : x.t = x.t ++ r0 := e0
        exact List.self_eq_append_right.1 this
      subst hr
      have e : skp false ([] : Bs) (advs p x.t) = ([], advs p x.t) := rfl
      rw [e, tz_nil]
      exact ⟨rfl, rfl⟩
    | cons y L =>
      have hr : r0 = b ++ jnX b (y :: L) := by
        have : x.t ++ (b ++ jnX b (y :: L)) = x.t ++ r0 := e0
        exact (List.append_cancel_left this).symm
      obtain ⟨y1, y2, _⟩ := jn_head b hb (L := L) (hg y (by simp))
      rw [hr, hskip _ _ y1 y2]
      have hlen : (jnX b (y :: L)).length < m := by
        have := congrArg List.length e0
        rw [List.length_append, hr, List.length_append] at this
        omega
      obtain ⟨i1, i2⟩ := ih (fun z hz => hg z (by simp [hz])) m (skp false (b ++ jnX b (y :: L)) (advs p x.t)).2 hlen
      unfold app
      rw [i1]
      refine ⟨rfl, ?_⟩
      simp only [List.singleton_append, List.map_cons]
      rw [i2]
      rfl
end Go.Proofs.YtileecbccmfpdaaGreatDoor
