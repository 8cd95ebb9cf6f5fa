/- lex: joined tokens with blanks and an open remark behind have the same tokens. -/
import Derived.Test.YtplkcbbbcflngaaDoorLrJoin
namespace Go.Proofs.YtplkcbbbcflngaaDoor
set_option linter.unusedVariables false
set_option linter.unusedSimpArgs false
open Go.RowKit
theorem jn_head2 (b : Bs) (hb : on isBl b = true) (e : Bs) (he : Ends e) {x : Tk} {L : List Tk} (hx : Good x) : on isBl (jnX b (x :: L) ++ e) = false ∧ nx (jnX b (x :: L) ++ e) ≠ 35 ∧ jnX b (x :: L) ++ e ≠ [] ∧ ∃ r, Ends r ∧ jnX b (x :: L) ++ e = x.t ++ r := by
  obtain ⟨l, h1, h2, h3, h4, h5⟩ := hx
  have hne : x.t ≠ [] := by
    rw [h4]
    intro e
    have := (tkA_pos h2 h1).1
    rw [e] at this
    simp at this
  have key : ∃ r, Ends r ∧ jnX b (x :: L) ++ e = x.t ++ r := by
    cases L with
    | nil => exact ⟨e, he, rfl⟩
    | cons y L =>
      refine ⟨b ++ jnX b (y :: L) ++ e, .inr ?_, by show (x.t ++ (b ++ jnX b (y :: L))) ++ e = _; simp⟩
      obtain ⟨c, t, rfl, hc⟩ := span_on hb
      exact hc
  obtain ⟨r, hr, e⟩ := key
  have hs := self_lex h1 h2 hr
  rw [← h4] at hs
  rw [e]
  exact ⟨hs.2.2.2.2.1, hs.2.2.2.2.2, by simp [hne], r, hr, rfl⟩
theorem trip2 (b : Bs) (hb : on isBl b = true) (hskip : ∀ (x : Bs) (p : Pl), on isBl x = false → nx x ≠ 35 → (skp false (b ++ x) p).1 = x) (e : Bs) (he : Ends e) (hse : ∀ p, (skp false e p).1 = []) : ∀ (L : List Tk), L ≠ [] → (∀ x ∈ L, Good x) → ∀ (n : Nat) (p : Pl), (jnX b L ++ e).length < n → (tz n (jnX b L ++ e) p).2 = none ∧ (tz n (jnX b L ++ e) p).1.map ktn = L.map ktn := by
  intro L
  induction L with
  | nil => intro h; exact absurd rfl h
  | cons x L ih =>
    intro _ hg n p hn
    obtain ⟨m, rfl⟩ : ∃ m, n = m + 1 := ⟨n - 1, by omega⟩
    obtain ⟨hh1, hh2, hh3, r0, hr0, e0⟩ := jn_head2 b hb e he (L := L) (hg x (by simp))
    obtain ⟨l, h1, h2, h3, h4, h5⟩ := hg x (by simp)
    have hs := self_lex h1 h2 hr0
    rw [← h4, ← e0] at hs
    obtain ⟨s1, s2, s3, s4, _, _⟩ := hs
    have hpos : 0 < x.t.length := by rw [h4]; exact (tkA_pos h2 h1).1
    rw [tz_ok hh3 s1, s2, s3, s4, tkT_A s1, s2, ← h3, ← h5]
    have hd : (jnX b (x :: L) ++ e).drop x.t.length = r0 := by rw [e0, List.drop_left]
    rw [hd]
    cases L with
    | nil =>
      have hr : r0 = e := by
        have : x.t ++ e = x.t ++ r0 := e0
        exact (List.append_cancel_left this).symm
      subst hr
      rw [hse, tz_nil]
      exact ⟨rfl, rfl⟩
    | cons y L =>
      have hr : r0 = b ++ (jnX b (y :: L) ++ e) := by
        have : (x.t ++ (b ++ jnX b (y :: L))) ++ e = x.t ++ r0 := e0
        rw [List.append_assoc, List.append_assoc] at this
        exact (List.append_cancel_left this).symm
      obtain ⟨y1, y2, _⟩ := jn_head2 b hb e he (L := L) (hg y (by simp))
      rw [hr, hskip _ _ y1 y2]
      have hlen : (jnX b (y :: L) ++ e).length < m := by
        have h := congrArg List.length e0
        rw [hr] at h
        simp only [List.length_append] at h hn ⊢
        omega
      obtain ⟨i1, i2⟩ := ih (by simp) (fun z hz => hg z (by simp [hz])) m (skp false (b ++ (jnX b (y :: L) ++ e)) (advs p x.t)).2 hlen
      unfold app
      rw [i1]
      refine ⟨rfl, ?_⟩
      simp only [List.singleton_append, List.map_cons]
      rw [i2]
      rfl
theorem toks_trip2 (b : Bs) (hb : on isBl b = true) (hskip : ∀ (x : Bs) (p : Pl), on isBl x = false → nx x ≠ 35 → (skp false (b ++ x) p).1 = x) (e : Bs) (he : Ends e) (hse : ∀ p, (skp false e p).1 = []) (L : List Tk) (hg : ∀ x ∈ L, Good x) (hl : (jnX b L ++ e).length ≤ 512) : (toks (jnX b L ++ e)).2 = none ∧ (toks (jnX b L ++ e)).1.map ktn = L.map ktn := by
  unfold toks
  rw [if_neg (by omega)]
  cases L with
  | nil =>
    rw [show jnX b [] ++ e = e from rfl, hse, tz_nil]
    exact ⟨rfl, rfl⟩
  | cons x L =>
    obtain ⟨h1, h2, _⟩ := jn_head2 b hb e he (L := L) (hg x (by simp))
    rw [skp_stop _ h1 h2]
    exact trip2 b hb hskip e he hse (x :: L) (by simp) hg _ _ (by omega)
/-- Blanks ahead are passed. -/
theorem skip_bls (b x : Bs) (hb : ∀ c ∈ b, isBl c = true) : ∀ (p : Pl), on isBl x = false → nx x ≠ 35 → (skp false (b ++ x) p).1 = x := by
  induction b with
  | nil => intro p h1 h2; rw [List.nil_append, skp_stop _ h1 h2]
  | cons c b ih =>
    intro p h1 h2
    have hc := hb c (by simp)
    rw [List.cons_append, skp, if_pos (by simp [hc])]
    have h35 : (c.toNat == 35) = false := by
      rcases bl_cases hc with h | h <;> simp [h]
    rw [h35]
    exact ih (fun z hz => hb z (by simp [hz])) _ h1 h2
/-- A remark ahead is passed. -/
theorem skip_remark (b r x : Bs) (hr : ∀ c ∈ r, c.toNat ≠ 10) : ∀ (p : Pl), on isBl x = false → nx x ≠ 35 → (skp false (10 :: 35 :: (r ++ (10 :: x))) p).1 = x := by
  intro p h1 h2
  have ht : ∀ (r : Bs), (∀ c ∈ r, c.toNat ≠ 10) → ∀ p, (skp true (r ++ (10 :: x)) p).1 = x := by
    intro r
    induction r with
    | nil =>
      intro _ p
      rw [List.nil_append, skp, if_pos (by simp)]
      show (skp false x _).1 = x
      rw [skp_stop _ h1 h2]
    | cons c r ih =>
      intro hr p
      rw [List.cons_append, skp, if_pos (by simp)]
      have hc : (c.toNat == 10) = false := by simpa using hr c (by simp)
      rw [hc]
      simp only [Bool.true_or, Bool.not_false, Bool.and_true]
      exact ih (fun z hz => hr z (by simp [hz])) _
  rw [skp, if_pos (by rfl)]
  show (skp false (35 :: (r ++ (10 :: x))) _).1 = x
  rw [skp, if_pos (by rfl)]
  exact ht r hr _
end Go.Proofs.YtplkcbbbcflngaaDoor
