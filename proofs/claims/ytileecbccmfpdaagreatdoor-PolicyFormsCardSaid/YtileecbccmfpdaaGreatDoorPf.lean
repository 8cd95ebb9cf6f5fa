/- policy: declarations that may be, what is read is such, and their form is read as it was: the pure side. -/
import Derived.Test.YtileecbccmfpdaaGreatDoorPoK
import Derived.Test.YtileecbccmfpdaaGreatDoorLrTrip
import Derived.Test.YtileecbccmfpdaaGreatDoorLr8
import Derived.Test.YtileecbccmfpdaaGreatDoorPoS
import Derived.Test.YtileecbccmfpdaaGreatDoorPj
namespace Go.Proofs.YtileecbccmfpdaaGreatDoor
section
set_option linter.unusedVariables false
set_option linter.unusedSimpArgs false
open Go.RowKit
theorem pskip_bls (b x : Bs) (hb : ∀ c ∈ b, isBl c = true) : ∀ (p : Pl), on isBl x = false → nx x ≠ 35 → (skp false (b ++ x) p).1 = x := by
  induction b with
  | nil => intro p h1 h2; rw [List.nil_append, skp_stop _ h1 h2]
  | cons c b ih =>
    intro p h1 h2
    have hc := hb c (by simp)
    rw [List.cons_append, skp, if_pos (by simp [hc])]
    have h35 : (c.toNat == 35) = false := by
      rcases bl_cases hc with h | h <;> simp [h]
    rw [h35]
    exact ih (fun z hz => hb z (by simp [hz])) _ h1 h2
/-- A text that is one token. -/
def SelfL (l : Bs) : Prop := l ≠ [] ∧ tkE l = 0 ∧ tkA l = l
theorem mark_r (k : Nat) (hk : k < 4) (r : Bs) : mkF (mL k ++ r) = some k ∧ ¬ on isLet (mL k ++ r) = true ∧ ¬ on isDg (mL k ++ r) = true ∧ on isBl (mL k ++ r) = false ∧ nx (mL k ++ r) ≠ 35 := by
  have hk2 : k = 0 ∨ k = 1 ∨ k = 2 ∨ k = 3 := by omega
  rcases hk2 with rfl | rfl | rfl | rfl
  · refine ⟨?_, ?_, ?_, ?_, ?_⟩
    · show mkF (61 :: r) = _; rw [mk_eval]; rfl
    · show ¬ isLet 61 = true; decide
    · show ¬ isDg 61 = true; decide
    · show isBl 61 = false; decide
    · show ((61 : UInt8).toNat : Int) ≠ 35; decide
  · refine ⟨?_, ?_, ?_, ?_, ?_⟩
    · show mkF (43 :: r) = _; rw [mk_eval]; rfl
    · show ¬ isLet 43 = true; decide
    · show ¬ isDg 43 = true; decide
    · show isBl 43 = false; decide
    · show ((43 : UInt8).toNat : Int) ≠ 35; decide
  · refine ⟨?_, ?_, ?_, ?_, ?_⟩
    · show mkF (59 :: r) = _; rw [mk_eval]; rfl
    · show ¬ isLet 59 = true; decide
    · show ¬ isDg 59 = true; decide
    · show isBl 59 = false; decide
    · show ((59 : UInt8).toNat : Int) ≠ 35; decide
  · refine ⟨?_, ?_, ?_, ?_, ?_⟩
    · show mkF (46 :: (46 :: r)) = _; rw [mk_eval]; rfl
    · show ¬ isLet 46 = true; decide
    · show ¬ isDg 46 = true; decide
    · show isBl 46 = false; decide
    · show ((46 : UInt8).toNat : Int) ≠ 35; decide
/-- What follows a token's text, where no byte of it could be the token's. -/
theorem self_more {l r : Bs} (h : SelfL l) (hr : on ofNm r = false ∨ tkK l = 4) :
    tkE (l ++ r) = 0 ∧ tkA (l ++ r) = l ∧ tkK (l ++ r) = tkK l ∧ tkN (l ++ r) = tkN l ∧ on isBl (l ++ r) = false ∧ nx (l ++ r) ≠ 35 ∧ l ++ r ≠ [] := by
  obtain ⟨hl, he, hA⟩ := h
  have hnil : l ++ r ≠ [] := by simp [hl]
  have hdr : on ofNm r = false → on isDg r = false := fun h => by
    cases r with
    | nil => rfl
    | cons c r =>
      cases hd : isDg c with
      | false => exact hd
      | true => simp [on, ofNm, hd] at h
  by_cases h1 : on isLet l = true
  · obtain ⟨c, t, rfl, hc⟩ := span_on h1
    have hcb : 97 ≤ c.toNat ∧ c.toNat ≤ 122 := by simpa [isLet] using hc
    have hk4 : tkK (c :: t) ≠ 4 := by
      rw [tkK, if_pos h1]; unfold nameKd; split
      · decide
      · split <;> decide
    have hr' : on ofNm r = false := by
      rcases hr with h | h
      · exact h
      · exact absurd h hk4
    have h2 : on isLet (c :: t ++ r) = true := hc
    have h3 : (c :: t ++ r).takeWhile ofNm = c :: t := by
      refine take_app (fun x hx => ?_) hr'
      have hA' := hA
      rw [tkA, if_pos h1] at hA'
      rw [← hA'] at hx
      exact takeW_mem hx
    have h4 : tkA (c :: t ++ r) = c :: t := by rw [tkA, if_pos h2, h3]
    refine ⟨?_, h4, ?_, ?_, ?_, ?_, hnil⟩
    · rw [tkE, if_pos h2, h4]; rw [tkE, if_pos h1, hA] at he; exact he
    · rw [tkK, if_pos h2, h4, tkK, if_pos h1, hA]
    · rw [tkN, if_pos h2, tkN, if_pos h1]
    · show isBl c = false; simp [isBl]; omega
    · show (c.toNat : Int) ≠ 35; omega
  · by_cases h1d : on isDg l = true
    · obtain ⟨c, t, rfl, hc⟩ := span_on h1d
      have hcb := (dg_iff c).1 hc
      have hk4 : tkK (c :: t) ≠ 4 := by
        rw [tkK, if_neg h1, if_pos h1d]; unfold numKd; split <;> decide
      have hr' : on isDg r = false := by
        rcases hr with h | h
        · exact hdr h
        · exact absurd h hk4
      have h2 : ¬ on isLet (c :: t ++ r) = true := h1
      have h2d : on isDg (c :: t ++ r) = true := hc
      have h3 : (c :: t ++ r).takeWhile isDg = c :: t := by
        refine take_app (fun x hx => ?_) hr'
        have hA' := hA
        rw [tkA, if_neg h1, if_pos h1d] at hA'
        rw [← hA'] at hx
        exact takeW_mem hx
      have h4 : tkA (c :: t ++ r) = c :: t := by rw [tkA, if_neg h2, if_pos h2d, h3]
      refine ⟨?_, h4, ?_, ?_, ?_, ?_, hnil⟩
      · rw [tkE, if_neg h2, if_pos h2d, h4]; rw [tkE, if_neg h1, if_pos h1d, hA] at he; exact he
      · rw [tkK, if_neg h2, if_pos h2d, h4, tkK, if_neg h1, if_pos h1d, hA]
      · rw [tkN, if_neg h2, if_pos h2d, h4, tkN, if_neg h1, if_pos h1d, hA]
      · show isBl c = false; simp [isBl]; omega
      · show (c.toNat : Int) ≠ 35; omega
    · have eA : tkA l = mkTx l := by rw [tkA, if_neg h1, if_neg h1d]
      have eE : mkE l = 0 := by rw [tkE, if_neg h1, if_neg h1d] at he; exact he
      cases hm : mkF l with
      | none => rw [mkE, hm] at eE; simp at eE
      | some k =>
        have hk4 := List.mem_range.1 (List.mem_of_find?_eq_some hm)
        have eT : mkTx l = mL k := by rw [mkTx, hm]
        have el : l = mL k := by rw [← hA, eA, eT]
        obtain ⟨k1, k2, k3, k4, k5⟩ := mark_r k hk4 r
        rw [← el] at k1 k2 k3 k4 k5
        have m1 : mkTx (l ++ r) = l := by rw [mkTx, k1]; exact el.symm
        refine ⟨?_, ?_, ?_, ?_, k4, k5, hnil⟩
        · rw [tkE, if_neg k2, if_neg k3, mkE, k1]; rfl
        · rw [tkA, if_neg k2, if_neg k3, m1]
        · rw [tkK, if_neg k2, if_neg k3, mkKd, k1, tkK, if_neg h1, if_neg h1d, mkKd, hm]
        · rw [tkN, if_neg k2, if_neg k3, tkN, if_neg h1, if_neg h1d]
/-- A text's token. -/
def tkOf (l : Bs) : Tk := ⟨tkK l, l, tkN l, (0, 0)⟩
/-- Tokens' texts, each with what stands behind it. -/
def txt (P : List (Bs × Bs)) : Bs := (P.map fun x => x.1 ++ x.2).flatten
theorem txt_cons (x : Bs × Bs) (P : List (Bs × Bs)) : txt (x :: P) = x.1 ++ (x.2 ++ txt P) := by simp [txt]
theorem txt_app (P Q : List (Bs × Bs)) : txt (P ++ Q) = txt P ++ txt Q := by simp [txt]
def Fit : List (Bs × Bs) → Prop
  | [] => True
  | x :: P => SelfL x.1 ∧ (∀ c ∈ x.2, isBl c = true) ∧ (on ofNm (x.2 ++ txt P) = false ∨ tkK x.1 = 4) ∧ Fit P
theorem bl_nm {c : UInt8} (h : isBl c = true) : ofNm c = false := by
  rcases bl_cases h with h | h <;> simp [ofNm, isLet, isDg, h]
theorem fit_head {P : List (Bs × Bs)} (h : Fit P) : on isBl (txt P) = false ∧ nx (txt P) ≠ 35 := by
  cases P with
  | nil => exact ⟨rfl, by decide⟩
  | cons x P =>
    obtain ⟨h1, h2, h3, h4⟩ := h
    rw [txt_cons]
    obtain ⟨_, _, _, _, a, b, _⟩ := self_more h1 h3
    exact ⟨a, b⟩
theorem fit_tz : ∀ (P : List (Bs × Bs)) (n : Nat) (p : Pl), Fit P → (txt P).length < n → (tz n (txt P) p).2 = none ∧ (tz n (txt P) p).1.map ktn = P.map fun x => ktn (tkOf x.1) := by
  intro P
  induction P with
  | nil => intro n p _ _; exact ⟨by simp [txt, tz_nil], by simp [txt, tz_nil]⟩
  | cons x P ih =>
    intro n p hF hn
    obtain ⟨h1, h2, h3, h4⟩ := hF
    rw [txt_cons] at hn ⊢
    obtain ⟨n, rfl⟩ : ∃ k, n = k + 1 := ⟨n - 1, by omega⟩
    obtain ⟨k1, k2, k3, k4, k5, k6, k7⟩ := self_more h1 h3
    rw [tz_ok k7 k1, k2, tkT_A k1, k2, k3, k4, List.drop_left]
    obtain ⟨f1, f2⟩ := fit_head h4
    have hsk := pskip_bls x.2 (txt P) h2 (advs p x.1) f1 f2
    rw [hsk]
    have hx := List.length_pos_iff.2 h1.1
    simp only [List.length_append] at hn
    obtain ⟨i1, i2⟩ := ih n (skp false (x.2 ++ txt P) (advs p x.1)).2 h4 (by omega)
    rw [app, i1]
    exact ⟨rfl, by simp [i2, tkOf, ktn]⟩
theorem fit_toks {P : List (Bs × Bs)} (h : Fit P) (hl : (txt P).length ≤ 512) : (toks (txt P)).2 = none ∧ (toks (txt P)).1.map ktn = P.map fun x => ktn (tkOf x.1) := by
  obtain ⟨f1, f2⟩ := fit_head h
  unfold toks
  rw [if_neg (by omega), skp_stop _ f1 f2]
  exact fit_tz P _ _ h (by omega)
theorem fit_app {P Q : List (Bs × Bs)} (hP : Fit P) (hQ : Fit Q) (hs : ∀ x ∈ P.getLast?, x.2 ≠ [] ∨ tkK x.1 = 4) : Fit (P ++ Q) := by
  induction P with
  | nil => exact hQ
  | cons x P ih =>
    obtain ⟨h1, h2, h3, h4⟩ := hP
    refine ⟨h1, h2, ?_, ?_⟩
    · rcases h3 with h3 | h3
      · cases P with
        | nil =>
          rcases hs x (by simp) with h | h
          · left
            cases hx : x.2 with
            | nil => exact absurd hx h
            | cons c r =>
              show ofNm c = false
              exact bl_nm (h2 c (by rw [hx]; simp))
          · exact Or.inr h
        | cons y P =>
          left
          show on ofNm (x.2 ++ txt ((y :: P) ++ Q)) = false
          rw [txt_app]
          cases hx : x.2 with
          | nil =>
            rw [hx] at h3
            have hy : y.1 ≠ [] := h4.1.1
            rw [txt_cons] at h3 ⊢
            cases hy1 : y.1 with
            | nil => exact absurd hy1 hy
            | cons c r => rw [hy1] at h3; exact h3
          | cons c r =>
            show ofNm c = false
            exact bl_nm (h2 c (by rw [hx]; simp))
      · exact Or.inr h3
    · refine ih h4 fun y hy => hs y ?_
      cases P with
      | nil => simp at hy
      | cons z P => simpa using hy
/-- Numbers. -/
theorem dec_dig (u : Nat) : digL (Lib.decDigits u) ∧ Lib.decDigits u ≠ [] ∧ vl (Lib.decDigits u) = u := by
  induction u using Nat.strongRecOn with
  | ind u ih =>
    rw [Lib.decDigits]
    split
    · rename_i h
      have h2 : (UInt8.ofNat (48 + u)).toNat = 48 + u := by
        rw [UInt8.toNat_ofNat']
        exact Nat.mod_eq_of_lt (by omega)
      refine ⟨fun c hc => ?_, by simp, ?_⟩
      · obtain rfl := List.mem_singleton.1 hc
        rw [dg_iff, h2]; omega
      · simp only [vl, List.foldl_cons, List.foldl_nil, h2]; omega
    · rename_i h
      obtain ⟨i1, i2, i3⟩ := ih (u / 10) (by omega)
      have h2 : (UInt8.ofNat (48 + u % 10)).toNat = 48 + u % 10 := by
        rw [UInt8.toNat_ofNat']
        exact Nat.mod_eq_of_lt (by omega)
      refine ⟨fun c hc => ?_, by simp, ?_⟩
      · rcases List.mem_append.1 hc with hc | hc
        · exact i1 c hc
        · obtain rfl := List.mem_singleton.1 hc
          rw [dg_iff, h2]; omega
      · rw [vl_snoc, i3, h2]; omega
def MV (n : Int) : Prop := 0 ≤ n ∧ n ≤ 65535
theorem num_self {n : Int} (h : MV n) : SelfL (Lib.itoa n) ∧ tkK (Lib.itoa n) = 3 ∧ tkN (Lib.itoa n) = n ∧ (Lib.itoa n).length ≤ 5 := by
  obtain ⟨h0, h1⟩ := h
  obtain ⟨u, rfl⟩ : ∃ u : Nat, n = (u : Int) := ⟨n.toNat, by omega⟩
  rw [Lib.itoa_nonneg]
  obtain ⟨d1, d2, d3⟩ := dec_dig u
  have hlead : lead (Lib.decDigits u) = false := by
    cases h : lead (Lib.decDigits u) with
    | false => rfl
    | true => exact absurd rfl (dec_lead u _ h)
  have hlen : (Lib.decDigits u).length ≤ 5 := by
    rcases Nat.eq_zero_or_pos u with h | h
    · subst h; rw [Lib.decDigits_one (by decide)]; simp
    · have h2 := head_pos _ d1 d2 (dec_head u h).1
      rw [d3] at h2
      by_cases h5 : (Lib.decDigits u).length ≤ 5
      · exact h5
      · exfalso
        have h3 : 10 ^ 5 ≤ 10 ^ ((Lib.decDigits u).length - 1) := Nat.pow_le_pow_right (by decide) (by omega)
        omega
  have hbad : ¬ numBad (Lib.decDigits u) = true := by
    have e1 : ¬ 5 < (Lib.decDigits u).length := by omega
    have e2 : ¬ 65535 < vl (Lib.decDigits u) := by rw [d3]; omega
    simp [numBad, hlead, e1, e2]
  cases hD : Lib.decDigits u with
  | nil => exact absurd hD d2
  | cons c t =>
    rw [hD] at d1 d3 hlen hbad
    have hc := d1 c (by simp)
    have hcb := (dg_iff c).1 hc
    have n1 : ¬ on isLet (c :: t) = true := by
      show ¬ isLet c = true
      simp [isLet]; omega
    have n2 : on isDg (c :: t) = true := hc
    have hA : tkA (c :: t) = c :: t := by
      rw [tkA, if_neg n1, if_pos n2]
      have := take_app (f := isDg) (t := c :: t) (r := []) d1 rfl
      simpa using this
    refine ⟨⟨by simp, ?_, hA⟩, ?_, ?_, hlen⟩
    · rw [tkE, if_neg n1, if_pos n2, hA, numE, if_neg hbad]
    · rw [tkK, if_neg n1, if_pos n2, hA, numKd, if_neg hbad]
    · rw [tkN, if_neg n1, if_pos n2, hA, numV, if_neg hbad, d3]
/-- Names. -/
def NV (s : Bs) : Prop := SelfL s ∧ tkK s = 1
theorem NV.n {s : Bs} (h : NV s) : tkN s = 0 ∧ s.length ≤ 16 := by
  obtain ⟨⟨h1, h2, h3⟩, h4⟩ := h
  by_cases a : on isLet s = true
  · refine ⟨by rw [tkN, if_pos a], ?_⟩
    rw [tkK, if_pos a, h3] at h4
    rw [tkE, if_pos a, h3] at h2
    unfold nameKd at h4
    unfold nameE at h2
    split at h4
    · cases h4
    · rename_i hw
      rw [if_neg hw] at h2
      split at h2
      · cases h2
      · omega
  · rw [tkK, if_neg a] at h4
    split at h4
    · unfold numKd at h4; split at h4 <;> cases h4
    · unfold mkKd at h4; split at h4 <;> cases h4
theorem good_self {x : Tk} (h : Good x) : SelfL x.t ∧ x.k = tkK x.t ∧ x.n = tkN x.t := by
  obtain ⟨l, h1, h2, h3, h4, h5⟩ := h
  obtain ⟨a1, a2, a3, a4, _, _⟩ := self_lex (r := []) h1 h2 (Or.inl rfl)
  rw [List.append_nil] at a1 a2 a3 a4
  have hp := tkA_pos h2 h1
  refine ⟨⟨?_, by rw [h4]; exact a1, by rw [h4]; exact a2⟩, by rw [h3, h4, a3], by rw [h5, h4, a4]⟩
  rw [h4]
  intro e
  rw [e] at hp
  simp at hp
theorem good_num {x : Tk} (h : Good x) (hk : x.k = 3) : MV x.n := by
  obtain ⟨⟨s1, s2, s3⟩, s4, s5⟩ := good_self h
  rw [hk] at s4
  rw [s5]
  by_cases a : on isLet x.t = true
  · rw [tkK, if_pos a] at s4
    unfold nameKd at s4
    split at s4
    · cases s4
    · split at s4 <;> cases s4
  · by_cases b : on isDg x.t = true
    · rw [tkK, if_neg a, if_pos b] at s4
      rw [tkN, if_neg a, if_pos b]
      unfold numKd at s4
      split at s4
      · cases s4
      · rename_i hb
        rw [numV, if_neg hb]
        have : ¬ 65535 < vl (tkA x.t) := fun h => hb (by simp [numBad, h])
        unfold MV
        omega
    · rw [tkK, if_neg a, if_neg b] at s4
      unfold mkKd at s4
      split at s4 <;> cases s4
theorem good_name {x : Tk} (h : Good x) (hk : x.k = 1) : NV x.t := by
  obtain ⟨s1, s4, s5⟩ := good_self h
  exact ⟨s1, by rw [← s4, hk]⟩
end
section
set_option linter.unusedVariables false
set_option linter.unusedSimpArgs false
open Go.RowKit
def WV (w : Wh) : Prop := (w.any = true ∧ w.nm = [] ∧ w.n = 0) ∨ (w.any = false ∧ NV w.nm ∧ w.n = 0) ∨ (w.any = false ∧ w.nm = [] ∧ MV w.n)
def WW (w : Wh) : Prop := (w.any = true ∧ w.nm = [] ∧ w.n = 0) ∨ (w.any = false ∧ NV w.nm ∧ w.n = 0)
def WZ (w : Wh) : Prop := w.any = false ∧ w.nm = [] ∧ w.n = 0
def BV (b : Bx) : Prop := MV b.x0 ∧ MV b.y0 ∧ MV b.x1 ∧ MV b.y1
def DV1 (d : Dc) : Prop := (d.k = 1 ∨ d.k = 2) ∧ NV d.nm ∧ MV d.n ∧ d.bx = [] ∧ WZ d.role ∧ d.lo = 0 ∧ d.hi = 0 ∧ WZ d.label ∧ WZ d.wh ∧ d.zoom = 0
def DV3 (d : Dc) : Prop := d.k = 3 ∧ NV d.nm ∧ d.n = 0 ∧ d.bx ≠ [] ∧ (∀ b ∈ d.bx, BV b) ∧ WZ d.role ∧ d.lo = 0 ∧ d.hi = 0 ∧ WZ d.label ∧ WZ d.wh ∧ d.zoom = 0
def DV4 (d : Dc) : Prop := (d.k = 4 ∨ d.k = 5) ∧ d.nm = [] ∧ d.n = 0 ∧ d.bx = [] ∧ WV d.role ∧ MV d.lo ∧ MV d.hi ∧ WV d.label ∧ WW d.wh ∧ MV d.zoom
def DV6 (d : Dc) : Prop := d.k = 6 ∧ d.nm = [] ∧ d.n = 0 ∧ d.bx = [] ∧ WV d.role ∧ d.lo = 0 ∧ d.hi = 0 ∧ WZ d.label ∧ WZ d.wh ∧ d.zoom = 0
def DV (d : Dc) : Prop := DV1 d ∨ DV3 d ∨ DV4 d ∨ DV6 d
/- What is read is such. -/
def AG (N : Nat) (L : List Tk) : Prop := (∀ x ∈ L, Good x) ∧ L.length ≤ N
theorem AG.suf {N : Nat} {L M : List Tk} (h : AG N L) (hs : M <:+ L) : AG N M := ⟨fun x hx => h.1 x (hs.subset hx), Nat.le_trans hs.length_le h.2⟩
def Tri (N : Nat) (P : Dc → Prop) (f : PM) (Q : Dc → Prop) : Prop := ∀ L d, AG N L → P d → (f (L, d)).1 = true → AG N (f (L, d)).2.1 ∧ Q (f (L, d)).2.2
theorem tri_and {N : Nat} {P Q R : Dc → Prop} {f g : PM} (hf : Tri N P f Q) (hg : Tri N Q g R) : Tri N P (andM f g) R := by
  intro L d hL hd h
  unfold andM at h ⊢
  by_cases h1 : (f (L, d)).1 = true
  · rw [if_pos h1] at h ⊢
    obtain ⟨a, b⟩ := hf L d hL hd h1
    exact hg _ _ a b h
  · rw [if_neg h1] at h; cases h
theorem tri_takes {N : Nat} {P : Dc → Prop} (s : Bs) : Tri N P (takesM s) P := fun L d hL hd _ => ⟨hL.suf (takesL_suf s L), hd⟩
theorem tri_after {N : Nat} {P Q : Dc → Prop} (s : Bs) {g : PM} (hg : Tri N P g Q) : Tri N P (afterM s g) Q := tri_and (tri_takes s) hg
theorem tri_name {N : Nat} {P Q : Dc → Prop} (set : Bs → Dc → Dc) (hq : ∀ d s, P d → NV s → Q (set s d)) : Tri N P (nameM set) Q := by
  intro L d hL hd h
  refine ⟨hL.suf (kindL_suf 1 L), ?_⟩
  cases L with
  | nil => cases h
  | cons x L =>
    have hx : x.k = 1 := of_decide_eq_true h
    have := hq d x.t hd (good_name (hL.1 x (by simp)) hx)
    simpa [nameM, kindT, hx] using this
theorem tri_num {N : Nat} {P Q : Dc → Prop} (set : Int → Dc → Dc) (hq : ∀ d n, P d → MV n → Q (set n d)) : Tri N P (numM set) Q := by
  intro L d hL hd h
  refine ⟨hL.suf (kindL_suf 3 L), ?_⟩
  cases L with
  | nil => cases h
  | cons x L =>
    have hx : x.k = 3 := of_decide_eq_true h
    have := hq d x.n hd (good_num (hL.1 x (by simp)) hx)
    simpa [numM, kindT, hx] using this
theorem whoW_wv {N : Nat} {L : List Tk} (hL : AG N L) (h : (whoW L Wh.z).1 = true) : WV (whoW L Wh.z).2.2 := by
  cases L with
  | nil => simp [whoW, takesB, kindB] at h
  | cons x L =>
    have hG := hL.1 x (by simp)
    simp only [whoW, takesB, kindB, kindT, decide_eq_true_eq] at h ⊢
    by_cases h1 : x.t = wAny
    · rw [if_pos h1]; exact Or.inl ⟨rfl, rfl, rfl⟩
    · rw [if_neg h1] at h ⊢
      by_cases h2 : x.k = 1
      · rw [if_pos h2]
        refine Or.inr (Or.inl ⟨rfl, ?_, rfl⟩)
        rw [if_pos h2]
        exact good_name hG h2
      · rw [if_neg h2] at h ⊢
        have h3 : x.k = 3 := by simpa using h
        refine Or.inr (Or.inr ⟨rfl, rfl, ?_⟩)
        show MV (if x.k = 3 then x else Tk.z).n
        rw [if_pos h3]
        exact good_num hG h3
theorem whereW_ww {N : Nat} {L : List Tk} (hL : AG N L) (h : (whereW L Wh.z).1 = true) : WW (whereW L Wh.z).2.2 := by
  cases L with
  | nil => simp [whereW, takesB, kindB] at h
  | cons x L =>
    have hG := hL.1 x (by simp)
    simp only [whereW, takesB, kindB, kindT, decide_eq_true_eq] at h ⊢
    by_cases h1 : x.t = wAll
    · rw [if_pos h1]; exact Or.inl ⟨rfl, rfl, rfl⟩
    · rw [if_neg h1] at h ⊢
      have h2 : x.k = 1 := by simpa using h
      refine Or.inr ⟨rfl, ?_, rfl⟩
      rw [if_pos h2]
      exact good_name hG h2
theorem tri_role {N : Nat} {P Q : Dc → Prop} (hz : ∀ d, P d → d.role = Wh.z) (hq : ∀ d w, P d → WV w → Q { d with role := w }) : Tri N P roleM Q := by
  intro L d hL hd h
  have h' : (whoW L Wh.z).1 = true := by rw [← hz d hd]; exact h
  refine ⟨hL.suf (whoW_suf _ _), ?_⟩
  have := hq d _ hd (whoW_wv hL h')
  rw [← hz d hd] at this
  exact this
theorem tri_label {N : Nat} {P Q : Dc → Prop} (hz : ∀ d, P d → d.label = Wh.z) (hq : ∀ d w, P d → WV w → Q { d with label := w }) : Tri N P labelM Q := by
  intro L d hL hd h
  have h' : (whoW L Wh.z).1 = true := by rw [← hz d hd]; exact h
  refine ⟨hL.suf (whoW_suf _ _), ?_⟩
  have := hq d _ hd (whoW_wv hL h')
  rw [← hz d hd] at this
  exact this
theorem tri_where {N : Nat} {P Q : Dc → Prop} (hz : ∀ d, P d → d.wh = Wh.z) (hq : ∀ d w, P d → WW w → Q { d with wh := w }) : Tri N P whereM Q := by
  intro L d hL hd h
  have h' : (whereW L Wh.z).1 = true := by rw [← hz d hd]; exact h
  refine ⟨hL.suf (whereW_suf _ _), ?_⟩
  have := hq d _ hd (whereW_ww hL h')
  rw [← hz d hd] at this
  exact this
theorem tri_tiers {N : Nat} {P Q : Dc → Prop} (hz : ∀ d, P d → d.lo = 0) (hq : ∀ d lo hi, P d → MV lo → MV hi → Q { d with lo := lo, hi := hi }) : Tri N P tiersM Q := by
  intro L d hL hd h
  refine ⟨hL.suf (tiersM_suf _), ?_⟩
  cases L with
  | nil => simp [tiersM, takesB, kindB] at h
  | cons x L =>
    have hG := hL.1 x (by simp)
    by_cases h1 : x.t = wAny
    · have e : tiersM (x :: L, d) = (true, (L, { d with hi := 7 })) := by simp [tiersM, takesB, h1]
      rw [e]
      have := hq d 0 7 hd ⟨by decide, by decide⟩ ⟨by decide, by decide⟩
      rw [← hz d hd] at this
      exact this
    · have h3 : x.k = 3 := by
        by_cases h3 : x.k = 3
        · exact h3
        · simp [tiersM, takesB, kindB, h1, h3] at h
      cases L with
      | nil =>
        have e : tiersM ([x], d) = (true, ([], { d with lo := x.n, hi := x.n })) := by simp [tiersM, takesB, kindB, kindT, h1, h3]
        rw [e]
        exact hq d _ _ hd (good_num hG h3) (good_num hG h3)
      | cons z L =>
        by_cases u1 : z.t = mUp
        · cases L with
          | nil => simp [tiersM, takesB, kindB, h1, h3, u1] at h
          | cons v L =>
            have m1 : v.k = 3 := by
              by_cases m1 : v.k = 3
              · exact m1
              · simp [tiersM, takesB, kindB, h1, h3, u1, m1] at h
            have e : tiersM (x :: z :: v :: L, d) = (true, (L, { d with lo := x.n, hi := v.n })) := by simp [tiersM, takesB, kindB, kindL, kindT, h1, h3, u1, m1]
            rw [e]
            exact hq d _ _ hd (good_num hG h3) (good_num (hL.1 v (by simp)) m1)
        · have e : tiersM (x :: z :: L, d) = (true, (z :: L, { d with lo := x.n, hi := x.n })) := by simp [tiersM, takesB, kindB, kindL, kindT, h1, h3, u1]
          rw [e]
          exact hq d _ _ hd (good_num hG h3) (good_num hG h3)
theorem boxesF_bv : ∀ (n : Nat) (L : List Tk) (a : List Bx), (∀ x ∈ L, Good x) → (∀ b ∈ a, BV b) → (boxesF n L a).1 = true → (∀ b ∈ (boxesF n L a).2.2, BV b) ∧ (boxesF n L a).2.2 ≠ [] ∧ (boxesF n L a).2.2.length * 4 ≤ a.length * 4 + L.length := by
  intro n
  induction n with
  | zero => intro L a _ _ h; simp [boxesF] at h
  | succ n ih =>
    intro L a hL ha h
    by_cases hF : fourB L = true
    · obtain ⟨x1, x2, x3, x4, L', rfl, q1, q2, q3, q4⟩ := four_cons hF
      obtain ⟨f1, f2, f3⟩ := four_is q1 q2 q3 q4 L'
      have eL : boxesF (n + 1) (x1 :: x2 :: x3 :: x4 :: L') a = if takesB mAnd L' = true then boxesF n L'.tail (a ++ [⟨x1.n, x2.n, x3.n, x4.n⟩]) else (true, L', a ++ [⟨x1.n, x2.n, x3.n, x4.n⟩]) := by rw [boxesF, if_pos f1, f2, f3]
      have hb : ∀ b ∈ a ++ [(⟨x1.n, x2.n, x3.n, x4.n⟩ : Bx)], BV b := by
        intro b hb
        rcases List.mem_append.1 hb with hb | hb
        · exact ha b hb
        · obtain rfl := List.mem_singleton.1 hb
          exact ⟨good_num (hL x1 (by simp)) q1, good_num (hL x2 (by simp)) q2, good_num (hL x3 (by simp)) q3, good_num (hL x4 (by simp)) q4⟩
      rw [eL] at h ⊢
      by_cases hz : takesB mAnd L' = true
      · rw [if_pos hz] at h ⊢
        have ht := List.tail_suffix L'
        obtain ⟨i1, i2, i3⟩ := ih L'.tail _ (fun x hx => hL x (by have := ht.subset hx; simp [this])) hb h
        refine ⟨i1, i2, ?_⟩
        have := ht.length_le
        simp only [List.length_append, List.length_cons, List.length_nil] at i3 ⊢
        omega
      · rw [if_neg hz]
        refine ⟨hb, by simp, ?_⟩
        simp only [List.length_append, List.length_cons, List.length_nil]
        omega
    · rw [boxesF, if_neg hF] at h
      cases h
theorem tri_boxes {N : Nat} {P Q : Dc → Prop} (hz : ∀ d, P d → d.bx = []) (hq : ∀ d l, P d → l ≠ [] → (∀ b ∈ l, BV b) → l.length * 4 ≤ N → Q { d with bx := l }) : Tri N P boxesM Q := by
  intro L d hL hd h
  refine ⟨hL.suf (boxesF_suf _ _ _), ?_⟩
  have h' : (boxesF (L.length + 1) L []).1 = true := by rw [← hz d hd]; exact h
  obtain ⟨i1, i2, i3⟩ := boxesF_bv (L.length + 1) L [] hL.1 (fun b hb => by cases hb) h'
  have := hq d _ hd i2 i1 (by have := hL.2; simp only [List.length_nil] at i3; omega)
  rw [← hz d hd] at this
  exact this
/-- .. and no greater than the tokens. -/
def DN (N : Nat) (d : Dc) : Prop := DV d ∧ d.bx.length * 4 ≤ N
theorem tri_body (N : Nat) (k : Int) (hk : k = 1 ∨ k = 2 ∨ k = 3 ∨ k = 4 ∨ k = 5 ∨ k = 6) : Tri N (fun d => ∃ p, d = { Dc.z p with k := k }) (bodyK k) (DN N) := by
  have zz : WZ Wh.z := ⟨rfl, rfl, rfl⟩
  unfold bodyK
  by_cases h1 : k = 1 ∨ k = 2
  · rw [if_pos h1]
    refine tri_and (Q := fun d => ∃ p s, NV s ∧ d = { Dc.z p with k := k, nm := s }) (tri_name _ ?_) (tri_after _ (tri_num _ ?_))
    · rintro d s ⟨p, rfl⟩ hs; exact ⟨p, s, hs, rfl⟩
    · rintro d n ⟨p, s, hs, rfl⟩ hn
      exact ⟨Or.inl ⟨h1, hs, hn, rfl, zz, rfl, rfl, zz, zz, rfl⟩, by simp [Dc.z]⟩
  · rw [if_neg h1]
    by_cases h3 : k = 3
    · rw [if_pos h3]
      refine tri_and (Q := fun d => ∃ p s, NV s ∧ d = { Dc.z p with k := k, nm := s }) (tri_name _ ?_) (tri_after _ (tri_boxes ?_ ?_))
      · rintro d s ⟨p, rfl⟩ hs; exact ⟨p, s, hs, rfl⟩
      · rintro d ⟨p, s, hs, rfl⟩; rfl
      · rintro d l ⟨p, s, hs, rfl⟩ hl hb hN
        exact ⟨Or.inr (Or.inl ⟨h3, hs, rfl, hl, hb, zz, rfl, rfl, zz, zz, rfl⟩), hN⟩
    · rw [if_neg h3]
      by_cases h4 : k = 4 ∨ k = 5
      · rw [if_pos h4]
        refine tri_and (Q := fun d => ∃ p r, WV r ∧ d = { Dc.z p with k := k, role := r }) (tri_after _ (tri_role ?_ ?_))
          (tri_and (Q := fun d => ∃ p r lo hi, WV r ∧ MV lo ∧ MV hi ∧ d = { Dc.z p with k := k, role := r, lo := lo, hi := hi }) (tri_after _ (tri_tiers ?_ ?_))
            (tri_and (Q := fun d => ∃ p r lo hi b, WV r ∧ MV lo ∧ MV hi ∧ WV b ∧ d = { Dc.z p with k := k, role := r, lo := lo, hi := hi, label := b }) (tri_after _ (tri_label ?_ ?_))
              (tri_and (Q := fun d => ∃ p r lo hi b a, WV r ∧ MV lo ∧ MV hi ∧ WV b ∧ WW a ∧ d = { Dc.z p with k := k, role := r, lo := lo, hi := hi, label := b, wh := a }) (tri_after _ (tri_where ?_ ?_))
                (tri_after _ (tri_num _ ?_)))))
        · rintro d ⟨p, rfl⟩; rfl
        · rintro d w ⟨p, rfl⟩ hw; exact ⟨p, w, hw, rfl⟩
        · rintro d ⟨p, r, hr, rfl⟩; rfl
        · rintro d lo hi ⟨p, r, hr, rfl⟩ h5 h6; exact ⟨p, r, lo, hi, hr, h5, h6, rfl⟩
        · rintro d ⟨p, r, lo, hi, hr, h5, h6, rfl⟩; rfl
        · rintro d w ⟨p, r, lo, hi, hr, h5, h6, rfl⟩ hw; exact ⟨p, r, lo, hi, w, hr, h5, h6, hw, rfl⟩
        · rintro d ⟨p, r, lo, hi, b, hr, h5, h6, hb, rfl⟩; rfl
        · rintro d w ⟨p, r, lo, hi, b, hr, h5, h6, hb, rfl⟩ hw; exact ⟨p, r, lo, hi, b, w, hr, h5, h6, hb, hw, rfl⟩
        · rintro d n ⟨p, r, lo, hi, b, a, hr, h5, h6, hb, ha, rfl⟩ hn
          exact ⟨Or.inr (Or.inr (Or.inl ⟨h4, rfl, rfl, rfl, hr, h5, h6, hb, ha, hn⟩)), by simp [Dc.z]⟩
      · rw [if_neg h4]
        have h6 : k = 6 := by omega
        rw [if_pos h6]
        refine tri_after _ (tri_role ?_ ?_)
        · rintro d ⟨p, rfl⟩; rfl
        · rintro d w ⟨p, rfl⟩ hw
          exact ⟨Or.inr (Or.inr (Or.inr ⟨h6, rfl, rfl, rfl, hw, rfl, rfl, zz, zz, rfl⟩)), by simp [Dc.z]⟩
theorem good_pos {x : Tk} (h : Good x) : x.t ≠ [] := (good_self h).1.1
theorem tri_one (N : Nat) : Tri N (fun d => ∃ p, d = Dc.z p) oneM (DN N) := by
  refine tri_and (Q := fun d => ∃ k p, (k = 1 ∨ k = 2 ∨ k = 3 ∨ k = 4 ∨ k = 5 ∨ k = 6) ∧ d = { Dc.z p with k := k }) ?_ (tri_and (Q := DN N) ?_ (tri_takes _))
  · intro L d hL hd h
    refine ⟨hL.suf (headM_suf (L, d)), ?_⟩
    obtain ⟨p, rfl⟩ := hd
    cases L with
    | nil => rw [headM_nil] at h; cases h
    | cons x L =>
      cases hF : headF (x :: L) with
      | none => simp [headM, hF] at h
      | some k =>
        have e : headM (x :: L, Dc.z p) = (true, (L, { Dc.z p with k := (k : Int) })) := by simp [headM, hF]
        rw [e]
        have h7 := List.mem_range.1 (List.mem_of_find?_eq_some hF)
        have hs := List.find?_some hF
        have h0 : k ≠ 0 := by
          rintro rfl
          have : x.t = [] := of_decide_eq_true hs
          exact good_pos (hL.1 x (by simp)) this
        exact ⟨k, p, by omega, rfl⟩
  · intro L d hL hd h
    obtain ⟨k, p, hk, rfl⟩ := hd
    rw [bodyM_K] at h ⊢
    exact tri_body N k hk L _ hL ⟨p, rfl⟩ h
theorem allF_dn (N : Nat) : ∀ (n : Nat) (L : List Tk) (a : List Dc), AG N L → (∀ d ∈ a, DN N d) → ∀ d ∈ (allF n L a).2.2, DN N d := by
  intro n
  induction n with
  | zero => intro L a _ ha; exact ha
  | succ n ih =>
    intro L a hL ha
    cases L with
    | nil => exact ha
    | cons x L =>
      rw [allF]
      by_cases h : (oneM (x :: L, Dc.z x.p)).1 = true
      · rw [if_pos h]
        obtain ⟨h1, h2⟩ := tri_one N (x :: L) (Dc.z x.p) hL ⟨_, rfl⟩ h
        refine ih _ _ h1 fun d hd => ?_
        rcases List.mem_append.1 hd with hd | hd
        · exact ha d hd
        · obtain rfl := List.mem_singleton.1 hd
          exact h2
      · rw [if_neg h]; exact ha
/-- What is read may be. -/
theorem parse_dv {l : Bs} (h : (parseP l).2 = none) : ∀ d ∈ (parseP l).1, DN 513 d := by
  obtain ⟨h1, h2, h3⟩ := parse_ok h
  rw [h3]
  have hl : l.length ≤ 512 := by
    unfold toks at h1
    split at h1
    · cases h1
    · omega
  refine allF_dn 513 _ _ [] ⟨toks_good l, ?_⟩ fun d hd => by cases hd
  exact Nat.le_trans (toks_len l) (by omega)
end
section
set_option linter.unusedVariables false
set_option linter.unusedSimpArgs false
open Go.RowKit
/-- A text's tokens, each with nothing behind it but the last. -/
def grpP : List Bs → Bs → List (Bs × Bs)
  | [], _ => []
  | [t], s => [(t, s)]
  | t :: u :: r, s => (t, []) :: grpP (u :: r) s
def gsep : List (List Bs) → List (Bs × Bs)
  | [] => []
  | [g] => grpP g []
  | g :: h :: r => grpP g [32] ++ gsep (h :: r)
theorem grpP_fst : ∀ (g : List Bs) (s : Bs), (grpP g s).map (·.1) = g
  | [], _ => rfl
  | [t], _ => rfl
  | t :: u :: r, s => by rw [grpP, List.map_cons, grpP_fst (u :: r) s]
theorem grpP_txt : ∀ (g : List Bs) (s : Bs), g ≠ [] → txt (grpP g s) = g.flatten ++ s
  | [], _, h => absurd rfl h
  | [t], s, _ => by simp [grpP, txt]
  | t :: u :: r, s, _ => by
    rw [grpP, txt_cons, grpP_txt (u :: r) s (by simp)]
    simp
theorem gsep_fst : ∀ G : List (List Bs), (gsep G).map (·.1) = G.flatten
  | [] => rfl
  | [g] => by simp [gsep, grpP_fst]
  | g :: h :: r => by rw [gsep, List.map_append, grpP_fst, gsep_fst (h :: r)]; rfl
theorem gsep_txt : ∀ G : List (List Bs), (∀ g ∈ G, g ≠ []) → txt (gsep G) = Lib.join (G.map List.flatten) [32]
  | [], _ => rfl
  | [g], h => by
    rw [gsep, grpP_txt _ _ (h g (by simp)), List.map_cons, List.map_nil, Lib.join_one, List.append_nil]
  | g :: h :: r, hG => by
    rw [gsep, txt_app, grpP_txt _ _ (hG g (by simp)), gsep_txt (h :: r) fun x hx => hG x (by simp at hx ⊢; right; exact hx)]
    simp only [List.map_cons]
    rw [Lib.join_cons, Lib.join_cons]
    simp [Lib.joinTail]
/-- A group that fits ahead of what is no part of it. -/
def GoodG (g : List Bs) : Prop := g ≠ [] ∧ g.flatten.length ≤ 50 ∧ ∀ (Q : List (Bs × Bs)) (s : Bs), (∀ c ∈ s, isBl c = true) → Fit Q → on ofNm (s ++ txt Q) = false → Fit (grpP g s ++ Q)
theorem goodG_one {t : Bs} (h : SelfL t) (hl : t.length ≤ 50) : GoodG [t] := ⟨by simp, by simpa using hl, fun Q s hs hQ hn => ⟨h, hs, Or.inl hn, hQ⟩⟩
theorem goodG_three {a b : Bs} (ha : SelfL a) (hb : SelfL b) (h1 : a.length ≤ 20) (h2 : b.length ≤ 20) : GoodG [a, mUp, b] := by
  refine ⟨by simp, ?_, fun Q s hs hQ hn => ?_⟩
  · have : mUp.length = 2 := rfl
    simp only [List.flatten_cons, List.flatten_nil, List.length_append, List.length_nil]
    omega
  · refine ⟨ha, (fun c hc => by cases hc), Or.inl ?_, ⟨by simp [mUp], by kernel_rfl, by kernel_rfl⟩, (fun c hc => by cases hc), Or.inr (by kernel_rfl), hb, hs, Or.inl hn, hQ⟩
    show ofNm 46 = false
    decide
theorem gsep_fit : ∀ (G : List (List Bs)) (Q : List (Bs × Bs)), (∀ g ∈ G, GoodG g) → Fit Q → on ofNm (txt Q) = false → Fit (gsep G ++ Q)
  | [], Q, _, hQ, _ => hQ
  | [g], Q, hG, hQ, hn => (hG g (by simp)).2.2 Q [] (fun c hc => by cases hc) hQ hn
  | g :: h :: r, Q, hG, hQ, hn => by
    have h1 := gsep_fit (h :: r) Q (fun x hx => hG x (by simp at hx ⊢; right; exact hx)) hQ hn
    have h2 := (hG g (by simp)).2.2 (gsep (h :: r) ++ Q) [32] (fun c hc => by obtain rfl := List.mem_singleton.1 hc; decide) h1 (by show ofNm 32 = false; decide)
    rw [gsep, List.append_assoc]
    exact h2
def tg (lo hi : Int) : List Bs := if lo = 0 ∧ hi = 7 then [wAny] else if lo = hi then [Lib.itoa lo] else [Lib.itoa lo, mUp, Lib.itoa hi]
def gd (d : Dc) : List (List Bs) :=
  if d.k = 1 then [[wRole], [d.nm], [mIs], [Lib.itoa d.n]]
  else if d.k = 2 then [[wLabel], [d.nm], [mIs], [Lib.itoa d.n]]
  else if d.k = 3 then [[wRegion], [d.nm], [mIs]] ++ (bxForm d.bx).map fun t => [t]
  else if d.k = 4 then [[wAllow], [wRole], [txWho d.role wAny], [wTier], tg d.lo d.hi, [wLabel], [txWho d.label wAny], [wIn], [txWho d.wh wAll], [wZoom], [Lib.itoa d.zoom]]
  else if d.k = 5 then [[wCap], [wRole], [txWho d.role wAny], [wTier], tg d.lo d.hi, [wLabel], [txWho d.label wAny], [wIn], [txWho d.wh wAll], [wZoom], [Lib.itoa d.zoom]]
  else if d.k = 6 then [[wCloak], [wRole], [txWho d.role wAny]]
  else []
theorem tg_flat (lo hi : Int) : (tg lo hi).flatten = txTiers lo hi := by
  unfold tg txTiers
  split
  · simp
  · split <;> simp
theorem gd_form (d : Dc) : (gd d).map List.flatten = formL d := by
  have h1 : ∀ t : Bs, List.flatten [t] = t := fun t => by simp
  unfold gd formL
  split
  · simp
  · split
    · simp
    · split
      · simp [List.map_map, Function.comp_def]
      · split
        · simp [tg_flat]
        · split
          · simp [tg_flat]
          · split <;> simp
theorem word_self : ∀ s ∈ [wAny, wAll, wRole, wLabel, wRegion, wAllow, wCap, wCloak, wTier, wIn, wZoom], SelfL s ∧ tkK s = 2 ∧ s.length ≤ 50 := by
  have h : ∀ s : Bs, s ≠ [] → tkE s = 0 → tkA s = s → tkK s = 2 → s.length ≤ 50 → SelfL s ∧ tkK s = 2 ∧ s.length ≤ 50 := fun s a b c d e => ⟨⟨a, b, c⟩, d, e⟩
  intro s hs
  simp only [List.mem_cons, List.not_mem_nil, or_false] at hs
  rcases hs with rfl | rfl | rfl | rfl | rfl | rfl | rfl | rfl | rfl | rfl | rfl <;> exact h _ (by decide) (by kernel_rfl) (by kernel_rfl) (by kernel_rfl) (by decide)
theorem mark_self : ∀ s ∈ [mIs, mAnd, mEnd, mUp], SelfL s ∧ tkK s = 4 ∧ s.length ≤ 50 := by
  have h : ∀ s : Bs, s ≠ [] → tkE s = 0 → tkA s = s → tkK s = 4 → s.length ≤ 50 → SelfL s ∧ tkK s = 4 ∧ s.length ≤ 50 := fun s a b c d e => ⟨⟨a, b, c⟩, d, e⟩
  intro s hs
  simp only [List.mem_cons, List.not_mem_nil, or_false] at hs
  rcases hs with rfl | rfl | rfl | rfl <;> exact h _ (by decide) (by kernel_rfl) (by kernel_rfl) (by kernel_rfl) (by decide)
theorem gw {s : Bs} (h : s ∈ [wAny, wAll, wRole, wLabel, wRegion, wAllow, wCap, wCloak, wTier, wIn, wZoom]) : GoodG [s] := goodG_one (word_self s h).1 (word_self s h).2.2
theorem gm {s : Bs} (h : s ∈ [mIs, mAnd, mEnd, mUp]) : GoodG [s] := goodG_one (mark_self s h).1 (mark_self s h).2.2
theorem gn {n : Int} (h : MV n) : GoodG [Lib.itoa n] := goodG_one (num_self h).1 (by have := (num_self h).2.2.2; omega)
theorem gN {s : Bs} (h : NV s) : GoodG [s] := goodG_one h.1 (by have := h.n.2; omega)
theorem gwho {w : Wh} (h : WV w) {s : Bs} (hs : GoodG [s]) : GoodG [txWho w s] := by
  unfold txWho
  rcases h with ⟨h1, h2, h3⟩ | ⟨h1, h2, h3⟩ | ⟨h1, h2, h3⟩
  · rw [if_pos h1]; exact hs
  · rw [if_neg (by rw [h1]; decide), if_neg h2.1.1]; exact gN h2
  · rw [if_neg (by rw [h1]; decide), if_pos h2]; exact gn h3
theorem WW.wv {w : Wh} (h : WW w) : WV w := by
  rcases h with h | h
  · exact Or.inl h
  · exact Or.inr (Or.inl h)
theorem gtg {lo hi : Int} (h1 : MV lo) (h2 : MV hi) : GoodG (tg lo hi) := by
  unfold tg
  split
  · exact gw (by simp)
  · split
    · exact gn h1
    · exact goodG_three (num_self h1).1 (num_self h2).1 (by have := (num_self h1).2.2.2; omega) (by have := (num_self h2).2.2.2; omega)
theorem bx_texts {l : List Bx} (h : ∀ b ∈ l, BV b) : ∀ t ∈ bxForm l, GoodG [t] := by
  have hb : ∀ b, BV b → ∀ t ∈ (numsOf b).map Lib.itoa, GoodG [t] := by
    intro b hb t ht
    simp only [numsOf, List.map_cons, List.map_nil, List.mem_cons, List.not_mem_nil, or_false] at ht
    rcases ht with rfl | rfl | rfl | rfl
    · exact gn hb.1
    · exact gn hb.2.1
    · exact gn hb.2.2.1
    · exact gn hb.2.2.2
  cases l with
  | nil => intro t ht; cases ht
  | cons b l =>
    intro t ht
    rw [bxForm] at ht
    rcases List.mem_append.1 ht with ht | ht
    · exact hb b (h b (by simp)) t ht
    · obtain ⟨c, hc, ht⟩ := List.mem_flatMap.1 ht
      rcases List.mem_cons.1 ht with rfl | ht
      · exact gm (by simp)
      · exact hb c (h c (by simp [hc])) t ht
theorem gd_good {d : Dc} (h : DV d) : (∀ g ∈ gd d, GoodG g) ∧ gd d ≠ [] := by
  rcases h with h | h | h | h
  · obtain ⟨h1, h2, h3, _⟩ := h
    unfold gd
    rcases h1 with h1 | h1
    · rw [if_pos h1]
      refine ⟨?_, by simp⟩
      intro g hg
      simp only [List.mem_cons, List.not_mem_nil, or_false] at hg
      rcases hg with rfl | rfl | rfl | rfl
      · exact gw (by simp)
      · exact gN h2
      · exact gm (by simp)
      · exact gn h3
    · rw [if_neg (by rw [h1]; decide), if_pos h1]
      refine ⟨?_, by simp⟩
      intro g hg
      simp only [List.mem_cons, List.not_mem_nil, or_false] at hg
      rcases hg with rfl | rfl | rfl | rfl
      · exact gw (by simp)
      · exact gN h2
      · exact gm (by simp)
      · exact gn h3
  · obtain ⟨h1, h2, h3, h4, h5, _⟩ := h
    unfold gd
    rw [if_neg (by rw [h1]; decide), if_neg (by rw [h1]; decide), if_pos h1]
    refine ⟨?_, by simp⟩
    intro g hg
    rcases List.mem_append.1 hg with hg | hg
    · simp only [List.mem_cons, List.not_mem_nil, or_false] at hg
      rcases hg with rfl | rfl | rfl
      · exact gw (by simp)
      · exact gN h2
      · exact gm (by simp)
    · obtain ⟨t, ht, rfl⟩ := List.mem_map.1 hg
      exact bx_texts h5 t ht
  · obtain ⟨h1, h2, h3, h4, h5, h6, h7, h8, h9, h10⟩ := h
    unfold gd
    rcases h1 with h1 | h1
    · rw [if_neg (by rw [h1]; decide), if_neg (by rw [h1]; decide), if_neg (by rw [h1]; decide), if_pos h1]
      refine ⟨?_, by simp⟩
      intro g hg
      simp only [List.mem_cons, List.not_mem_nil, or_false] at hg
      rcases hg with rfl | rfl | rfl | rfl | rfl | rfl | rfl | rfl | rfl | rfl | rfl
      · exact gw (by simp)
      · exact gw (by simp)
      · exact gwho h5 (gw (by simp))
      · exact gw (by simp)
      · exact gtg h6 h7
      · exact gw (by simp)
      · exact gwho h8 (gw (by simp))
      · exact gw (by simp)
      · exact gwho h9.wv (gw (by simp))
      · exact gw (by simp)
      · exact gn h10
    · rw [if_neg (by rw [h1]; decide), if_neg (by rw [h1]; decide), if_neg (by rw [h1]; decide), if_neg (by rw [h1]; decide), if_pos h1]
      refine ⟨?_, by simp⟩
      intro g hg
      simp only [List.mem_cons, List.not_mem_nil, or_false] at hg
      rcases hg with rfl | rfl | rfl | rfl | rfl | rfl | rfl | rfl | rfl | rfl | rfl
      · exact gw (by simp)
      · exact gw (by simp)
      · exact gwho h5 (gw (by simp))
      · exact gw (by simp)
      · exact gtg h6 h7
      · exact gw (by simp)
      · exact gwho h8 (gw (by simp))
      · exact gw (by simp)
      · exact gwho h9.wv (gw (by simp))
      · exact gw (by simp)
      · exact gn h10
  · obtain ⟨h1, h2, h3, h4, h5, _⟩ := h
    unfold gd
    rw [if_neg (by rw [h1]; decide), if_neg (by rw [h1]; decide), if_neg (by rw [h1]; decide), if_neg (by rw [h1]; decide), if_neg (by rw [h1]; decide), if_pos h1]
    refine ⟨?_, by simp⟩
    intro g hg
    simp only [List.mem_cons, List.not_mem_nil, or_false] at hg
    rcases hg with rfl | rfl | rfl
    · exact gw (by simp)
    · exact gw (by simp)
    · exact gwho h5 (gw (by simp))
/-- A declaration's tokens' texts, with what stands behind each. -/
def cts (d : Dc) : List (Bs × Bs) := gsep (gd d) ++ [(mEnd, [10])]
def ctx (d : Dc) : List Bs := (gd d).flatten ++ [mEnd]
theorem cts_fst (d : Dc) : (cts d).map (·.1) = ctx d := by simp [cts, ctx, gsep_fst]
theorem end_fit (Q : List (Bs × Bs)) (hQ : Fit Q) : Fit ((mEnd, [10]) :: Q) := ⟨(mark_self mEnd (by simp)).1, fun c hc => by obtain rfl := List.mem_singleton.1 hc; decide, Or.inr (mark_self mEnd (by simp)).2.1, hQ⟩
theorem cts_fit {d : Dc} (h : DV d) (Q : List (Bs × Bs)) (hQ : Fit Q) : Fit (cts d ++ Q) := by
  unfold cts
  rw [List.append_assoc]
  exact gsep_fit _ _ (gd_good h).1 (end_fit Q hQ) (by show ofNm 59 = false; decide)
theorem cts_line {d : Dc} (h : DV d) : txt (cts d) = lineL (formL d) := by
  unfold cts lineL
  rw [txt_app, gsep_txt _ fun g hg => ((gd_good h).1 g hg).1, gd_form]
  simp [txt, mEnd]
/-- The tokens of the form's texts. -/
def TF (F : List Bs) (T : List Bs) : Prop := ∃ L, tokF F = some L ∧ L.map ktn = T.map fun t => ktn (tkOf t)
theorem tf_nil : TF [] [] := ⟨[], rfl, rfl⟩
theorem tf_groups : ∀ G : List (List Bs), (∀ g ∈ G, GoodG g) → TF (G.map List.flatten) G.flatten
  | [], _ => tf_nil
  | g :: G, h => by
    obtain ⟨L, h1, h2⟩ := tf_groups G fun x hx => h x (by simp [hx])
    have hg := h g (by simp)
    have hf := hg.2.2 [] [] (fun c hc => by cases hc) trivial rfl
    rw [List.append_nil] at hf
    have ht := grpP_txt g [] hg.1
    rw [List.append_nil] at ht
    obtain ⟨k1, k2⟩ := fit_toks hf (by rw [ht]; have := hg.2.1; omega)
    rw [ht] at k1 k2
    refine ⟨(toks g.flatten).1 ++ L, ?_, ?_⟩
    · rw [List.map_cons, tokF, k1]
      simp [h1]
    · rw [List.map_append, k2, h2, List.flatten_cons, List.map_append]
      have e : (grpP g []).map (fun x => ktn (tkOf x.1)) = ((grpP g []).map (·.1)).map fun t => ktn (tkOf t) := by rw [List.map_map]; rfl
      rw [e, grpP_fst]
theorem tf_form {d : Dc} (h : DV d) : TF (formL d ++ [mEnd]) (ctx d) := by
  have h1 := tf_groups (gd d ++ [[mEnd]]) fun g hg => by
    rcases List.mem_append.1 hg with hg | hg
    · exact (gd_good h).1 g hg
    · obtain rfl := List.mem_singleton.1 hg
      exact gm (by simp)
  rw [List.map_append, gd_form] at h1
  have e : (gd d ++ [[mEnd]]).flatten = ctx d := by simp [ctx]
  rw [e] at h1
  simpa using h1
end
section
set_option linter.unusedVariables false
set_option linter.unusedSimpArgs false
open Go.RowKit
theorem andM_ok {f g : PM} {q q1 : PS} (h : f q = (true, q1)) : andM f g q = g q1 := by unfold andM; rw [h]; rfl
theorem rd_takes (s : Bs) (R : List Tk) (d : Dc) : takesM s (tkOf s :: R, d) = (true, (R, d)) := by simp [takesM, takesB, takesL, tkOf]
theorem rd_after (s : Bs) (g : PM) (R : List Tk) (d : Dc) : afterM s g (tkOf s :: R, d) = g (R, d) := andM_ok (rd_takes s R d)
theorem rd_nm {s : Bs} (h : NV s) (R : List Tk) (d : Dc) : nmM (tkOf s :: R, d) = (true, (R, { d with nm := s })) := by simp [nmM, nameM, kindB, kindL, kindT, tkOf, h.2]
theorem rd_val {n : Int} (h : MV n) (R : List Tk) (d : Dc) : valM (tkOf (Lib.itoa n) :: R, d) = (true, (R, { d with n := n })) := by
  obtain ⟨h1, h2, h3, h4⟩ := num_self h
  simp [valM, numM, kindB, kindL, kindT, tkOf, h2, h3]
theorem rd_zoom {n : Int} (h : MV n) (R : List Tk) (d : Dc) : zoomM (tkOf (Lib.itoa n) :: R, d) = (true, (R, { d with zoom := n })) := by
  obtain ⟨h1, h2, h3, h4⟩ := num_self h
  simp [zoomM, numM, kindB, kindL, kindT, tkOf, h2, h3]
theorem nv_ne {s w : Bs} (h : NV s) (hw : tkK w = 2 ∨ tkK w = 4) : s ≠ w := by
  rintro rfl
  have := h.2
  omega
theorem num_ne {n : Int} (h : MV n) {w : Bs} (hw : tkK w = 2 ∨ tkK w = 4) : Lib.itoa n ≠ w := by
  rintro rfl
  have := (num_self h).2.1
  omega
theorem kw {s : Bs} (h : s ∈ [wAny, wAll, wRole, wLabel, wRegion, wAllow, wCap, wCloak, wTier, wIn, wZoom]) : tkK s = 2 ∨ tkK s = 4 := Or.inl (word_self s h).2.1
theorem km {s : Bs} (h : s ∈ [mIs, mAnd, mEnd, mUp]) : tkK s = 2 ∨ tkK s = 4 := Or.inr (mark_self s h).2.1
theorem rd_who {w : Wh} (h : WV w) (R : List Tk) : whoW (tkOf (txWho w wAny) :: R) Wh.z = (true, R, { w with p := (0, 0) }) := by
  obtain ⟨a, nm, n, p⟩ := w
  rcases h with ⟨h1, h2, h3⟩ | ⟨h1, h2, h3⟩ | ⟨h1, h2, h3⟩
  · simp only at h1 h2 h3; subst h1; subst h2; subst h3
    simp [whoW, takesB, tkOf, txWho, pPlace, Wh.z]
  · simp only at h1 h2 h3; subst h1; subst h3
    have e : txWho ⟨false, nm, 0, p⟩ wAny = nm := by unfold txWho; rw [if_neg (by simp), if_neg h2.1.1]
    have hne := nv_ne h2 (kw (s := wAny) (by simp))
    rw [e]
    simp [whoW, takesB, kindB, kindT, tkOf, pPlace, Wh.z, hne, h2.2]
  · simp only at h1 h2 h3; subst h1; subst h2
    have e : txWho ⟨false, [], n, p⟩ wAny = Lib.itoa n := by unfold txWho; rw [if_neg (by simp), if_pos rfl]
    have hne := num_ne h3 (kw (s := wAny) (by simp))
    obtain ⟨_, k1, k2, _⟩ := num_self h3
    rw [e]
    simp [whoW, takesB, kindB, kindL, kindT, tkOf, pPlace, Wh.z, hne, k1, k2]
theorem rd_where {w : Wh} (h : WW w) (R : List Tk) : whereW (tkOf (txWho w wAll) :: R) Wh.z = (true, R, { w with p := (0, 0) }) := by
  obtain ⟨a, nm, n, p⟩ := w
  rcases h with ⟨h1, h2, h3⟩ | ⟨h1, h2, h3⟩
  · simp only at h1 h2 h3; subst h1; subst h2; subst h3
    simp [whereW, takesB, tkOf, txWho, pPlace, Wh.z]
  · simp only at h1 h2 h3; subst h1; subst h3
    have e : txWho ⟨false, nm, 0, p⟩ wAll = nm := by unfold txWho; rw [if_neg (by simp), if_neg h2.1.1]
    have hne := nv_ne h2 (kw (s := wAll) (by simp))
    rw [e]
    simp [whereW, takesB, kindB, kindL, kindT, tkOf, pPlace, Wh.z, hne, h2.2]
theorem rd_role {w : Wh} (h : WV w) (R : List Tk) (d : Dc) (hz : d.role = Wh.z) : roleM (tkOf (txWho w wAny) :: R, d) = (true, (R, { d with role := { w with p := (0, 0) } })) := by
  unfold roleM
  simp only [hz, rd_who h R]
theorem rd_label {w : Wh} (h : WV w) (R : List Tk) (d : Dc) (hz : d.label = Wh.z) : labelM (tkOf (txWho w wAny) :: R, d) = (true, (R, { d with label := { w with p := (0, 0) } })) := by
  unfold labelM
  simp only [hz, rd_who h R]
theorem rd_wh {w : Wh} (h : WW w) (R : List Tk) (d : Dc) (hz : d.wh = Wh.z) : whereM (tkOf (txWho w wAll) :: R, d) = (true, (R, { d with wh := { w with p := (0, 0) } })) := by
  unfold whereM
  simp only [hz, rd_where h R]
theorem rd_tiers {lo hi : Int} (h1 : MV lo) (h2 : MV hi) (s : Bs) (hs : s ≠ mUp) (R : List Tk) (d : Dc) (hz : d.lo = 0) : tiersM ((tg lo hi).map tkOf ++ tkOf s :: R, d) = (true, (tkOf s :: R, { d with lo := lo, hi := hi })) := by
  have n1 := num_ne h1 (kw (s := wAny) (by simp))
  obtain ⟨_, k1, k2, _⟩ := num_self h1
  obtain ⟨_, j1, j2, _⟩ := num_self h2
  unfold tg
  split
  · rename_i h
    obtain ⟨rfl, rfl⟩ := h
    rw [← hz]
    simp [tiersM, takesB, tkOf]
  · split
    · rename_i h
      subst h
      simp [tiersM, takesB, kindB, kindT, tkOf, n1, k1, k2, hs]
    · simp [tiersM, takesB, kindB, kindL, kindT, tkOf, n1, k1, k2, j1, j2]
theorem bxForm_two (b c : Bx) (l : List Bx) : bxForm (b :: c :: l) = (numsOf b).map Lib.itoa ++ mAnd :: bxForm (c :: l) := by simp [bxForm]
theorem rd_boxesF : ∀ (l : List Bx) (n : Nat) (a : List Bx) (R : List Tk), l ≠ [] → (∀ b ∈ l, BV b) → takesB mAnd R = false → l.length < n → boxesF n ((bxForm l).map tkOf ++ R) a = (true, R, a ++ l) := by
  intro l
  induction l with
  | nil => intro n a R h; exact absurd rfl h
  | cons b l ih =>
    intro n a R _ hb hR hn
    obtain ⟨n, rfl⟩ : ∃ k, n = k + 1 := ⟨n - 1, by omega⟩
    have hB := hb b (by simp)
    obtain ⟨_, x1, x2, _⟩ := num_self hB.1
    obtain ⟨_, y1, y2, _⟩ := num_self hB.2.1
    obtain ⟨_, z1, z2, _⟩ := num_self hB.2.2.1
    obtain ⟨_, u1, u2, _⟩ := num_self hB.2.2.2
    have hst : ∀ M : List Tk, boxesF (n + 1) (((numsOf b).map Lib.itoa).map tkOf ++ M) a = if takesB mAnd M = true then boxesF n M.tail (a ++ [b]) else (true, M, a ++ [b]) := by
      intro M
      obtain ⟨f1, f2, f3⟩ := four_is (a := tkOf (Lib.itoa b.x0)) (b := tkOf (Lib.itoa b.y0)) (c := tkOf (Lib.itoa b.x1)) (d := tkOf (Lib.itoa b.y1)) x1 y1 z1 u1 M
      have ev : (⟨(tkOf (Lib.itoa b.x0)).n, (tkOf (Lib.itoa b.y0)).n, (tkOf (Lib.itoa b.x1)).n, (tkOf (Lib.itoa b.y1)).n⟩ : Bx) = b := by
        obtain ⟨b0, b1, b2, b3⟩ := b
        simp only [tkOf] at x2 y2 z2 u2 ⊢
        rw [x2, y2, z2, u2]
      rw [ev] at f3
      simp only [numsOf, List.map_cons, List.map_nil, List.cons_append, List.nil_append]
      rw [boxesF, if_pos f1, f2, f3]
    cases l with
    | nil =>
      have e : bxForm [b] = (numsOf b).map Lib.itoa := by simp [bxForm]
      rw [e, hst, if_neg (by rw [hR]; decide)]
    | cons c l =>
      rw [bxForm_two, List.map_append, List.append_assoc, hst]
      have ht : takesB mAnd ((mAnd :: bxForm (c :: l)).map tkOf ++ R) = true := by simp [takesB, tkOf]
      rw [if_pos ht]
      have e : ((mAnd :: bxForm (c :: l)).map tkOf ++ R).tail = (bxForm (c :: l)).map tkOf ++ R := rfl
      rw [e, ih n _ R (by simp) (fun x hx => hb x (by simp at hx ⊢; right; exact hx)) hR (by simp at hn ⊢; omega)]
      simp
theorem bx_ge (l : List Bx) (h : l ≠ []) : l.length ≤ (bxForm l).length := by
  cases l with
  | nil => exact absurd rfl h
  | cons b l =>
    have h2 : l.length ≤ (l.flatMap fun b => mAnd :: (numsOf b).map Lib.itoa).length := by
      clear h
      induction l with
      | nil => simp
      | cons c l ih => simp only [List.flatMap_cons, List.length_append, List.length_cons] at ih ⊢; omega
    have e : (bxForm (b :: l)).length = ((numsOf b).map Lib.itoa).length + (l.flatMap fun b => mAnd :: (numsOf b).map Lib.itoa).length := by simp only [bxForm, List.length_append]
    have e4 : ((numsOf b).map Lib.itoa).length = 4 := rfl
    rw [e, e4, List.length_cons]
    omega
theorem rd_boxes {l : List Bx} (h : l ≠ []) (hb : ∀ b ∈ l, BV b) (R : List Tk) (hR : takesB mAnd R = false) (d : Dc) (hz : d.bx = []) : boxesM ((bxForm l).map tkOf ++ R, d) = (true, (R, { d with bx := l })) := by
  unfold boxesM
  have h1 := bx_ge l h
  simp only [hz]
  rw [rd_boxesF l _ [] R h hb hR (by simp only [List.length_append, List.length_map]; omega)]
  simp
theorem rd_head (k : Nat) (hk : 1 ≤ k ∧ k ≤ 6) (R : List Tk) (d : Dc) : headM (tkOf (headsL.getD k []) :: R, d) = (true, (R, { d with k := (k : Int) })) := by
  have h : headF (tkOf (headsL.getD k []) :: R) = some k := by
    have e : headF (tkOf (headsL.getD k []) :: R) = headF (⟨0, headsL.getD k [], 0, (0, 0)⟩ :: []) := headF_cons (x := tkOf (headsL.getD k [])) (y := ⟨0, headsL.getD k [], 0, (0, 0)⟩) rfl R []
    rw [e]
    obtain rfl | rfl | rfl | rfl | rfl | rfl : k = 1 ∨ k = 2 ∨ k = 3 ∨ k = 4 ∨ k = 5 ∨ k = 6 := by omega
    all_goals rfl
  generalize headsL.getD k [] = s at h ⊢
  simp [headM, h]
theorem sameW_p {w : Wh} : SameW false { w with p := (0, 0) } w := ⟨rfl, rfl, rfl, fun h => by cases h⟩
theorem sameW_z {w : Wh} (h : WZ w) : SameW false Wh.z w := ⟨h.1.symm, h.2.1.symm, h.2.2.symm, fun h => by cases h⟩
/-- The form's tokens are read as the declaration. -/
theorem rd_one {d : Dc} (h : DV d) : ∃ d', oneM ((ctx d).map tkOf, Dc.z (0, 0)) = (true, ([], d')) ∧ SameD false d' d := by
  have hup : wLabel ≠ mUp := by decide
  have hE : ∀ d : Dc, takesM mEnd ([tkOf mEnd], d) = (true, ([], d)) := fun d => rd_takes mEnd [] d
  rcases h with h | h | h | h
  · obtain ⟨h1, h2, h3, h4, h5, h6, h7, h8, h9, h10⟩ := h
    obtain ⟨k, hk, hk2, hc⟩ : ∃ k : Nat, (k = 1 ∨ k = 2) ∧ d.k = (k : Int) ∧ (ctx d) = [headsL.getD k [], d.nm, mIs, Lib.itoa d.n, mEnd] := by
      rcases h1 with h1 | h1
      · exact ⟨1, Or.inl rfl, h1, by unfold ctx gd; rw [if_pos h1]; rfl⟩
      · exact ⟨2, Or.inr rfl, h1, by unfold ctx gd; rw [if_neg (by rw [h1]; decide), if_pos h1]; rfl⟩
    refine ⟨{ Dc.z (0, 0) with k := (k : Int), nm := d.nm, n := d.n }, ?_, hk2.symm, rfl, rfl, h4.symm, sameW_z h5, h6.symm, h7.symm, sameW_z h8, sameW_z h9, h10.symm, fun h => by cases h⟩
    rw [hc]
    simp only [List.map_cons, List.map_nil]
    unfold oneM
    rw [andM_ok (rd_head k (by omega) _ _)]
    refine (andM_ok ?_).trans (hE _)
    rw [bodyM_K]
    show bodyK (k : Int) _ = _
    unfold bodyK
    rw [if_pos (by omega), andM_ok (rd_nm h2 _ _), rd_after, rd_val h3]
  · obtain ⟨h1, h2, h3, h4, hb, h5, h6, h7, h8, h9, h10⟩ := h
    have hc : (ctx d).map tkOf = tkOf (headsL.getD 3 []) :: tkOf d.nm :: tkOf mIs :: ((bxForm d.bx).map tkOf ++ [tkOf mEnd]) := by
      have e1 : ((bxForm d.bx).map fun t => [t]).flatten = bxForm d.bx := by
        generalize bxForm d.bx = F
        induction F with
        | nil => rfl
        | cons x F ih => simpa using ih
      unfold ctx gd
      rw [if_neg (by rw [h1]; decide), if_neg (by rw [h1]; decide), if_pos h1, List.flatten_append, e1]
      simp [headsL]
    refine ⟨{ Dc.z (0, 0) with k := 3, nm := d.nm, bx := d.bx }, ?_, h1.symm, rfl, h3.symm, rfl, sameW_z h5, h6.symm, h7.symm, sameW_z h8, sameW_z h9, h10.symm, fun h => by cases h⟩
    rw [hc]
    unfold oneM
    rw [andM_ok (rd_head 3 (by omega) _ _)]
    refine (andM_ok ?_).trans (hE _)
    rw [bodyM_K]
    show bodyK 3 _ = _
    unfold bodyK
    rw [if_neg (by decide), if_pos rfl, andM_ok (rd_nm h2 _ _), rd_after, rd_boxes h4 hb _ (by decide) _ rfl]
    rfl
  · obtain ⟨h1, h2, h3, h4, h5, h6, h7, h8, h9, h10⟩ := h
    obtain ⟨k, hk, hk2, hc⟩ : ∃ k : Nat, (k = 4 ∨ k = 5) ∧ d.k = (k : Int) ∧ (ctx d).map tkOf = tkOf (headsL.getD k []) :: tkOf wRole :: tkOf (txWho d.role wAny) :: tkOf wTier :: ((tg d.lo d.hi).map tkOf ++ tkOf wLabel :: tkOf (txWho d.label wAny) :: tkOf wIn :: tkOf (txWho d.wh wAll) :: tkOf wZoom :: tkOf (Lib.itoa d.zoom) :: [tkOf mEnd]) := by
      rcases h1 with h1 | h1
      · exact ⟨4, Or.inl rfl, h1, by unfold ctx gd; rw [if_neg (by rw [h1]; decide), if_neg (by rw [h1]; decide), if_neg (by rw [h1]; decide), if_pos h1]; simp [headsL]⟩
      · exact ⟨5, Or.inr rfl, h1, by unfold ctx gd; rw [if_neg (by rw [h1]; decide), if_neg (by rw [h1]; decide), if_neg (by rw [h1]; decide), if_neg (by rw [h1]; decide), if_pos h1]; simp [headsL]⟩
    refine ⟨{ Dc.z (0, 0) with k := (k : Int), role := { d.role with p := (0, 0) }, lo := d.lo, hi := d.hi, label := { d.label with p := (0, 0) }, wh := { d.wh with p := (0, 0) }, zoom := d.zoom }, ?_, hk2.symm, h2.symm, h3.symm, h4.symm, sameW_p, rfl, rfl, sameW_p, sameW_p, rfl, fun h => by cases h⟩
    rw [hc]
    unfold oneM
    rw [andM_ok (rd_head k (by omega) _ _)]
    refine (andM_ok ?_).trans (hE _)
    rw [bodyM_K]
    show bodyK (k : Int) _ = _
    unfold bodyK
    rw [if_neg (by omega), if_neg (by omega), if_pos (by omega)]
    rw [andM_ok ((rd_after _ _ _ _).trans (rd_role h5 _ _ rfl))]
    rw [andM_ok ((rd_after _ _ _ _).trans (rd_tiers h6 h7 wLabel hup _ _ rfl))]
    rw [andM_ok ((rd_after _ _ _ _).trans (rd_label h8 _ _ rfl))]
    rw [andM_ok ((rd_after _ _ _ _).trans (rd_wh h9 _ _ rfl))]
    rw [rd_after, rd_zoom h10]
  · obtain ⟨h1, h2, h3, h4, h5, h6, h7, h8, h9, h10⟩ := h
    have hc : (ctx d).map tkOf = tkOf (headsL.getD 6 []) :: tkOf wRole :: tkOf (txWho d.role wAny) :: [tkOf mEnd] := by
      unfold ctx gd
      rw [if_neg (by rw [h1]; decide), if_neg (by rw [h1]; decide), if_neg (by rw [h1]; decide), if_neg (by rw [h1]; decide), if_neg (by rw [h1]; decide), if_pos h1]
      simp [headsL]
    refine ⟨{ Dc.z (0, 0) with k := 6, role := { d.role with p := (0, 0) } }, ?_, h1.symm, h2.symm, h3.symm, h4.symm, sameW_p, h6.symm, h7.symm, sameW_z h8, sameW_z h9, h10.symm, fun h => by cases h⟩
    rw [hc]
    unfold oneM
    rw [andM_ok (rd_head 6 (by omega) _ _)]
    refine (andM_ok ?_).trans (hE _)
    rw [bodyM_K]
    show bodyK 6 _ = _
    unfold bodyK
    rw [if_neg (by decide), if_neg (by decide), if_neg (by decide), if_pos rfl, rd_after, rd_role h5 _ _ rfl]
    rfl
theorem sameD_trans {a b c : Dc} (h : SameD false a b) (k : SameD false b c) : SameD false a c := by
  obtain ⟨h1, h2, h3, h4, ⟨p1, p2, p3, _⟩, h6, h7, ⟨q1, q2, q3, _⟩, ⟨r1, r2, r3, _⟩, h10, h11⟩ := h
  obtain ⟨k1, k2, k3, k4, ⟨s1, s2, s3, _⟩, k6, k7, ⟨t1, t2, t3, _⟩, ⟨u1, u2, u3, _⟩, k10, k11⟩ := k
  exact ⟨h1.trans k1, h2.trans k2, h3.trans k3, h4.trans k4, ⟨p1.trans s1, p2.trans s2, p3.trans s3, fun h => by cases h⟩, h6.trans k6, h7.trans k7, ⟨q1.trans t1, q2.trans t2, q3.trans t3, fun h => by cases h⟩, ⟨r1.trans u1, r2.trans u2, r3.trans u3, fun h => by cases h⟩, h10.trans k10, fun h => by cases h⟩
/-- .. wherever they stand, whatever follows. -/
theorem rd_any {d : Dc} (h : DV d) {L : List Tk} (hL : L.map ktn = (ctx d).map fun t => ktn (tkOf t)) (B : List Tk) (p : Pl) : ∃ d', oneM (L ++ B, Dc.z p) = (true, (B, d')) ∧ SameD false d' d := by
  obtain ⟨d1, h1, h2⟩ := rd_one h
  have hS := oneM_strong false ((ctx d).map tkOf) L (Dc.z (0, 0)) (Dc.z p) B (LS.of_map (by rw [hL, List.map_map]; rfl)) ⟨rfl, rfl, rfl, rfl, SameW.refl _ _, rfl, rfl, SameW.refl _ _, SameW.refl _ _, rfl, fun h => by cases h⟩ (by rw [h1])
  obtain ⟨k1, ⟨R, k2, k3⟩, k4⟩ := hS
  rw [h1] at k3 k4
  obtain rfl := LS.nil k3
  exact ⟨(oneM (L ++ B, Dc.z p)).2.2, Prod.ext k1 (Prod.ext k2 rfl), sameD_trans k4.symm h2⟩
theorem strip_same {a b : Dc} (h : SameD false a b) : stripD a = stripD b := by
  obtain ⟨ak, anm, an, abx, ⟨ra, rn, rm, rp⟩, alo, ahi, ⟨la, ln, lm, lp⟩, ⟨wa, wn, wm, wp⟩, az, ap⟩ := a
  obtain ⟨bk, bnm, bn, bbx, ⟨ra2, rn2, rm2, rp2⟩, blo, bhi, ⟨la2, ln2, lm2, lp2⟩, ⟨wa2, wn2, wm2, wp2⟩, bz, bp⟩ := b
  obtain ⟨h1, h2, h3, h4, ⟨p1, p2, p3, _⟩, h6, h7, ⟨q1, q2, q3, _⟩, ⟨r1, r2, r3, _⟩, h10, h11⟩ := h
  simp only at h1 h2 h3 h4 p1 p2 p3 h6 h7 q1 q2 q3 r1 r2 r3 h10
  subst h1; subst h2; subst h3; subst h4; subst p1; subst p2; subst p3; subst h6; subst h7; subst q1; subst q2; subst q3; subst r1; subst r2; subst r3; subst h10
  rfl
theorem form_same {a b : Dc} (h : SameD false a b) : formL a = formL b := by
  have e := congrArg formL (strip_same h)
  exact e
theorem mv64 {n : Int} (h : MV n) : I64 n := by unfold MV at h; unfold I64; omega
theorem wv64 {w : Wh} (h : WV w) : I64 w.n := by
  rcases h with ⟨_, _, h⟩ | ⟨_, _, h⟩ | ⟨_, _, h⟩
  · rw [h]; unfold I64; omega
  · rw [h]; unfold I64; omega
  · exact mv64 h
theorem wz64 {w : Wh} (h : WZ w) : I64 w.n := by rw [h.2.2]; unfold I64; omega
theorem z64 : I64 0 := by unfold I64; omega
theorem dv_di {d : Dc} (h : DV d) : DI d := by
  rcases h with h | h | h | h
  · obtain ⟨h1, h2, h3, h4, h5, h6, h7, h8, h9, h10⟩ := h
    exact ⟨by unfold I64; omega, mv64 h3, wz64 h5, h6 ▸ z64, h7 ▸ z64, wz64 h8, wz64 h9, h10 ▸ z64, by rw [h4]; intro b hb; cases hb⟩
  · obtain ⟨h1, h2, h3, h4, hb, h5, h6, h7, h8, h9, h10⟩ := h
    exact ⟨by unfold I64; omega, h3 ▸ z64, wz64 h5, h6 ▸ z64, h7 ▸ z64, wz64 h8, wz64 h9, h10 ▸ z64, fun b hb' => ⟨mv64 (hb b hb').1, mv64 (hb b hb').2.1, mv64 (hb b hb').2.2.1, mv64 (hb b hb').2.2.2⟩⟩
  · obtain ⟨h1, h2, h3, h4, h5, h6, h7, h8, h9, h10⟩ := h
    exact ⟨by unfold I64; omega, h3 ▸ z64, wv64 h5, mv64 h6, mv64 h7, wv64 h8, wv64 h9.wv, mv64 h10, by rw [h4]; intro b hb; cases hb⟩
  · obtain ⟨h1, h2, h3, h4, h5, h6, h7, h8, h9, h10⟩ := h
    exact ⟨by unfold I64; omega, h3 ▸ z64, wv64 h5, h6 ▸ z64, h7 ▸ z64, wz64 h8, wz64 h9, h10 ▸ z64, by rw [h4]; intro b hb; cases hb⟩
theorem form_len (d : Dc) : (formL d).length ≤ 11 + 5 * d.bx.length := by
  have := bx_len d.bx
  unfold formL
  repeat' split
  all_goals
    simp only [List.length_cons, List.length_nil, List.length_append]
    omega
/-- A declaration that may be is right, if it has not too many boxes. -/
theorem dv_right {d : Dc} (h : DV d) (hb : d.bx.length ≤ 190) : RightD d := by
  obtain ⟨L, l1, l2⟩ := tf_form h
  have hlen : L.length ≤ 100000 := by
    have e := congrArg List.length l2
    simp only [List.length_map] at e
    have h1 : (ctx d).length ≤ 3 * (gd d).length + 1 := by
      have hg : ∀ G : List (List Bs), (∀ g ∈ G, g.length ≤ 3) → G.flatten.length ≤ 3 * G.length := by
        intro G
        induction G with
        | nil => intro _; simp
        | cons g G ih =>
          intro hG
          have := ih fun x hx => hG x (by simp [hx])
          have := hG g (by simp)
          simp only [List.flatten_cons, List.length_append, List.length_cons]
          omega
      have := hg (gd d) (by
        intro g hg
        unfold gd tg at hg
        repeat' split at hg
        all_goals
          simp only [List.mem_cons, List.not_mem_nil, or_false, List.mem_append, List.mem_map] at hg
        all_goals
          first
          | (rcases hg with rfl | rfl | rfl | rfl <;> simp)
          | (rcases hg with (rfl | rfl | rfl) | ⟨t, _, rfl⟩ <;> simp)
          | (rcases hg with rfl | rfl | rfl <;> simp)
          | (rcases hg with rfl | rfl | rfl | rfl | rfl | rfl | rfl | rfl | rfl | rfl | rfl <;> simp))
      unfold ctx
      simp only [List.length_append, List.length_cons, List.length_nil]
      omega
    have h2 : (gd d).length = (formL d).length := by rw [← gd_form, List.length_map]
    have h3 := form_len d
    omega
  obtain ⟨d', r1, r2⟩ := rd_any h l2 [] (match L with | [] => (0, 0) | x :: _ => x.p)
  have hall : allP L = (true, [], [d']) := by
    rw [List.append_nil] at r1
    cases L with
    | nil =>
      exfalso
      have e := congrArg List.length l2
      simp [ctx] at e
    | cons x L =>
      have hlt : ∃ k, (x :: L).length = k + 1 := ⟨L.length, rfl⟩
      unfold allP
      rw [allF, if_pos (by rw [r1]), r1]
      rfl
  refine ⟨dv_di h, by omega, ?_, ?_, L, [], d', l1, hlen, hall, strip_same r2, r2.2.2.2.1⟩
  · have := form_len d
    simp only [List.length_append, List.length_cons, List.length_nil]
    omega
  · intro s hs
    rcases List.mem_append.1 hs with hs | hs
    · rw [← gd_form] at hs
      obtain ⟨g, hg, rfl⟩ := List.mem_map.1 hs
      exact ((gd_good h).1 g hg).2.1
    · obtain rfl := List.mem_singleton.1 hs
      decide
end
section
set_option linter.unusedVariables false
set_option linter.unusedSimpArgs false
open Go.RowKit
theorem prints_txt : ∀ ds : List Dc, (∀ d ∈ ds, DV d) → txt (ds.flatMap cts) = printL ds ∧ Fit (ds.flatMap cts)
  | [], _ => ⟨rfl, trivial⟩
  | d :: ds, h => by
    obtain ⟨h1, h2⟩ := prints_txt ds fun x hx => h x (by simp [hx])
    have hd := h d (by simp)
    rw [List.flatMap_cons]
    refine ⟨?_, cts_fit hd _ h2⟩
    rw [txt_app, cts_line hd, h1]
    simp [printL]
theorem reads_all : ∀ (ds : List Dc) (n : Nat) (L : List Tk) (a : List Dc), (∀ d ∈ ds, DV d) → L.map ktn = (ds.flatMap ctx).map (fun t => ktn (tkOf t)) → L.length < n → ∃ ds', allF n L a = (true, [], a ++ ds') ∧ DS false ds' ds
  | [], n, L, a, _, hL, hn => by
    have hnil : L = [] := by
      cases L with
      | nil => rfl
      | cons x L => simp at hL
    subst hnil
    obtain ⟨n, rfl⟩ : ∃ k, n = k + 1 := ⟨n - 1, by simp at hn; omega⟩
    exact ⟨[], by simp [allF], trivial⟩
  | d :: ds, n, L, a, hv, hL, hn => by
    rw [List.flatMap_cons, List.map_append] at hL
    obtain ⟨L1, B, rfl, e1, e2⟩ := List.map_eq_append_iff.1 hL
    have hd := hv d (by simp)
    cases L1 with
    | nil =>
      exfalso
      have e := congrArg List.length e1
      simp [ctx] at e
    | cons x L1 =>
      obtain ⟨n, rfl⟩ : ∃ k, n = k + 1 := ⟨n - 1, by omega⟩
      obtain ⟨d', r1, r2⟩ := rd_any hd e1 B x.p
      rw [List.cons_append] at r1
      simp only [List.length_append, List.length_cons] at hn
      obtain ⟨ds', i1, i2⟩ := reads_all ds n B (a ++ [d']) (fun y hy => hv y (by simp [hy])) e2 (by omega)
      refine ⟨d' :: ds', ?_, r2, i2⟩
      rw [List.cons_append, allF, if_pos (by rw [r1]), r1, i1]
      simp
theorem print_same : ∀ {D E : List Dc}, DS false D E → printL D = printL E
  | [], [], _ => rfl
  | [], _ :: _, h => h.elim
  | _ :: _, [], h => h.elim
  | d :: D, e :: E, h => by
    have h1 := print_same h.2
    have h2 := form_same h.1
    unfold printL at h1 ⊢
    rw [List.map_cons, List.map_cons, List.flatten_cons, List.flatten_cons, h1, h2]
/-- What may be is written, and read as it was, but for places, if the text is not too long. -/
theorem print_back (ds : List Dc) (hv : ∀ d ∈ ds, DV d) (hl : (printL ds).length ≤ 512) : ∃ ds', parseP (printL ds) = (ds', none) ∧ DS false ds' ds := by
  obtain ⟨h1, h2⟩ := prints_txt ds hv
  rw [← h1] at hl
  obtain ⟨k1, k2⟩ := fit_toks h2 hl
  rw [h1] at k1 k2
  have e : (ds.flatMap cts).map (fun x => ktn (tkOf x.1)) = (ds.flatMap ctx).map fun t => ktn (tkOf t) := by
    rw [List.map_flatMap, List.map_flatMap]
    congr 1
    funext d
    rw [← cts_fst, List.map_map]
    rfl
  rw [e] at k2
  obtain ⟨ds', r1, r2⟩ := reads_all ds ((toks (printL ds)).1.length + 1) _ [] hv k2 (by omega)
  refine ⟨ds', ?_, r2⟩
  unfold parseP
  rw [k1]
  simp only
  have hall : allP (toks (printL ds)).1 = (true, [], ds') := by unfold allP; rw [r1]; rfl
  rw [hall]
  simp
theorem parse_long {l : Bs} (h : 512 < l.length) : parseP l = ([], some (2, (1, 1))) := by
  have e : toks l = ([], some (2, (1, 1))) := by unfold toks; rw [if_pos h]
  unfold parseP
  rw [e]
theorem parse_none {l : Bs} {f : Int × Pl} (h : (parseP l).2 = some f) : (parseP l).1 = [] := by
  unfold parseP at h ⊢
  cases hT : (toks l).2 with
  | some g => simp only
  | none =>
    rw [hT] at h
    simp only at h ⊢
    split at h
    · cases h
    · rename_i hA; rw [if_neg hA]
end
end Go.Proofs.YtileecbccmfpdaaGreatDoor
