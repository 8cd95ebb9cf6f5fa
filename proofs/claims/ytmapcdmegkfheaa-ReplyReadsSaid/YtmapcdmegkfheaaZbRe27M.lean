/- Texts: Re27, Re28. -/
import Derived.Test.YtmapcdmegkfheaaZbRe21
import Derived.Test.YtmapcdmegkfheaaZbRe24
namespace Go.Proofs.Ytmapcdmegkfheaa
section
set_option linter.unusedVariables false
set_option linter.unusedSimpArgs false
open Go.RowKit
/-- The same but for where its rows lie. -/
def reA (a : An) (sA : Option Addr) (sc : Nat) (eA : Option Addr) (ec : Nat) : An := { a with sA := sA, sc := sc, eA := eA, ec := ec }
theorem may_re (op m : Int) (a : An) (L : List Snt) (M : List Evt) (sA : Option Addr) (sc : Nat) (eA : Option Addr) (ec : Nat) : mayB op m (reA a sA sc eA ec) L M = mayB op m a L M := by
  by_cases h4 : op = 4 ∨ op = 5
  · rcases h4 with rfl | rfl <;> rfl
  · by_cases h12 : op = 12
    · subst h12; rfl
    · by_cases h10 : op = 10
      · subst h10; rfl
      · by_cases hs : op = 13 ∨ op = 14 ∨ op = 15 ∨ op = 16
        · rcases hs with rfl | rfl | rfl | rfl <;> rfl
        · by_cases he : op = 17 ∨ op = 18
          · rcases he with rfl | rfl <;> rfl
          · unfold mayB restB holdsB outA reA bareB
            simp only [h4, h12, h10, hs, he, if_false]
theorem enc_re (op m : Int) (a : An) (L : List Snt) (M : List Evt) (sA : Option Addr) (sc : Nat) (eA : Option Addr) (ec : Nat) : encW op m (reA a sA sc eA ec) L M = encW op m a L M := rfl
/-- A number's bytes, read. -/
theorem getB_be (k n : Nat) (h : n < 256 ^ k) : getB (be k n) = n := by
  induction k generalizing n with
  | zero =>
    have : n = 0 := by simpa using h
    subst this; rfl
  | succ k ih =>
    rw [be_last, getB_snoc, ih (n / 256) (by rw [Nat.pow_succ] at h; exact Nat.div_lt_of_lt_mul (by omega))]
    have : (UInt8.ofNat (n % 256)).toNat = n % 256 := by simp [UInt8.toNat_ofNat]
    rw [this]; omega
theorem gI_at {P Q : Bs} {x : Int} {a k b : Nat} (ha : P.length = a) (hb : b < 256 ^ k) (hb2 : b ≤ 4294967295) (h0 : 0 ≤ x) (h1 : x ≤ (b : Int)) : gI (P ++ (be k (toU x) ++ Q)) a k = x := by
  subst ha
  have e : toU x = x.toNat := by unfold toU; omega
  have e2 : ((P ++ (be k (toU x) ++ Q)).drop P.length).take k = be k (toU x) := by
    rw [List.drop_left, List.take_left' (be_length _ _)]
  unfold gI
  rw [e2, getB_be k _ (by omega), e]
  omega
theorem gI_drop (R : Bs) (a b k : Nat) : gI R (a + b) k = gI (R.drop a) b k := by unfold gI; rw [List.drop_drop]
theorem snt_at {x : Snt} {Q : Bs} (h : snB x = true) : (⟨gI (seenE x ++ Q) 0 2, gI (seenE x ++ Q) 2 1, gI (seenE x ++ Q) 3 2, gI (seenE x ++ Q) 5 2, gI (seenE x ++ Q) 7 2, gI (seenE x ++ Q) 9 2⟩ : Snt) = x := by
  unfold snB at h
  simp only [Bool.and_eq_true, within_iff, rightB_iff] at h
  obtain ⟨h1, h2, h3⟩ := h
  obtain ⟨id, lev, b0, b1, b2, b3⟩ := x
  simp only at h1 h2 h3
  have L2 : ∀ n, (be 2 n).length = 2 := fun n => be_length 2 n
  have L1 : ∀ n, (be 1 n).length = 1 := fun n => be_length 1 n
  have e0 : gI (seenE ⟨id, lev, b0, b1, b2, b3⟩ ++ Q) 0 2 = id := by
    have := gI_at (P := []) (Q := be 1 (toU lev) ++ rectE b0 b1 b2 b3 ++ Q) (x := id) (a := 0) (k := 2) (b := 65535) rfl (by decide) (by decide) (by omega) (by omega)
    simpa [seenE, List.append_assoc] using this
  have e1 : gI (seenE ⟨id, lev, b0, b1, b2, b3⟩ ++ Q) 2 1 = lev := by
    have := gI_at (P := be 2 (toU id)) (Q := rectE b0 b1 b2 b3 ++ Q) (x := lev) (a := 2) (k := 1) (b := 255) (L2 _) (by decide) (by decide) (by omega) (by omega)
    simpa [seenE, List.append_assoc] using this
  have e2 : gI (seenE ⟨id, lev, b0, b1, b2, b3⟩ ++ Q) 3 2 = b0 := by
    have := gI_at (P := be 2 (toU id) ++ be 1 (toU lev)) (Q := be 2 (toU b1) ++ (be 2 (toU b2) ++ (be 2 (toU b3) ++ Q))) (x := b0) (a := 3) (k := 2) (b := 65535) (by simp [L2, L1]) (by decide) (by decide) (by omega) (by omega)
    simpa [seenE, rectE, List.append_assoc] using this
  have e3 : gI (seenE ⟨id, lev, b0, b1, b2, b3⟩ ++ Q) 5 2 = b1 := by
    have := gI_at (P := be 2 (toU id) ++ (be 1 (toU lev) ++ be 2 (toU b0))) (Q := be 2 (toU b2) ++ (be 2 (toU b3) ++ Q)) (x := b1) (a := 5) (k := 2) (b := 65535) (by simp [L2, L1]) (by decide) (by decide) (by omega) (by omega)
    simpa [seenE, rectE, List.append_assoc] using this
  have e4 : gI (seenE ⟨id, lev, b0, b1, b2, b3⟩ ++ Q) 7 2 = b2 := by
    have := gI_at (P := be 2 (toU id) ++ (be 1 (toU lev) ++ (be 2 (toU b0) ++ be 2 (toU b1)))) (Q := be 2 (toU b3) ++ Q) (x := b2) (a := 7) (k := 2) (b := 65535) (by simp [L2, L1]) (by decide) (by decide) (by omega) (by omega)
    simpa [seenE, rectE, List.append_assoc] using this
  have e5 : gI (seenE ⟨id, lev, b0, b1, b2, b3⟩ ++ Q) 9 2 = b3 := by
    have := gI_at (P := be 2 (toU id) ++ (be 1 (toU lev) ++ (be 2 (toU b0) ++ (be 2 (toU b1) ++ be 2 (toU b2))))) (Q := Q) (x := b3) (a := 9) (k := 2) (b := 65535) (by simp [L2, L1]) (by decide) (by decide) (by omega) (by omega)
    simpa [seenE, rectE, List.append_assoc] using this
  rw [e0, e1, e2, e3, e4, e5]
theorem evt_at {x : Evt} {Q : Bs} (h : evB x = true) : (⟨gI (evtE x ++ Q) 0 2, gI (evtE x ++ Q) 2 1, gI (evtE x ++ Q) 3 1, gI (evtE x ++ Q) 4 4⟩ : Evt) = x := by
  unfold evB at h
  simp only [Bool.and_eq_true, within_iff] at h
  obtain ⟨h1, h2, h3, h4⟩ := h
  obtain ⟨u, o, s, t⟩ := x
  simp only at h1 h2 h3 h4
  have L2 : ∀ n, (be 2 n).length = 2 := fun n => be_length 2 n
  have L1 : ∀ n, (be 1 n).length = 1 := fun n => be_length 1 n
  have e0 : gI (evtE ⟨u, o, s, t⟩ ++ Q) 0 2 = u := by
    have := gI_at (P := []) (Q := be 1 (toU o) ++ (be 1 (toU s) ++ be 4 (toU t)) ++ Q) (x := u) (a := 0) (k := 2) (b := 65535) rfl (by decide) (by decide) (by omega) (by omega)
    simpa [evtE, List.append_assoc] using this
  have e1 : gI (evtE ⟨u, o, s, t⟩ ++ Q) 2 1 = o := by
    have := gI_at (P := be 2 (toU u)) (Q := be 1 (toU s) ++ (be 4 (toU t) ++ Q)) (x := o) (a := 2) (k := 1) (b := 255) (L2 _) (by decide) (by decide) (by omega) (by omega)
    simpa [evtE, List.append_assoc] using this
  have e2 : gI (evtE ⟨u, o, s, t⟩ ++ Q) 3 1 = s := by
    have := gI_at (P := be 2 (toU u) ++ be 1 (toU o)) (Q := be 4 (toU t) ++ Q) (x := s) (a := 3) (k := 1) (b := 255) (by simp [L2, L1]) (by decide) (by decide) (by omega) (by omega)
    simpa [evtE, List.append_assoc] using this
  have e3 : gI (evtE ⟨u, o, s, t⟩ ++ Q) 4 4 = t := by
    have := gI_at (P := be 2 (toU u) ++ (be 1 (toU o) ++ be 1 (toU s))) (Q := Q) (x := t) (a := 4) (k := 4) (b := 4294967295) (by simp [L2, L1]) (by decide) (by decide) (by omega) (by omega)
    simpa [evtE, List.append_assoc] using this
  rw [e0, e1, e2, e3]
theorem flat_drop {α : Type} (f : α → Bs) (n : Nat) (hf : ∀ x, (f x).length = n) (L : List α) (k : Nat) (hk : k < L.length) (Q : Bs) : ∃ Q', (L.flatMap f ++ Q).drop (n * k) = f L[k] ++ Q' := by
  induction L generalizing k with
  | nil => simp at hk
  | cons x L ih =>
    cases k with
    | zero => exact ⟨L.flatMap f ++ Q, by simp [List.append_assoc]⟩
    | succ k =>
      obtain ⟨Q', hq⟩ := ih k (by simpa using hk)
      refine ⟨Q', ?_⟩
      rw [List.flatMap_cons, List.append_assoc, Nat.mul_succ, Nat.add_comm, ← List.drop_drop]
      have : (f x ++ (L.flatMap f ++ Q)).drop n = L.flatMap f ++ Q := by rw [List.drop_left' (hf x)]
      rw [this, hq]; rfl
theorem seens_back {R H Q : Bs} {L : List Snt} (hR : R = H ++ (L.flatMap seenE ++ Q)) (hH : H.length = 3) (hL : ∀ x ∈ L, snB x = true) : (List.range L.length).map (sntR R) = L := by
  apply List.ext_getElem (by simp)
  intro k h1 h2
  rw [List.getElem_map, List.getElem_range]
  obtain ⟨Q', hq⟩ := flat_drop seenE 11 (fun x => by simp [seenE, be_length, rectE_len]) L k h2 Q
  have hd : R.drop (3 + 11 * k) = seenE L[k] ++ Q' := by
    rw [← List.drop_drop, hR, List.drop_left' hH, hq]
  have := snt_at (x := L[k]) (Q := Q') (hL _ (List.getElem_mem h2))
  rw [← hd] at this
  unfold sntR
  rw [gI_drop R (3 + 11 * k) 2, gI_drop R (3 + 11 * k) 3, gI_drop R (3 + 11 * k) 5, gI_drop R (3 + 11 * k) 7, gI_drop R (3 + 11 * k) 9]
  have h0 : gI R (3 + 11 * k) 2 = gI (R.drop (3 + 11 * k)) 0 2 := gI_drop R (3 + 11 * k) 0 2
  rw [h0]
  exact this
theorem evts_back {R H Q : Bs} {L : List Evt} (hR : R = H ++ (L.flatMap evtE ++ Q)) (hH : H.length = 3) (hL : ∀ x ∈ L, evB x = true) : (List.range L.length).map (evtR R) = L := by
  apply List.ext_getElem (by simp)
  intro k h1 h2
  rw [List.getElem_map, List.getElem_range]
  obtain ⟨Q', hq⟩ := flat_drop evtE 8 (fun x => by simp [evtE, be_length]) L k h2 Q
  have hd : R.drop (3 + 8 * k) = evtE L[k] ++ Q' := by
    rw [← List.drop_drop, hR, List.drop_left' hH, hq]
  have := evt_at (x := L[k]) (Q := Q') (hL _ (List.getElem_mem h2))
  rw [← hd] at this
  unfold evtR
  rw [gI_drop R (3 + 8 * k) 2, gI_drop R (3 + 8 * k) 3, gI_drop R (3 + 8 * k) 4]
  have h0 : gI R (3 + 8 * k) 2 = gI (R.drop (3 + 8 * k)) 0 2 := gI_drop R (3 + 8 * k) 0 2
  rw [h0]
  exact this
end
section
set_option linter.unusedVariables false
set_option linter.unusedSimpArgs false
open Go.RowKit
/-- What holds of an answer that may be told. -/
structure Fine (op : Int) (a : An) (L : List Snt) (M : List Evt) : Prop where
  st : 0 ≤ a.st ∧ a.st ≤ 12
  rid : a.rid = 0
  sec : ¬ (op = 4 ∨ op = 5) → a.sec = 0
  fld : op ≠ 12 → a.rx = 0 ∧ a.ry = 0 ∧ a.lab = 0
  fldB : 0 ≤ a.rx ∧ a.rx ≤ 65535 ∧ 0 ≤ a.ry ∧ a.ry ≤ 65535 ∧ 0 ≤ a.lab ∧ a.lab ≤ 7
  box : op ≠ 10 → a.b0 = 0 ∧ a.b1 = 0 ∧ a.b2 = 0 ∧ a.b3 = 0
  boxB : (0 ≤ a.b0 ∧ a.b0 ≤ 65535) ∧ (0 ≤ a.b1 ∧ a.b1 ≤ 65535) ∧ (0 ≤ a.b2 ∧ a.b2 ≤ 65535) ∧ (0 ≤ a.b3 ∧ a.b3 ≤ 65535)
  sn : ¬ (op = 13 ∨ op = 14 ∨ op = 15 ∨ op = 16) → L = []
  en : ¬ (op = 17 ∨ op = 18) → M = []
  seen : ∀ x ∈ L, snB x = true
  evs : ∀ x ∈ M, evB x = true
theorem bare_z {a : An} (h : bareB a = true) : a.sec = 0 ∧ (a.rid = 0 ∧ a.rx = 0 ∧ a.ry = 0 ∧ a.lab = 0) ∧ (a.b0 = 0 ∧ a.b1 = 0 ∧ a.b2 = 0 ∧ a.b3 = 0) ∧ a.sn = 0 ∧ a.en = 0 := by
  simp only [bareB, four, Bool.and_eq_true, decide_eq_true_eq] at h
  exact ⟨h.1, h.2.1, h.2.2.1, h.2.2.2.1, h.2.2.2.2⟩
theorem fine {w : World} {op m : Int} {a : An} {L : List Snt} {M : List Evt} (h : AnR w a L M) (hma : mayB op m a L M = true) : Fine op a L M := by
  have hsl := h.sl
  have hel := h.el
  unfold mayB at hma
  simp only [Bool.and_eq_true] at hma
  have hwi : 0 ≤ a.st ∧ a.st ≤ 12 := within_iff.1 hma.2.2.1
  have hr := hma.2.2.2
  unfold restB at hr
  by_cases hst : a.st = 0
  · rw [if_pos hst] at hr
    simp only [Bool.and_eq_true] at hr
    obtain ⟨hh, hb⟩ := hr
    unfold holdsB at hh
    unfold outA at hb
    by_cases h4 : op = 4 ∨ op = 5
    · rw [if_pos h4] at hb
      have z := bare_z hb
      simp only at z
      obtain ⟨_, ⟨z2, z3, z4, z5⟩, ⟨z6, z7, z8, z9⟩, z10, z11⟩ := z
      have hL : L = [] := List.eq_nil_of_length_eq_zero (by omega)
      have hM : M = [] := List.eq_nil_of_length_eq_zero (by omega)
      subst hL; subst hM
      exact ⟨hwi, z2, fun h9 => absurd h4 h9, fun _ => ⟨z3, z4, z5⟩, by omega, fun _ => ⟨z6, z7, z8, z9⟩, by omega, fun _ => rfl, fun _ => rfl, fun x hx => by simp at hx, fun x hx => by simp at hx⟩
    · rw [if_neg h4] at hb
      by_cases h12 : op = 12
      · rw [if_pos h12] at hb hh
        have z := bare_z hb
        simp only at z
        obtain ⟨z1, _, ⟨z6, z7, z8, z9⟩, z10, z11⟩ := z
        simp only [Bool.and_eq_true, fitsB_iff, within_iff, decide_eq_true_eq] at hh
        obtain ⟨r0, r1, r2⟩ := hh
        have hL : L = [] := List.eq_nil_of_length_eq_zero (by omega)
        have hM : M = [] := List.eq_nil_of_length_eq_zero (by omega)
        subst hL; subst hM
        exact ⟨hwi, r0, fun _ => z1, fun h9 => absurd h12 h9, by omega, fun _ => ⟨z6, z7, z8, z9⟩, by omega, fun _ => rfl, fun _ => rfl, fun x hx => by simp at hx, fun x hx => by simp at hx⟩
      · rw [if_neg h12] at hb hh
        by_cases h10 : op = 10
        · rw [if_pos h10] at hb hh
          have z := bare_z hb
          simp only at z
          obtain ⟨z1, ⟨z2, z3, z4, z5⟩, _, z10, z11⟩ := z
          rw [rightB_iff] at hh
          have hL : L = [] := List.eq_nil_of_length_eq_zero (by omega)
          have hM : M = [] := List.eq_nil_of_length_eq_zero (by omega)
          subst hL; subst hM
          exact ⟨hwi, z2, fun _ => z1, fun _ => ⟨z3, z4, z5⟩, by omega, fun h9 => absurd h10 h9, by omega, fun _ => rfl, fun _ => rfl, fun x hx => by simp at hx, fun x hx => by simp at hx⟩
        · rw [if_neg h10] at hb hh
          by_cases hs : op = 13 ∨ op = 14 ∨ op = 15 ∨ op = 16
          · rw [if_pos hs] at hb hh
            have z := bare_z hb
            simp only at z
            obtain ⟨z1, ⟨z2, z3, z4, z5⟩, ⟨z6, z7, z8, z9⟩, _, z11⟩ := z
            simp only [Bool.and_eq_true, List.all_eq_true] at hh
            have hM : M = [] := List.eq_nil_of_length_eq_zero (by omega)
            subst hM
            exact ⟨hwi, z2, fun _ => z1, fun _ => ⟨z3, z4, z5⟩, by omega, fun _ => ⟨z6, z7, z8, z9⟩, by omega, fun h9 => absurd hs h9, fun _ => rfl, hh.2, fun x hx => by simp at hx⟩
          · rw [if_neg hs] at hb hh
            by_cases he : op = 17 ∨ op = 18
            · rw [if_pos he] at hb hh
              have z := bare_z hb
              simp only at z
              obtain ⟨z1, ⟨z2, z3, z4, z5⟩, ⟨z6, z7, z8, z9⟩, z10, _⟩ := z
              simp only [Bool.and_eq_true, List.all_eq_true] at hh
              have hL : L = [] := List.eq_nil_of_length_eq_zero (by omega)
              subst hL
              exact ⟨hwi, z2, fun _ => z1, fun _ => ⟨z3, z4, z5⟩, by omega, fun _ => ⟨z6, z7, z8, z9⟩, by omega, fun _ => rfl, fun h9 => absurd he h9, fun x hx => by simp at hx, hh.2⟩
            · rw [if_neg he] at hb
              obtain ⟨z1, ⟨z2, z3, z4, z5⟩, ⟨z6, z7, z8, z9⟩, z10, z11⟩ := bare_z hb
              have hL : L = [] := List.eq_nil_of_length_eq_zero (by omega)
              have hM : M = [] := List.eq_nil_of_length_eq_zero (by omega)
              subst hL; subst hM
              exact ⟨hwi, z2, fun _ => z1, fun _ => ⟨z3, z4, z5⟩, by omega, fun _ => ⟨z6, z7, z8, z9⟩, by omega, fun _ => rfl, fun _ => rfl, fun x hx => by simp at hx, fun x hx => by simp at hx⟩
  · rw [if_neg hst] at hr
    obtain ⟨z1, ⟨z2, z3, z4, z5⟩, ⟨z6, z7, z8, z9⟩, z10, z11⟩ := bare_z hr
    have hL : L = [] := List.eq_nil_of_length_eq_zero (by omega)
    have hM : M = [] := List.eq_nil_of_length_eq_zero (by omega)
    subst hL; subst hM
    exact ⟨hwi, z2, fun _ => z1, fun _ => ⟨z3, z4, z5⟩, by omega, fun _ => ⟨z6, z7, z8, z9⟩, by omega, fun _ => rfl, fun _ => rfl, fun x hx => by simp at hx, fun x hx => by simp at hx⟩
def midF (op : Int) (a : An) : Bs := if op = 4 ∨ op = 5 then be 8 a.sec else if op = 12 then be 2 (toU a.rx) ++ (be 2 (toU a.ry) ++ be 1 (toU a.lab)) else if op = 10 then rectE a.b0 a.b1 a.b2 a.b3 else []
theorem wr_form {w : World} {op m : Int} {a : An} {L : List Snt} {M : List Evt} (h : AnR w a L M) (hma : mayB op m a L M = true) (hs : a.sec ≤ 18446744073709551615) : wrW op a L M = headE op a ++ (midF op a ++ (L.flatMap seenE ++ M.flatMap evtE)) := by
  obtain ⟨q1, q2, q3, q4, q5, q6, q7⟩ := may_few h hma
  have F := fine h hma
  have hsl := h.sl
  have hel := h.el
  have f1 := F.fldB
  have f2 := F.boxB
  unfold wrW
  rw [head_be q1 q2 F.st.1 F.st.2 (by omega), flat_congr fun x hx => seen_be (F.seen x hx), flat_congr fun x hx => evt_be (F.evs x hx)]
  congr 2
  unfold midW midF
  by_cases h4 : op = 4 ∨ op = 5
  · rw [if_pos h4, if_pos h4]
    simp only [rowU, List.flatMap_cons, List.flatMap_nil, List.append_nil, putL]
    rw [if_pos (by omega)]
  · rw [if_neg h4, if_neg h4]
    by_cases h12 : op = 12
    · rw [if_pos h12, if_pos h12, rowB2, rowB1, put_be (b := 65535) (by decide) (by omega) (by omega), put_be (b := 65535) (by decide) (by omega) (by omega), put_be (b := 255) (by decide) (by omega) (by omega), List.append_assoc]
    · rw [if_neg h12, if_neg h12]
      by_cases h10 : op = 10
      · rw [if_pos h10, if_pos h10, rowB4, put_be (b := 65535) (by decide) (by omega) (by omega), put_be (b := 65535) (by decide) (by omega) (by omega), put_be (b := 65535) (by decide) (by omega) (by omega), put_be (b := 65535) (by decide) (by omega) (by omega)]
        rfl
      · rw [if_neg h10, if_neg h10]
theorem head_e {op : Int} {a : An} (h1 : 1 ≤ op) (h2 : op ≤ 19) (h3 : 0 ≤ a.st ∧ a.st ≤ 12) (h5 : a.sn + a.en ≤ 128) : headE op a = be 1 (toU a.st) ++ (be 1 (toU op) ++ be 1 (toU ((a.sn + a.en : Nat) : Int))) := by
  rw [be1 h3.1 (by omega), be1 (by omega) (by omega), be1 (by omega) (by omega)]
  rfl
/-- What is read of what was written. -/
theorem back_all {w : World} {op m : Int} {a : An} {L : List Snt} {M : List Evt} (h : AnR w a L M) (hma : mayB op m a L M = true) (hs : a.sec ≤ 18446744073709551615) :
    (∀ sA sc eA ec, anR op (encW op m a L M) sA a.sn sc eA a.en ec = reA a sA sc eA ec) ∧ seensR op (encW op m a L M) = L ∧ evtsR op (encW op m a L M) = M ∧ itemsR (encW op m a L M) = a.sn + a.en := by
  obtain ⟨q1, q2, q3, q4, q5, q6, q7⟩ := may_few h hma
  have F := fine h hma
  have hsl := h.sl
  have hel := h.el
  have f0 := F.st
  have f1 := F.fldB
  have f2 := F.boxB
  obtain ⟨Z, hZ⟩ : ∃ Z, Z = List.replicate ((lenN op m).toNat - (wrW op a L M).length) (0 : UInt8) := ⟨_, rfl⟩
  have hR : encW op m a L M = headE op a ++ (midF op a ++ (L.flatMap seenE ++ (M.flatMap evtE ++ Z))) := by
    unfold encW; rw [← hZ, wr_form h hma hs]; simp only [List.append_assoc]
  have hH : (headE op a).length = 3 := rfl
  have he := head_e (a := a) q1 q2 F.st (by omega)
  generalize encW op m a L M = R at *
  have L1 : ∀ n, (be 1 n).length = 1 := fun n => be_length 1 n
  have L2 : ∀ n, (be 2 n).length = 2 := fun n => be_length 2 n
  have g0 : gI R 0 1 = a.st := by
    have := gI_at (P := []) (Q := be 1 (toU op) ++ (be 1 (toU ((a.sn + a.en : Nat) : Int)) ++ (midF op a ++ (L.flatMap seenE ++ (M.flatMap evtE ++ Z))))) (x := a.st) (a := 0) (k := 1) (b := 255) rfl (by decide) (by decide) F.st.1 (by omega)
    rw [hR, he]; simpa only [List.nil_append, List.append_assoc] using this
  have g2 : gI R 2 1 = ((a.sn + a.en : Nat) : Int) := by
    have := gI_at (P := be 1 (toU a.st) ++ be 1 (toU op)) (Q := midF op a ++ (L.flatMap seenE ++ (M.flatMap evtE ++ Z))) (x := ((a.sn + a.en : Nat) : Int)) (a := 2) (k := 1) (b := 255) (by simp [L1]) (by decide) (by decide) (by omega) (by omega)
    rw [hR, he]; simpa only [List.append_assoc] using this
  have hit : itemsR R = a.sn + a.en := by unfold itemsR; rw [g2]; omega
  have hsR : seensR op R = L := by
    unfold seensR
    by_cases hs2 : op = 13 ∨ op = 14 ∨ op = 15 ∨ op = 16
    · have hM := F.en (by omega)
      subst hM
      have hmf : midF op a = [] := by unfold midF; rw [if_neg (by omega), if_neg (by omega), if_neg (by omega)]
      rw [if_pos hs2, hit, show a.sn + a.en = L.length by simp at hel; omega]
      exact seens_back (H := headE op a) (Q := ([] : List Evt).flatMap evtE ++ Z) (by rw [hR, hmf, List.nil_append]) hH F.seen
    · rw [if_neg hs2, F.sn hs2]
  have heR : evtsR op R = M := by
    unfold evtsR
    by_cases he2 : op = 17 ∨ op = 18
    · have hL := F.sn (by omega)
      subst hL
      have hmf : midF op a = [] := by unfold midF; rw [if_neg (by omega), if_neg (by omega), if_neg (by omega)]
      rw [if_pos he2, hit, show a.sn + a.en = M.length by simp at hsl; omega]
      exact evts_back (H := headE op a) (Q := Z) (by rw [hR, hmf]; simp) hH F.evs
    · rw [if_neg he2, F.en he2]
  refine ⟨fun sA sc eA ec => ?_, hsR, heR, hit⟩
  obtain ⟨T, hT⟩ : ∃ T, T = L.flatMap seenE ++ (M.flatMap evtE ++ Z) := ⟨_, rfl⟩
  rw [← hT] at hR
  have c1 : (if op = 4 ∨ op = 5 then secR R else 0) = a.sec := by
    by_cases h4 : op = 4 ∨ op = 5
    · rw [if_pos h4]
      have hm : midF op a = be 8 a.sec := by unfold midF; rw [if_pos h4]
      unfold secR
      rw [hR, hm, List.drop_left' hH, List.take_left' (be_length _ _), getB_be 8 _ (by omega)]
    · rw [if_neg h4]; exact (F.sec h4).symm
  have c2 : (if op = 12 then gI R 3 2 else 0) = a.rx ∧ (if op = 12 then gI R 5 2 else 0) = a.ry ∧ (if op = 12 then gI R 7 1 else 0) = a.lab := by
    by_cases h12 : op = 12
    · have hm : midF op a = be 2 (toU a.rx) ++ (be 2 (toU a.ry) ++ be 1 (toU a.lab)) := by unfold midF; rw [if_neg (by omega), if_pos h12]
      rw [if_pos h12, if_pos h12, if_pos h12, hR, hm]
      refine ⟨?_, ?_, ?_⟩
      · have := gI_at (P := headE op a) (Q := be 2 (toU a.ry) ++ (be 1 (toU a.lab) ++ T)) (x := a.rx) (a := 3) (k := 2) (b := 65535) hH (by decide) (by decide) (by omega) (by omega)
        simpa only [List.append_assoc] using this
      · have := gI_at (P := headE op a ++ be 2 (toU a.rx)) (Q := be 1 (toU a.lab) ++ T) (x := a.ry) (a := 5) (k := 2) (b := 65535) (by simp [L2, hH]) (by decide) (by decide) (by omega) (by omega)
        simpa only [List.append_assoc] using this
      · have := gI_at (P := headE op a ++ (be 2 (toU a.rx) ++ be 2 (toU a.ry))) (Q := T) (x := a.lab) (a := 7) (k := 1) (b := 255) (by simp [L2, hH]) (by decide) (by decide) (by omega) (by omega)
        simpa only [List.append_assoc] using this
    · obtain ⟨r1, r2, r3⟩ := F.fld h12
      rw [if_neg h12, if_neg h12, if_neg h12]
      exact ⟨r1.symm, r2.symm, r3.symm⟩
  have c3 : (if op = 10 then gI R 3 2 else 0) = a.b0 ∧ (if op = 10 then gI R 5 2 else 0) = a.b1 ∧ (if op = 10 then gI R 7 2 else 0) = a.b2 ∧ (if op = 10 then gI R 9 2 else 0) = a.b3 := by
    by_cases h10 : op = 10
    · have hm : midF op a = rectE a.b0 a.b1 a.b2 a.b3 := by unfold midF; rw [if_neg (by omega), if_neg (by omega), if_pos h10]
      rw [if_pos h10, if_pos h10, if_pos h10, if_pos h10, hR, hm]
      unfold rectE
      refine ⟨?_, ?_, ?_, ?_⟩
      · have := gI_at (P := headE op a) (Q := be 2 (toU a.b1) ++ (be 2 (toU a.b2) ++ (be 2 (toU a.b3) ++ T))) (x := a.b0) (a := 3) (k := 2) (b := 65535) hH (by decide) (by decide) (by omega) (by omega)
        simpa only [List.append_assoc] using this
      · have := gI_at (P := headE op a ++ be 2 (toU a.b0)) (Q := be 2 (toU a.b2) ++ (be 2 (toU a.b3) ++ T)) (x := a.b1) (a := 5) (k := 2) (b := 65535) (by simp [L2, hH]) (by decide) (by decide) (by omega) (by omega)
        simpa only [List.append_assoc] using this
      · have := gI_at (P := headE op a ++ (be 2 (toU a.b0) ++ be 2 (toU a.b1))) (Q := be 2 (toU a.b3) ++ T) (x := a.b2) (a := 7) (k := 2) (b := 65535) (by simp [L2, hH]) (by decide) (by decide) (by omega) (by omega)
        simpa only [List.append_assoc] using this
      · have := gI_at (P := headE op a ++ (be 2 (toU a.b0) ++ (be 2 (toU a.b1) ++ be 2 (toU a.b2)))) (Q := T) (x := a.b3) (a := 9) (k := 2) (b := 65535) (by simp [L2, hH]) (by decide) (by decide) (by omega) (by omega)
        simpa only [List.append_assoc] using this
    · obtain ⟨r1, r2, r3, r4⟩ := F.box h10
      rw [if_neg h10, if_neg h10, if_neg h10, if_neg h10]
      exact ⟨r1.symm, r2.symm, r3.symm, r4.symm⟩
  unfold anR reA
  rw [g0, c1, c2.1, c2.2.1, c2.2.2, c3.1, c3.2.1, c3.2.2.1, c3.2.2.2, F.rid]
end
end Go.Proofs.Ytmapcdmegkfheaa
