/- reply: what is written is read as it was: the pure side. -/
import Derived.Test.YtmapcdmegkfheaaRe21
import Derived.Test.YtmapcdmegkfheaaRe24
namespace Go.Proofs.Ytmapcdmegkfheaa
set_option linter.unusedVariables false
set_option linter.unusedSimpArgs false
open Go.RowKit
/-- The same but for where its rows lie. -/
def reA (a : An) (sA : Option Addr) (sc : Nat) (eA : Option Addr) (ec : Nat) : An := { a with sA := sA, sc := sc, eA := eA, ec := ec }
theorem may_re (op m : Int) (a : An) (L : List Snt) (M : List Evt) (sA : Option Addr) (sc : Nat) (eA : Option Addr) (ec : Nat) : mayB op m (reA a sA sc eA ec) L M = mayB op m a L M := by
  by_cases h4 : op = 4 ∨ op = 5
  · rcases h4 with rfl | rfl <;> rfl
  · by_cases h12 : op = 12
    · subst h12; rfl
    · by_cases h10 : op = 10
      · subst h10; rfl
      · by_cases hs : op = 13 ∨ op = 14 ∨ op = 15 ∨ op = 16
        · rcases hs with rfl | rfl | rfl | rfl <;> rfl
        · by_cases he : op = 17 ∨ op = 18
          · rcases he with rfl | rfl <;> rfl
          · unfold mayB restB holdsB outA reA bareB
            simp only [h4, h12, h10, hs, he, if_false]
theorem enc_re (op m : Int) (a : An) (L : List Snt) (M : List Evt) (sA : Option Addr) (sc : Nat) (eA : Option Addr) (ec : Nat) : encW op m (reA a sA sc eA ec) L M = encW op m a L M := rfl
/-- A number's bytes, read. -/
theorem getB_be (k n : Nat) (h : n < 256 ^ k) : getB (be k n) = n := by
  induction k generalizing n with
  | zero =>
    have : n = 0 := by simpa using h
    subst this; rfl
  | succ k ih =>
    rw [be_last, getB_snoc, ih (n / 256) (by rw [Nat.pow_succ] at h; exact Nat.div_lt_of_lt_mul (by omega))]
    have : (UInt8.ofNat (n % 256)).toNat = n % 256 := by simp [UInt8.toNat_ofNat]
    rw [this]; omega
theorem gI_at {P Q : Bs} {x : Int} {a k b : Nat} (ha : P.length = a) (hb : b < 256 ^ k) (hb2 : b ≤ 4294967295) (h0 : 0 ≤ x) (h1 : x ≤ (b : Int)) : gI (P ++ (be k (toU x) ++ Q)) a k = x := by
  subst ha
  have e : toU x = x.toNat := by unfold toU; omega
  have e2 : ((P ++ (be k (toU x) ++ Q)).drop P.length).take k = be k (toU x) := by
    rw [List.drop_left, List.take_left' (be_length _ _)]
  unfold gI
  rw [e2, getB_be k _ (by omega), e]
  omega
theorem gI_drop (R : Bs) (a b k : Nat) : gI R (a + b) k = gI (R.drop a) b k := by unfold gI; rw [List.drop_drop]
theorem snt_at {x : Snt} {Q : Bs} (h : snB x = true) : (⟨gI (seenE x ++ Q) 0 2, gI (seenE x ++ Q) 2 1, gI (seenE x ++ Q) 3 2, gI (seenE x ++ Q) 5 2, gI (seenE x ++ Q) 7 2, gI (seenE x ++ Q) 9 2⟩ : Snt) = x := by
  unfold snB at h
  simp only [Bool.and_eq_true, within_iff, rightB_iff] at h
  obtain ⟨h1, h2, h3⟩ := h
  obtain ⟨id, lev, b0, b1, b2, b3⟩ := x
  simp only at h1 h2 h3
  have L2 : ∀ n, (be 2 n).length = 2 := fun n => be_length 2 n
  have L1 : ∀ n, (be 1 n).length = 1 := fun n => be_length 1 n
  have e0 : gI (seenE ⟨id, lev, b0, b1, b2, b3⟩ ++ Q) 0 2 = id := by
    have := gI_at (P := []) (Q := be 1 (toU lev) ++ rectE b0 b1 b2 b3 ++ Q) (x := id) (a := 0) (k := 2) (b := 65535) rfl (by decide) (by decide) (by omega) (by omega)
    simpa [seenE, List.append_assoc] using this
  have e1 : gI (seenE ⟨id, lev, b0, b1, b2, b3⟩ ++ Q) 2 1 = lev := by
    have := gI_at (P := be 2 (toU id)) (Q := rectE b0 b1 b2 b3 ++ Q) (x := lev) (a := 2) (k := 1) (b := 255) (L2 _) (by decide) (by decide) (by omega) (by omega)
    simpa [seenE, List.append_assoc] using this
  have e2 : gI (seenE ⟨id, lev, b0, b1, b2, b3⟩ ++ Q) 3 2 = b0 := by
    have := gI_at (P := be 2 (toU id) ++ be 1 (toU lev)) (Q := be 2 (toU b1) ++ (be 2 (toU b2) ++ (be 2 (toU b3) ++ Q))) (x := b0) (a := 3) (k := 2) (b := 65535) (by simp [L2, L1]) (by decide) (by decide) (by omega) (by omega)
    simpa [seenE, rectE, List.append_assoc] using this
  have e3 : gI (seenE ⟨id, lev, b0, b1, b2, b3⟩ ++ Q) 5 2 = b1 := by
    have := gI_at (P := be 2 (toU id) ++ (be 1 (toU lev) ++ be 2 (toU b0))) (Q := be 2 (toU b2) ++ (be 2 (toU b3) ++ Q)) (x := b1) (a := 5) (k := 2) (b := 65535) (by simp [L2, L1]) (by decide) (by decide) (by omega) (by omega)
    simpa [seenE, rectE, List.append_assoc] using this
  have e4 : gI (seenE ⟨id, lev, b0, b1, b2, b3⟩ ++ Q) 7 2 = b2 := by
    have := gI_at (P := be 2 (toU id) ++ (be 1 (toU lev) ++ (be 2 (toU b0) ++ be 2 (toU b1)))) (Q := be 2 (toU b3) ++ Q) (x := b2) (a := 7) (k := 2) (b := 65535) (by simp [L2, L1]) (by decide) (by decide) (by omega) (by omega)
    simpa [seenE, rectE, List.append_assoc] using this
  have e5 : gI (seenE ⟨id, lev, b0, b1, b2, b3⟩ ++ Q) 9 2 = b3 := by
    have := gI_at (P := be 2 (toU id) ++ (be 1 (toU lev) ++ (be 2 (toU b0) ++ (be 2 (toU b1) ++ be 2 (toU b2))))) (Q := Q) (x := b3) (a := 9) (k := 2) (b := 65535) (by simp [L2, L1]) (by decide) (by decide) (by omega) (by omega)
    simpa [seenE, rectE, List.append_assoc] using this
  rw [e0, e1, e2, e3, e4, e5]
theorem evt_at {x : Evt} {Q : Bs} (h : evB x = true) : (⟨gI (evtE x ++ Q) 0 2, gI (evtE x ++ Q) 2 1, gI (evtE x ++ Q) 3 1, gI (evtE x ++ Q) 4 4⟩ : Evt) = x := by
  unfold evB at h
  simp only [Bool.and_eq_true, within_iff] at h
  obtain ⟨h1, h2, h3, h4⟩ := h
  obtain ⟨u, o, s, t⟩ := x
  simp only at h1 h2 h3 h4
  have L2 : ∀ n, (be 2 n).length = 2 := fun n => be_length 2 n
  have L1 : ∀ n, (be 1 n).length = 1 := fun n => be_length 1 n
  have e0 : gI (evtE ⟨u, o, s, t⟩ ++ Q) 0 2 = u := by
    have := gI_at (P := []) (Q := be 1 (toU o) ++ (be 1 (toU s) ++ be 4 (toU t)) ++ Q) (x := u) (a := 0) (k := 2) (b := 65535) rfl (by decide) (by decide) (by omega) (by omega)
    simpa [evtE, List.append_assoc] using this
  have e1 : gI (evtE ⟨u, o, s, t⟩ ++ Q) 2 1 = o := by
    have := gI_at (P := be 2 (toU u)) (Q := be 1 (toU s) ++ (be 4 (toU t) ++ Q)) (x := o) (a := 2) (k := 1) (b := 255) (L2 _) (by decide) (by decide) (by omega) (by omega)
    simpa [evtE, List.append_assoc] using this
  have e2 : gI (evtE ⟨u, o, s, t⟩ ++ Q) 3 1 = s := by
    have := gI_at (P := be 2 (toU u) ++ be 1 (toU o)) (Q := be 4 (toU t) ++ Q) (x := s) (a := 3) (k := 1) (b := 255) (by simp [L2, L1]) (by decide) (by decide) (by omega) (by omega)
    simpa [evtE, List.append_assoc] using this
  have e3 : gI (evtE ⟨u, o, s, t⟩ ++ Q) 4 4 = t := by
    have := gI_at (P := be 2 (toU u) ++ (be 1 (toU o) ++ be 1 (toU s))) (Q := Q) (x := t) (a := 4) (k := 4) (b := 4294967295) (by simp [L2, L1]) (by decide) (by decide) (by omega) (by omega)
    simpa [evtE, List.append_assoc] using this
  rw [e0, e1, e2, e3]
theorem flat_drop {α : Type} (f : α → Bs) (n : Nat) (hf : ∀ x, (f x).length = n) (L : List α) (k : Nat) (hk : k < L.length) (Q : Bs) : ∃ Q', (L.flatMap f ++ Q).drop (n * k) = f L[k] ++ Q' := by
  induction L generalizing k with
  | nil => simp at hk
  | cons x L ih =>
    cases k with
    | zero => exact ⟨L.flatMap f ++ Q, by simp [List.append_assoc]⟩
    | succ k =>
      obtain ⟨Q', hq⟩ := ih k (by simpa using hk)
      refine ⟨Q', ?_⟩
      rw [List.flatMap_cons, List.append_assoc, Nat.mul_succ, Nat.add_comm, ← List.drop_drop]
      have : (f x ++ (L.flatMap f ++ Q)).drop n = L.flatMap f ++ Q := by rw [List.drop_left' (hf x)]
      rw [this, hq]; rfl
theorem seens_back {R H Q : Bs} {L : List Snt} (hR : R = H ++ (L.flatMap seenE ++ Q)) (hH : H.length = 3) (hL : ∀ x ∈ L, snB x = true) : (List.range L.length).map (sntR R) = L := by
  apply List.ext_getElem (by simp)
  intro k h1 h2
  rw [List.getElem_map, List.getElem_range]
  obtain ⟨Q', hq⟩ := flat_drop seenE 11 (fun x => by simp [seenE, be_length, rectE_len]) L k h2 Q
  have hd : R.drop (3 + 11 * k) = seenE L[k] ++ Q' := by
    rw [← List.drop_drop, hR, List.drop_left' hH, hq]
  have := snt_at (x := L[k]) (Q := Q') (hL _ (List.getElem_mem h2))
  rw [← hd] at this
  unfold sntR
  rw [gI_drop R (3 + 11 * k) 2, gI_drop R (3 + 11 * k) 3, gI_drop R (3 + 11 * k) 5, gI_drop R (3 + 11 * k) 7, gI_drop R (3 + 11 * k) 9]
  have h0 : gI R (3 + 11 * k) 2 = gI (R.drop (3 + 11 * k)) 0 2 := gI_drop R (3 + 11 * k) 0 2
  rw [h0]
  exact this
theorem evts_back {R H Q : Bs} {L : List Evt} (hR : R = H ++ (L.flatMap evtE ++ Q)) (hH : H.length = 3) (hL : ∀ x ∈ L, evB x = true) : (List.range L.length).map (evtR R) = L := by
  apply List.ext_getElem (by simp)
  intro k h1 h2
  rw [List.getElem_map, List.getElem_range]
  obtain ⟨Q', hq⟩ := flat_drop evtE 8 (fun x => by simp [evtE, be_length]) L k h2 Q
  have hd : R.drop (3 + 8 * k) = evtE L[k] ++ Q' := by
    rw [← List.drop_drop, hR, List.drop_left' hH, hq]
  have := evt_at (x := L[k]) (Q := Q') (hL _ (List.getElem_mem h2))
  rw [← hd] at this
  unfold evtR
  rw [gI_drop R (3 + 8 * k) 2, gI_drop R (3 + 8 * k) 3, gI_drop R (3 + 8 * k) 4]
  have h0 : gI R (3 + 8 * k) 2 = gI (R.drop (3 + 8 * k)) 0 2 := gI_drop R (3 + 8 * k) 0 2
  rw [h0]
  exact this
end Go.Proofs.Ytmapcdmegkfheaa
