/- lex: places rise; tokens stand at their places: the pure side. -/
import Derived.Test.YtileecbccmfpdaaGreatDoorLrTrip
import Derived.Test.YtileecbccmfpdaaGreatDoorLrSame
namespace Go.Proofs.YtileecbccmfpdaaGreatDoor
set_option linter.unusedVariables false
set_option linter.unusedSimpArgs false
open Go.RowKit
def plLt (p q : Pl) : Prop := p.1 < q.1 ∨ (p.1 = q.1 ∧ p.2 < q.2)
theorem adv_lt (p : Pl) (c : UInt8) : plLt p (adv p c) := by
  by_cases h : c.toNat = 10 <;> simp [adv, plLt, h] <;> omega
theorem plLt_trans {p q r : Pl} (h1 : plLt p q) (h2 : plLt q r) : plLt p r := by
  unfold plLt at *
  omega
theorem advs_lt : ∀ (l : Bs) (p : Pl), l ≠ [] → plLt p (advs p l) := by
  intro l
  induction l with
  | nil => intro p h; exact absurd rfl h
  | cons c l ih =>
    intro p _
    have h1 := adv_lt p c
    cases l with
    | nil => exact h1
    | cons d l => exact plLt_trans h1 (ih (adv p c) (by simp))
theorem pl_inj (l : Bs) {j k : Nat} (hj : j < k) (hk : k ≤ l.length) : advs (1, 1) (l.take j) ≠ advs (1, 1) (l.take k) := by
  obtain ⟨d, rfl⟩ : ∃ d, k = j + d := ⟨k - j, by omega⟩
  rw [List.take_add, advs_app]
  have hne : (l.drop j).take d ≠ [] := by
    intro e
    have := congrArg List.length e
    rw [List.length_take, List.length_drop] at this
    simp only [List.length_nil] at this
    omega
  have := advs_lt ((l.drop j).take d) (advs (1, 1) (l.take j)) hne
  intro e
  rw [← e] at this
  unfold plLt at this
  omega
theorem skp_drop : ∀ (l : Bs) (b : Bool) (p : Pl), ∃ m, m ≤ l.length ∧ skp b l p = (l.drop m, advs p (l.take m)) := by
  intro l
  induction l with
  | nil => intro b p; exact ⟨0, Nat.le_refl _, rfl⟩
  | cons c l ih =>
    intro b p
    rw [skp]
    split
    · obtain ⟨m, hm, e⟩ := ih ((b || c.toNat == 35) && !(c.toNat == 10)) (adv p c)
      exact ⟨m + 1, by simpa using hm, by rw [e]; rfl⟩
    · exact ⟨0, Nat.zero_le _, rfl⟩
/-- The tokens stand in the text, from a byte on. -/
def St (T : Bs) : Nat → List Tk → Prop
  | _, [] => True
  | k, x :: L => ∃ o, k ≤ o ∧ o + x.t.length ≤ T.length ∧ 0 < x.t.length ∧ (T.drop o).take x.t.length = x.t ∧ x.p = advs (1, 1) (T.take o) ∧ St T (o + x.t.length) L
theorem St.less {T : Bs} {L : List Tk} {j k : Nat} (h : St T k L) (hjk : j ≤ k) : St T j L := by
  cases L with
  | nil => trivial
  | cons x L =>
    obtain ⟨o, h1, h2⟩ := h
    exact ⟨o, by omega, h2⟩
theorem tz_st (T : Bs) (n : Nat) : ∀ (k : Nat), k ≤ T.length → (tz n (T.drop k) (advs (1, 1) (T.take k))).2 = none → St T k (tz n (T.drop k) (advs (1, 1) (T.take k))).1 := by
  induction n with
  | zero => intro k _ _; simp [tz, St]
  | succ n ih =>
    intro k hk
    by_cases hl : T.drop k = []
    · rw [hl, tz_nil]; intro _; trivial
    · by_cases he : tkE (T.drop k) = 0
      · rw [tz_ok hl he]
        have hA := tkA_pos he hl
        have hT := tkA_take (T.drop k)
        rw [tkT_A he]
        have hlen := List.length_drop (i := k) (l := T)
        generalize tkA (T.drop k) = A at *
        obtain ⟨m, hm, e⟩ := skp_drop ((T.drop k).drop A.length) false (advs (advs (1, 1) (T.take k)) A)
        rw [List.length_drop] at hm
        have e1 : ((T.drop k).drop A.length).drop m = T.drop (k + A.length + m) := by
          rw [List.drop_drop, List.drop_drop, Nat.add_assoc]
        have e2 : advs (advs (advs (1, 1) (T.take k)) A) (((T.drop k).drop A.length).take m) = advs (1, 1) (T.take (k + A.length + m)) := by
          rw [List.take_add, advs_app, List.take_add, advs_app, hT, List.drop_drop]
        rw [e, e1, e2]
        have hi := ih (k + A.length + m) (by omega)
        intro h
        unfold app at h ⊢
        cases hr : (tz n (T.drop (k + A.length + m)) (advs (1, 1) (T.take (k + A.length + m)))).2 with
        | some f => rw [hr] at h; cases h
        | none =>
          refine ⟨k, Nat.le_refl _, ?_, hA.1, hT, rfl, (hi hr).less (Nat.le_add_right _ _)⟩
          show k + A.length ≤ T.length
          omega
      · rw [tz_err hl (by omega) he]; intro h; cases h
theorem toks_st (T : Bs) (h : (toks T).2 = none) : St T 0 (toks T).1 := by
  unfold toks at h ⊢
  split
  · rename_i hc
    rw [if_pos hc] at h; cases h
  · rename_i hc
    rw [if_neg hc] at h
    obtain ⟨m, hm, e⟩ := skp_drop T false (1, 1)
    rw [e] at h ⊢
    exact (tz_st T _ m hm h).less (Nat.zero_le _)
theorem St.next {T : Bs} {L : List Tk} {k j : Nat} {x : Tk} (h : St T k (L.drop j)) (hx : L[j]? = some x) : ∃ o, k ≤ o ∧ o + x.t.length ≤ T.length ∧ 0 < x.t.length ∧ (T.drop o).take x.t.length = x.t ∧ x.p = advs (1, 1) (T.take o) ∧ St T (o + x.t.length) (L.drop (j + 1)) := by
  have hlt : j < L.length := (List.getElem?_eq_some_iff.1 hx).1
  rw [List.drop_eq_getElem_cons hlt] at h
  have e : L[j] = x := (List.getElem?_eq_some_iff.1 hx).2
  rw [e] at h
  exact h
theorem bs_cut (T : Bs) (o n : Nat) : (bs T).extract o (o + n) = bs ((T.drop o).take n) := by
  apply ByteArray.ext
  simp [bs, ByteArray.data_extract]
end Go.Proofs.YtileecbccmfpdaaGreatDoor
