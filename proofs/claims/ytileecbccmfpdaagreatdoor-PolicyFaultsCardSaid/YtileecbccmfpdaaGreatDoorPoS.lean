/- policy: what is left is an end of what there was; so a fault has a place of the text. -/
import Derived.Test.YtileecbccmfpdaaGreatDoorPo6
import Derived.Test.YtileecbccmfpdaaGreatDoorLrPlace
namespace Go.Proofs.YtileecbccmfpdaaGreatDoor
set_option linter.unusedVariables false
set_option linter.unusedSimpArgs false
open Go.RowKit
theorem takesL_suf (s : Bs) (L : List Tk) : takesL s L <:+ L := by
  unfold takesL; split
  · exact List.tail_suffix L
  · exact List.suffix_rfl
theorem kindL_suf (k : Int) (L : List Tk) : kindL k L <:+ L := by
  unfold kindL; split
  · exact List.tail_suffix L
  · exact List.suffix_rfl
theorem whoW_suf (L : List Tk) (w : Wh) : (whoW L w).2.1 <:+ L := by
  unfold whoW
  split
  · exact List.tail_suffix L
  · split
    · exact List.tail_suffix L
    · exact kindL_suf _ _
theorem whereW_suf (L : List Tk) (w : Wh) : (whereW L w).2.1 <:+ L := by
  unfold whereW
  split
  · exact List.tail_suffix L
  · exact kindL_suf _ _
theorem tiersM_suf (q : PS) : (tiersM q).2.1 <:+ q.1 := by
  unfold tiersM
  split
  · exact List.tail_suffix _
  · split
    · split
      · exact (kindL_suf _ _).trans ((List.tail_suffix _).trans (List.tail_suffix _))
      · exact List.tail_suffix _
    · exact List.suffix_rfl
theorem fourL_suf (L : List Tk) : fourL L <:+ L := by
  unfold fourL
  split
  · split
    · split
      · exact (kindL_suf _ _).trans ((List.tail_suffix _).trans ((List.tail_suffix _).trans (List.tail_suffix _)))
      · exact (List.tail_suffix _).trans (List.tail_suffix _)
    · exact List.tail_suffix _
  · exact List.suffix_rfl
theorem boxesF_suf : ∀ n L a, (boxesF n L a).2.1 <:+ L := by
  intro n
  induction n with
  | zero => intro L a; exact List.suffix_rfl
  | succ n ih =>
    intro L a
    have h1 := fourL_suf L
    unfold boxesF
    split
    · split
      · exact (ih _ _).trans ((List.tail_suffix _).trans h1)
      · exact h1
    · exact h1
theorem andM_suf {f g : PM} (hf : ∀ q, (f q).2.1 <:+ q.1) (hg : ∀ q, (g q).2.1 <:+ q.1) (q : PS) : (andM f g q).2.1 <:+ q.1 := by
  unfold andM
  split
  · exact (hg _).trans (hf _)
  · exact hf _
theorem takesM_suf (s : Bs) (q : PS) : (takesM s q).2.1 <:+ q.1 := takesL_suf s q.1
theorem afterM_suf (s : Bs) {g : PM} (hg : ∀ q, (g q).2.1 <:+ q.1) (q : PS) : (afterM s g q).2.1 <:+ q.1 := andM_suf (takesM_suf s) hg q
theorem bodyM_suf (q : PS) : (bodyM q).2.1 <:+ q.1 := by
  have hN : ∀ q, (nmM q).2.1 <:+ q.1 := fun q => kindL_suf _ _
  have hV : ∀ q, (valM q).2.1 <:+ q.1 := fun q => kindL_suf _ _
  have hZ : ∀ q, (zoomM q).2.1 <:+ q.1 := fun q => kindL_suf _ _
  have hB : ∀ q, (boxesM q).2.1 <:+ q.1 := fun q => boxesF_suf _ _ _
  have hR : ∀ q, (roleM q).2.1 <:+ q.1 := fun q => whoW_suf _ _
  have hL : ∀ q, (labelM q).2.1 <:+ q.1 := fun q => whoW_suf _ _
  have hW : ∀ q, (whereM q).2.1 <:+ q.1 := fun q => whereW_suf _ _
  unfold bodyM
  split
  · exact andM_suf hN (afterM_suf _ hV) q
  · split
    · exact andM_suf hN (afterM_suf _ hB) q
    · split
      · exact andM_suf (afterM_suf _ hR) (andM_suf (afterM_suf _ tiersM_suf) (andM_suf (afterM_suf _ hL) (andM_suf (afterM_suf _ hW) (afterM_suf _ hZ)))) q
      · split
        · exact afterM_suf _ hR q
        · exact List.suffix_rfl
theorem headM_suf (q : PS) : (headM q).2.1 <:+ q.1 := by
  unfold headM
  split
  · exact List.tail_suffix _
  · exact List.suffix_rfl
theorem oneM_suf (q : PS) : (oneM q).2.1 <:+ q.1 := andM_suf headM_suf (andM_suf bodyM_suf (takesM_suf mEnd)) q
theorem allF_suf : ∀ n L a, (allF n L a).2.1 <:+ L := by
  intro n
  induction n with
  | zero => intro L a; exact List.suffix_rfl
  | succ n ih =>
    intro L a
    cases L with
    | nil => exact List.suffix_rfl
    | cons x L =>
      unfold allF
      split
      · exact (ih _ _).trans (oneM_suf _)
      · exact oneM_suf _
theorem allP_suf (L : List Tk) : (allP L).2.1 <:+ L := allF_suf _ _ _
theorem St.mem {T : Bs} : ∀ {L : List Tk} {k : Nat} {x : Tk}, St T k L → x ∈ L → ∃ o, o ≤ T.length ∧ x.p = advs (1, 1) (T.take o)
  | [], _, _, _, hx => absurd hx (by simp)
  | y :: L, k, x, h, hx => by
    obtain ⟨o, h1, h2, h3, h4, h5, h6⟩ := h
    rcases List.mem_cons.1 hx with rfl | hx
    · exact ⟨o, by omega, h5⟩
    · exact St.mem h6 hx
theorem tz_fl (T : Bs) (n : Nat) : ∀ (k : Nat), k ≤ T.length → ∀ f, (tz n (T.drop k) (advs (1, 1) (T.take k))).2 = some f → ∃ o, o ≤ T.length ∧ f.2 = advs (1, 1) (T.take o) := by
  induction n with
  | zero => intro k _ f hf; simp [tz] at hf
  | succ n ih =>
    intro k hk f
    by_cases hl : T.drop k = []
    · rw [hl, tz_nil]; intro h; cases h
    · by_cases he : tkE (T.drop k) = 0
      · rw [tz_ok hl he]
        have hA := tkA_pos he hl
        have hT := tkA_take (T.drop k)
        have hlen := List.length_drop (i := k) (l := T)
        generalize tkA (T.drop k) = A at *
        obtain ⟨m, hm, e⟩ := skp_drop ((T.drop k).drop A.length) false (advs (advs (1, 1) (T.take k)) A)
        rw [List.length_drop] at hm
        have e1 : ((T.drop k).drop A.length).drop m = T.drop (k + A.length + m) := by
          rw [List.drop_drop, List.drop_drop, Nat.add_assoc]
        have e2 : advs (advs (advs (1, 1) (T.take k)) A) (((T.drop k).drop A.length).take m) = advs (1, 1) (T.take (k + A.length + m)) := by
          rw [List.take_add, advs_app, List.take_add, advs_app, hT, List.drop_drop]
        rw [e, e1, e2]
        have hi := ih (k + A.length + m) (by omega)
        intro h
        unfold app at h
        cases hr : (tz n (T.drop (k + A.length + m)) (advs (1, 1) (T.take (k + A.length + m)))).2 with
        | some f' => rw [hr] at h; exact hi f (hr.trans h)
        | none => rw [hr] at h; cases h
      · rw [tz_err hl (by omega) he]
        intro h
        cases h
        exact ⟨k, hk, rfl⟩
theorem toks_fl (T : Bs) (f : Int × Pl) (h : (toks T).2 = some f) : ∃ o, o ≤ T.length ∧ f.2 = advs (1, 1) (T.take o) := by
  unfold toks at h
  split at h
  · cases h; exact ⟨0, Nat.zero_le _, rfl⟩
  · obtain ⟨m, hm, e⟩ := skp_drop T false (1, 1)
    rw [e] at h
    exact tz_fl T _ m hm f h
/-- A fault has a place of the text, or stands at its end. -/
theorem parse_place (l : Bs) (f : Int × Pl) (h : (parseP l).2 = some f) : ∃ o, o ≤ l.length ∧ f.2 = advs (1, 1) (l.take o) := by
  unfold parseP at h
  cases hT : (toks l).2 with
  | some g =>
    rw [hT] at h
    cases h
    exact toks_fl l f hT
  | none =>
    rw [hT] at h
    simp only at h
    split at h
    · cases h
    · cases h
      have hs := toks_st l hT
      have hf := allP_suf (toks l).1
      cases hc : (allP (toks l).1).2.1 with
      | nil => exact ⟨l.length, Nat.le_refl _, by simp [pPlace]⟩
      | cons x L =>
        rw [hc] at hf
        exact hs.mem (hf.subset (List.mem_cons_self ..))
end Go.Proofs.YtileecbccmfpdaaGreatDoor
