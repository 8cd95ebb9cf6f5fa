/- token: plain theory: who is under whom is who goes. -/
import Derived.Test.YtmlmndaflgfdkaaTo16
import Derived.Test.YtmlmndaflgfdkaaTo20
namespace Go.Proofs.Ytmlmndaflgfdkaa
set_option linter.unusedVariables false
set_option linter.unusedSimpArgs false
/-- Is it of a ticket, or of one that it was made of (so many steps up)? -/
def upR (p : Tk → Bool) (L : List Tk) : Nat → Tk → Bool
  | 0, _ => false
  | f + 1, k => if p k = true then true else if rfB L k.par = true then upR p L f (rfG L k.par) else false
theorem unR_up (L : List Tk) (s : Nat) (f : Nat) (k : Tk) : unR L s f k = upR (fun k => decide (k.sec = s)) L f k := by
  induction f generalizing k with
  | zero => rfl
  | succ f ih => simp only [unR, upR, ih, decide_eq_true_eq]
theorem rfB_iff (L : List Tk) (s : Nat) : rfB L s = true ↔ s ≠ 0 ∧ s ∈ secs L := by rw [rfB, decide_eq_true_eq, fnd_mem]
theorem rfB_false (L : List Tk) (s : Nat) (h : rfB L s = false) : rfG L s = Tk.zero := by
  have h1 : ¬ 0 ≤ fnd (secs L) s := by intro h2; rw [rfB] at h; simp [h2] at h
  rw [rfG, if_pos (by omega)]
theorem rfG_get (L : List Tk) (s : Nat) (h : rfB L s = true) : ∃ i, ∃ hi : i < L.length, fnd (secs L) s = i ∧ rfG L s = L[i] ∧ L[i].sec = s := by
  have h1 : 0 ≤ fnd (secs L) s := by simpa [rfB] using h
  have h2 := fnd_lt (secs L) s
  rw [secs_length] at h2
  have hi : (fnd (secs L) s).toNat < L.length := by omega
  refine ⟨(fnd (secs L) s).toNat, hi, by omega, ?_, ?_⟩
  · rw [rfG, if_neg (by omega), List.getD_eq_getElem?_getD, List.getElem?_eq_getElem hi]; rfl
  · have h3 := fnd_at (secs L) s h1
    have h4 : (secs L)[(fnd (secs L) s).toNat]? = some L[(fnd (secs L) s).toNat].sec := by
      generalize (fnd (secs L) s).toNat = m at hi
      simp [secs, List.getElem?_eq_getElem hi]
    rw [h4] at h3
    exact Option.some.inj h3
theorem rf_snoc (L : List Tk) (q : Tk) (s : Nat) (h : rfB L s = true) : rfB (L ++ [q]) s = true ∧ rfG (L ++ [q]) s = rfG L s := by
  have h1 : 0 ≤ fnd (secs L) s := by simpa [rfB] using h
  have e : fnd (secs (L ++ [q])) s = fnd (secs L) s := by rw [secs_snoc, fnd_snocN _ _ _ h1]
  refine ⟨by rw [rfB, e]; simpa using h1, ?_⟩
  have h2 := fnd_lt (secs L) s
  rw [secs_length] at h2
  rw [rfG, rfG, e, if_neg (by omega), if_neg (by omega), List.getD_eq_getElem?_getD, List.getD_eq_getElem?_getD, List.getElem?_append_left (by omega)]
theorem rfB_zero (L : List Tk) : rfB L 0 = false := by rw [rfB, fnd_zero]; rfl
theorem WF.par {L : List Tk} (h : WF L) : ∀ k ∈ L, k.par = 0 ∨ k.par ∈ secs L := by
  induction h with
  | nil => intro k hk; cases hk
  | snoc h0 h1 h2 h3 h4 ih =>
    rename_i L q
    intro k hk
    rw [secs_snoc]
    rcases List.mem_append.1 hk with h | h
    · rcases ih k h with h5 | h5
      · exact .inl h5
      · exact .inr (List.mem_append_left _ h5)
    · rw [List.mem_singleton.1 h]
      rcases h3 with h5 | h5
      · exact .inl h5
      · exact .inr (List.mem_append_left _ h5)
theorem upR_snoc {L : List Tk} (h : WF L) (p : Tk → Bool) (q : Tk) (f : Nat) : ∀ k ∈ L, upR p (L ++ [q]) f k = upR p L f k := by
  induction f with
  | zero => intro k _; rfl
  | succ f ih =>
    intro k hk
    simp only [upR]
    split
    · rfl
    · rcases h.par k hk with h5 | h5
      · rw [h5, rfB_zero, rfB_zero]; simp
      · by_cases h6 : k.par = 0
        · rw [h6, rfB_zero, rfB_zero]; simp
        · have hb : rfB L k.par = true := (rfB_iff _ _).2 ⟨h6, h5⟩
          obtain ⟨e1, e2⟩ := rf_snoc L q k.par hb
          rw [e1, e2, hb, if_pos rfl, if_pos rfl]
          obtain ⟨i, hi, _, e3, _⟩ := rfG_get L k.par hb
          exact ih _ (by rw [e3]; exact List.getElem_mem hi)
theorem hasN_snoc {L : List Tk} (p : Tk → Bool) (q : Tk) (hq : q.sec ∉ secs L) (s : Nat) (hs : s ∈ secs L) : hasN (gone p (L ++ [q])) s = hasN (gone p L) s := by
  have hne : s ≠ q.sec := fun e => hq (by rw [← e]; exact hs)
  rw [gone_snoc, Bool.eq_iff_iff, hasN_iff, hasN_iff]
  unfold stepG
  split
  · constructor
    · rintro ⟨a, b⟩
      rcases List.mem_append.1 b with b | b
      · exact ⟨a, b⟩
      · exact absurd (List.mem_singleton.1 b) hne
    · rintro ⟨a, b⟩; exact ⟨a, List.mem_append_left _ b⟩
  · exact Iff.rfl
/-- Who is under one of whom p is true goes. -/
theorem up_gone {L : List Tk} (h : WF L) (p : Tk → Bool) : ∀ (i : Nat) (hi : i < L.length) (f : Nat), i + 1 ≤ f → upR p L f L[i] = hasN (gone p L) L[i].sec := by
  induction h with
  | nil => intro i hi; simp at hi
  | snoc h0 h1 h2 h3 h4 ih =>
    rename_i L q
    intro i hi f hf
    by_cases hi2 : i < L.length
    · rw [List.getElem_append_left hi2]
      have hm : L[i] ∈ L := List.getElem_mem hi2
      rw [upR_snoc h0 p q f _ hm, ih i hi2 f hf, hasN_snoc p q h2 _ (List.mem_map.2 ⟨_, hm, rfl⟩)]
    · have hi3 : i = L.length := by simp at hi; omega
      subst hi3
      rw [List.getElem_concat_length (by rfl)]
      obtain ⟨f, rfl⟩ : ∃ g, f = g + 1 := ⟨f - 1, by omega⟩
      have hr : hasN (gone p (L ++ [q])) q.sec = true ↔ (p q = true ∨ hasN (gone p L) q.par = true) := by
        rw [gone_snoc, hasN_iff]
        unfold stepG
        split
        · rename_i hc; exact ⟨fun _ => hc, fun _ => ⟨h1, by simp⟩⟩
        · rename_i hc
          constructor
          · rintro ⟨_, b⟩; exact absurd (gone_secs p L _ b) h2
          · intro hh; exact absurd hh hc
      rw [Bool.eq_iff_iff, hr]
      simp only [upR]
      by_cases hp : p q = true
      · simp [hp]
      · rw [if_neg hp]
        have hz : ∀ (hh : q.par = 0 ∨ q.par ∈ secs L), ((if rfB (L ++ [q]) q.par = true then upR p (L ++ [q]) f (rfG (L ++ [q]) q.par) else false) = true ↔ (p q = true ∨ hasN (gone p L) q.par = true)) := by
          intro hh
          by_cases h6 : q.par = 0
          · rw [h6, rfB_zero]
            simp only [Bool.false_eq_true, if_false, false_iff, not_or]
            exact ⟨hp, fun h7 => ((hasN_iff _ _).1 h7).1 rfl⟩
          · have h5 : q.par ∈ secs L := by
              rcases hh with h5 | h5
              · exact absurd h5 h6
              · exact h5
            have hb : rfB L q.par = true := (rfB_iff _ _).2 ⟨h6, h5⟩
            obtain ⟨e1, e2⟩ := rf_snoc L q q.par hb
            obtain ⟨j, hj, _, e3, e4⟩ := rfG_get L q.par hb
            rw [e1, e2, if_pos rfl, e3, upR_snoc h0 p q f _ (List.getElem_mem hj), ih j hj f (by omega), e4]
            exact ⟨fun h => .inr h, fun h => h.resolve_left hp⟩
        exact hz h3
theorem fil_of_get {L : List Tk} {p q : Tk → Bool} (h : ∀ (i : Nat) (hi : i < L.length), p L[i] = q L[i]) : L.filter p = L.filter q := by
  apply List.filter_congr
  intro x hx
  obtain ⟨i, hi, rfl⟩ := List.getElem_of_mem hx
  exact h i hi
theorem wo_drop {L : List Tk} (h : WF L) (s : Nat) : woR L s = dropT (fun k => decide (k.sec = s)) L := by
  unfold woR dropT keepT
  refine fil_of_get fun i hi => ?_
  rw [unR_up, up_gone h _ i hi _ (by omega)]
theorem wo_none {L : List Tk} (h : WF L) (s : Nat) (hs : rfB L s = false) : woR L s = L := by
  rw [wo_drop h]
  have hg : gone (fun k => decide (k.sec = s)) L = [] := by
    have : ∀ M : List Tk, (∀ k ∈ M, k.sec ≠ s) → gone (fun k => decide (k.sec = s)) M = [] := by
      intro M hM
      have : ∀ (M : List Tk), (∀ k ∈ M, k.sec ≠ s) → M.foldl (stepG fun k => decide (k.sec = s)) [] = [] := by
        intro M
        induction M with
        | nil => intro _; rfl
        | cons x r ih =>
          intro hM
          have h1 : stepG (fun k => decide (k.sec = s)) [] x = [] := by
            unfold stepG
            rw [if_neg]
            rintro (h | h)
            · exact hM x (List.mem_cons_self ..) (by simpa using h)
            · exact absurd ((hasN_iff _ _).1 h).2 (by simp)
          rw [List.foldl_cons, h1]
          exact ih fun k hk => hM k (List.mem_cons_of_mem _ hk)
      exact this M hM
    refine this L fun k hk e => ?_
    have : rfB L s = true := (rfB_iff _ _).2 ⟨by rw [← e]; exact h.nz k hk, List.mem_map.2 ⟨k, hk, e⟩⟩
    rw [this] at hs; cases hs
  unfold dropT
  rw [hg]
  unfold keepT
  rw [List.filter_eq_self]
  intro k _
  have : hasN [] k.sec = false := by
    cases hb : hasN [] k.sec
    · rfl
    · exact absurd ((hasN_iff _ _).1 hb).2 (by simp)
  simp [this]
theorem left_again {L : List Tk} (h : WF L) (now : Int) : leftC now (leftC now L) = leftC now L := dropT_again h _
theorem WF.left {L : List Tk} (h : WF L) (now : Int) : WF (leftC now L) := h.drop _
/-- What was revoked is not there. -/
theorem rev_gone {L : List Tk} (h : WF L) (s : Nat) (hs : rfB L s = true) : rfB (dropT (fun k => decide (k.sec = s)) L) s = false := by
  cases hb : rfB (dropT (fun k => decide (k.sec = s)) L) s
  · rfl
  · obtain ⟨h1, h2⟩ := (rfB_iff _ _).1 hb
    have h3 := (secs_drop _ L s h1).1 h2
    obtain ⟨i, hi, _, _, e4⟩ := rfG_get L s hs
    have h5 := up_gone h (fun k => decide (k.sec = s)) i hi (i + 1) (by omega)
    rw [upR, if_pos (by simpa using e4), e4] at h5
    exact absurd ((hasN_iff _ _).1 h5.symm).2 h3.2
theorem put_wf {L : List Tk} {k : Tk} (h : WF L) (hp : k.par = 0 ∨ k.par ∈ secs L) : WF (putL L k) := by
  unfold putL
  split
  · rename_i h0
    unfold putE at h0
    split at h0
    · simp at h0
    · rename_i hr
      split at h0
      · rename_i hf; exact absurd h0 hf
      · rename_i hf
        have hf' : frE (secs L) k.sec = 0 := by simpa using hf
        unfold frE at hf'
        split at hf'
        · simp at hf'
        · rename_i h1
          split at hf'
          · simp at hf'
          · rename_i h2
            exact WF.snoc h h1 (fun h3 => h2 ((fnd_mem _ _).2 ⟨h1, h3⟩)) hp (by simpa using hr)
  · exact h
theorem put_len {L : List Tk} {k : Tk} (h : L.length ≤ 8) : (putL L k).length ≤ 8 := by
  unfold putL
  split
  · rename_i h0
    unfold putE at h0
    split at h0
    · simp at h0
    · split at h0
      · rename_i hf; exact absurd h0 hf
      · split at h0
        · simp at h0
        · simp; omega
  · exact h
theorem SecOk.put {L : List Tk} {k : Tk} (h : SecOk L) (hk : k.sec ≤ 18446744073709551615 ∧ k.par ≤ 18446744073709551615) : SecOk (putL L k) := by
  unfold putL
  split
  · intro x hx
    rcases List.mem_append.1 hx with h1 | h1
    · exact h x h1
    · rw [List.mem_singleton.1 h1]; exact hk
  · exact h
/-- A table's tickets. -/
structure TOk (L : List Tk) : Prop where
  wf : WF L
  so : SecOk L
  len : L.length ≤ 8
theorem TOk.nil : TOk [] := ⟨WF.nil, (fun k hk => by cases hk), by decide⟩
theorem TOk.left {L : List Tk} (h : TOk L) (now : Int) : TOk (leftC now L) := ⟨h.wf.left now, h.so.left now, Nat.le_trans (leftC_le now L) h.len⟩
theorem TOk.mint {L : List Tk} (h : TOk L) (d : Nat) (g : Gt) (hd : d ≤ 18446744073709551615) : TOk (putL L ⟨d, 0, g⟩) := ⟨put_wf h.wf (.inl rfl), h.so.put ⟨hd, (show (0 : Nat) ≤ 18446744073709551615 by decide)⟩, put_len h.len⟩
theorem TOk.derive {L : List Tk} (h : TOk L) (s d : Nat) (g : Gt) (hs : s ≤ 18446744073709551615) (hd : d ≤ 18446744073709551615) : TOk (derL L s d g) := by
  unfold derL
  split
  · exact h
  · rename_i h1
    exact ⟨put_wf h.wf (.inr ((fnd_mem _ _).1 (by omega : 0 ≤ fnd (secs L) s)).2), h.so.put ⟨hd, hs⟩, put_len h.len⟩
theorem TOk.drop {L : List Tk} (h : TOk L) (p : Tk → Bool) : TOk (dropT p L) := ⟨h.wf.drop p, h.so.keep _, Nat.le_trans (keepT_le _ _) h.len⟩
theorem TOk.rev {L : List Tk} (h : TOk L) (s : Nat) : TOk (revL L s) := by
  unfold revL
  split
  · exact h
  · exact h.drop _
end Go.Proofs.Ytmlmndaflgfdkaa
