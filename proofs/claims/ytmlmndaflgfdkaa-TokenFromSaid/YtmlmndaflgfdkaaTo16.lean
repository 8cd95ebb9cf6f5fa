/- token: plain theory of tables: what is gone, what is left, what a ticket grants. -/
import Derived.Test.YtmlmndaflgfdkaaTo2
import Derived.Test.YtmlmndaflgfdkaaTo13
namespace Go.Proofs.Ytmlmndaflgfdkaa
set_option linter.unusedVariables false
set_option linter.unusedSimpArgs false
/-- Tickets that may be a table's. -/
inductive WF : List Tk → Prop
  | nil : WF []
  | snoc {L : List Tk} {k : Tk} : WF L → k.sec ≠ 0 → k.sec ∉ secs L → (k.par = 0 ∨ k.par ∈ secs L) → rightG k.g = true → WF (L ++ [k])
theorem secs_snoc (L : List Tk) (k : Tk) : secs (L ++ [k]) = secs L ++ [k.sec] := by simp [secs]
theorem hasN_iff (G : List Nat) (s : Nat) : hasN G s = true ↔ s ≠ 0 ∧ s ∈ G := by
  rw [hasN, decide_eq_true_eq, fnd_mem]
theorem gone_snoc (p : Tk → Bool) (L : List Tk) (k : Tk) : gone p (L ++ [k]) = stepG p (gone p L) k := by
  rw [gone, List.foldl_append]; rfl
theorem gone_secs (p : Tk → Bool) (L : List Tk) : ∀ s ∈ gone p L, s ∈ secs L := by
  intro s hs
  obtain ⟨k, hk, rfl⟩ := gone_sub p L s hs
  exact List.mem_map.2 ⟨k, hk, rfl⟩
theorem WF.nz {L : List Tk} (h : WF L) : ∀ k ∈ L, k.sec ≠ 0 := by
  induction h with
  | nil => intro k hk; cases hk
  | snoc h0 h1 h2 h3 h4 ih =>
    intro k hk
    rcases List.mem_append.1 hk with h | h
    · exact ih k h
    · rw [List.mem_singleton.1 h]; exact h1
theorem WF.right {L : List Tk} (h : WF L) : ∀ k ∈ L, rightG k.g = true := by
  induction h with
  | nil => intro k hk; cases hk
  | snoc h0 h1 h2 h3 h4 ih =>
    intro k hk
    rcases List.mem_append.1 hk with h | h
    · exact ih k h
    · rw [List.mem_singleton.1 h]; exact h4
/-- Who stays, among those ahead, stays with more behind. -/
theorem keepT_snoc (p : Tk → Bool) {L : List Tk} (h : WF L) (k : Tk) (hk : k.sec ∉ secs L) (hk0 : k.sec ≠ 0) : dropT p (L ++ [k]) = dropT p L ++ if p k = true ∨ hasN (gone p L) k.par = true then [] else [k] := by
  rw [dropT, gone_snoc]
  unfold dropT keepT
  rw [List.filter_append]
  have h1 : L.filter (fun x => !hasN (stepG p (gone p L) k) x.sec) = L.filter (fun x => !hasN (gone p L) x.sec) := by
    apply List.filter_congr
    intro x hx
    have hxk : x.sec ≠ k.sec := fun e => hk (by rw [← e]; exact List.mem_map.2 ⟨x, hx, rfl⟩)
    congr 1
    rw [Bool.eq_iff_iff, hasN_iff, hasN_iff]
    unfold stepG
    split
    · constructor
      · rintro ⟨a, b⟩
        rcases List.mem_append.1 b with b | b
        · exact ⟨a, b⟩
        · exact absurd (List.mem_singleton.1 b) hxk
      · rintro ⟨a, b⟩; exact ⟨a, List.mem_append_left _ b⟩
    · exact Iff.rfl
  rw [h1]
  congr 1
  have h2 : hasN (stepG p (gone p L) k) k.sec = true ↔ (p k = true ∨ hasN (gone p L) k.par = true) := by
    rw [hasN_iff]
    unfold stepG
    split
    · rename_i hc
      exact ⟨fun _ => hc, fun _ => ⟨hk0, by simp⟩⟩
    · rename_i hc
      constructor
      · rintro ⟨_, b⟩; exact absurd (gone_secs p L _ b) hk
      · intro h; exact absurd h hc
  by_cases hc : p k = true ∨ hasN (gone p L) k.par = true
  · rw [if_pos hc]
    have := h2.2 hc
    simp [this]
  · rw [if_neg hc]
    have : hasN (stepG p (gone p L) k) k.sec = false := by
      cases hb : hasN (stepG p (gone p L) k) k.sec
      · rfl
      · exact absurd (h2.1 hb) hc
    simp [this]
theorem secs_drop (p : Tk → Bool) (L : List Tk) (s : Nat) (hs : s ≠ 0) : s ∈ secs (dropT p L) ↔ s ∈ secs L ∧ s ∉ gone p L := by
  unfold secs dropT keepT
  simp only [List.mem_map, List.mem_filter]
  constructor
  · rintro ⟨k, ⟨h1, h2⟩, rfl⟩
    refine ⟨⟨k, h1, rfl⟩, fun h3 => ?_⟩
    have : hasN (gone p L) k.sec = true := (hasN_iff _ _).2 ⟨hs, h3⟩
    rw [this] at h2; simp at h2
  · rintro ⟨⟨k, h1, rfl⟩, h2⟩
    refine ⟨k, ⟨h1, ?_⟩, rfl⟩
    have : hasN (gone p L) k.sec = false := by
      cases hb : hasN (gone p L) k.sec
      · rfl
      · exact absurd ((hasN_iff _ _).1 hb).2 h2
    simp [this]
theorem WF.drop {L : List Tk} (h : WF L) (p : Tk → Bool) : WF (dropT p L) := by
  induction h with
  | nil => exact WF.nil
  | snoc h0 h1 h2 h3 h4 ih =>
    rename_i L k
    rw [keepT_snoc p h0 k h2 h1]
    split
    · simpa using ih
    · rename_i hc
      refine WF.snoc ih h1 ?_ ?_ h4
      · intro h; exact h2 ((secs_drop p L _ h1).1 h).1
      · rcases h3 with h3 | h3
        · exact .inl h3
        · by_cases h5 : k.par = 0
          · exact .inl h5
          · refine .inr ((secs_drop p L _ h5).2 ⟨h3, fun h6 => hc (.inr ((hasN_iff _ _).2 ⟨h5, h6⟩))⟩)
/-- What stays, stays again. -/
theorem drop_drop {L : List Tk} (h : WF L) (p : Tk → Bool) : gone p (dropT p L) = [] := by
  induction h with
  | nil => rfl
  | snoc h0 h1 h2 h3 h4 ih =>
    rename_i L k
    rw [keepT_snoc p h0 k h2 h1]
    split
    · simpa using ih
    · rename_i hc
      rw [gone_snoc, ih]
      unfold stepG
      rw [if_neg]
      rintro (h | h)
      · exact hc (.inl h)
      · exact absurd ((hasN_iff _ _).1 h).2 (by simp)
theorem dropT_again {L : List Tk} (h : WF L) (p : Tk → Bool) : dropT p (dropT p L) = dropT p L := by
  have h1 := drop_drop h p
  unfold dropT at h1 ⊢
  rw [h1]
  unfold keepT
  rw [List.filter_eq_self]
  intro k _
  have : hasN [] k.sec = false := by
    cases hb : hasN [] k.sec
    · rfl
    · exact absurd ((hasN_iff _ _).1 hb).2 (by simp)
  simp [this]
theorem fnd_snocN (L : List Nat) (x s : Nat) (h : 0 ≤ fnd L s) : fnd (L ++ [x]) s = fnd L s := by rw [fnd_snoc, if_neg (by omega)]
/-- Each stands behind what it was made of. -/
theorem WF.ord {L : List Tk} (h : WF L) : OrdT L := by
  induction h with
  | nil => intro i hi; simp at hi
  | snoc h0 h1 h2 h3 h4 ih =>
    rename_i L k
    intro i hi
    simp only [List.length_append, List.length_cons, List.length_nil] at hi
    rw [secs_snoc]
    by_cases hi2 : i < L.length
    · have e1 : (L ++ [k]).getD i Tk.zero = L.getD i Tk.zero := by simp [List.getD_eq_getElem?_getD, List.getElem?_append_left hi2]
      rw [e1]
      have h5 := ih i hi2
      -- the parent stands ahead, or is none
      by_cases h6 : 0 ≤ fnd (secs L) (L.getD i Tk.zero).par
      · rw [fnd_snocN _ _ _ h6]; exact h5
      · have hpar : (L.getD i Tk.zero).par = 0 ∨ (L.getD i Tk.zero).par ∈ secs L := by
          have : ∀ M : List Tk, WF M → ∀ j, j < M.length → (M.getD j Tk.zero).par = 0 ∨ (M.getD j Tk.zero).par ∈ secs M := by
            intro M hM
            induction hM with
            | nil => intro j hj; simp at hj
            | snoc g0 g1 g2 g3 g4 jh =>
              rename_i M q
              intro j hj
              simp only [List.length_append, List.length_cons, List.length_nil] at hj
              rw [secs_snoc]
              by_cases hj2 : j < M.length
              · have e2 : (M ++ [q]).getD j Tk.zero = M.getD j Tk.zero := by simp [List.getD_eq_getElem?_getD, List.getElem?_append_left hj2]
                rw [e2]
                rcases jh j hj2 with h | h
                · exact .inl h
                · exact .inr (List.mem_append_left _ h)
              · have e2 : (M ++ [q]).getD j Tk.zero = q := by
                  have : j = M.length := by omega
                  subst this
                  simp [List.getD_eq_getElem?_getD]
                rw [e2]
                rcases g3 with h | h
                · exact .inl h
                · exact .inr (List.mem_append_left _ h)
          exact this L h0 i hi2
        rcases hpar with h7 | h7
        · rw [h7, fnd_zero]; omega
        · by_cases h8 : (L.getD i Tk.zero).par = 0
          · rw [h8, fnd_zero]; omega
          · exact absurd ((fnd_mem _ _).2 ⟨h8, h7⟩) h6
    · have hi3 : i = L.length := by omega
      subst hi3
      have e1 : (L ++ [k]).getD L.length Tk.zero = k := by simp [List.getD_eq_getElem?_getD]
      rw [e1]
      rcases h3 with h | h
      · rw [h, fnd_zero]; omega
      · by_cases h8 : k.par = 0
        · rw [h8, fnd_zero]; omega
        · have h9 := (fnd_mem (secs L) k.par).2 ⟨h8, h⟩
          rw [fnd_snocN _ _ _ h9]
          have := fnd_lt (secs L) k.par
          rw [secs_length] at this
          exact this
end Go.Proofs.Ytmlmndaflgfdkaa
