/- queue: entries, their order, heaps in a row: plain mathematics. -/
import Derived.Test.YtdmmglnpeoeicaaWords
namespace Go.Proofs.Ytdmmglnpeoeicaa
set_option linter.unusedVariables false
set_option linter.unusedSimpArgs false
/-- An entry: its key, its tie, its item. -/
abbrev En := Int × Int × Int
def LtE (a b : En) : Prop := a.1 < b.1 ∨ a.1 = b.1 ∧ (a.2.1 < b.2.1 ∨ a.2.1 = b.2.1 ∧ a.2.2 < b.2.2)
instance (a b : En) : Decidable (LtE a b) := by unfold LtE; exact inferInstance
def ltE (a b : En) : Bool := decide (LtE a b)
theorem ltE_true {a b : En} : ltE a b = true ↔ LtE a b := by simp [ltE]
theorem ltE_false {a b : En} : ltE a b = false ↔ ¬ LtE a b := by simp [ltE]
theorem LtE.irrefl (a : En) : ¬ LtE a a := by unfold LtE; omega
theorem LtE.trans {a b c : En} (h : LtE a b) (k : LtE b c) : LtE a c := by unfold LtE at *; omega
theorem LtE.asymm {a b : En} (h : LtE a b) : ¬ LtE b a := by unfold LtE at *; omega
theorem en_ext {a b : En} (h1 : a.1 = b.1) (h2 : a.2.1 = b.2.1) (h3 : a.2.2 = b.2.2) : a = b := by
  obtain ⟨a1, a2, a3⟩ := a; obtain ⟨b1, b2, b3⟩ := b; simp at h1 h2 h3; simp [h1, h2, h3]
theorem LtE.tri {a b : En} (h : ¬ LtE a b) (k : ¬ LtE b a) : a = b := by
  unfold LtE at *
  exact en_ext (by omega) (by omega) (by omega)
/-- ¬ b < a, that is a ≤ b, goes on. -/
theorem LtE.le_trans {a b c : En} (h : ¬ LtE b a) (k : ¬ LtE c b) : ¬ LtE c a := by unfold LtE at *; omega
def at_ (L : List En) (i : Nat) : En := L.getD i (0, 0, 0)
def sw (L : List En) (i j : Nat) : List En := (L.set i (at_ L j)).set j (at_ L i)
theorem sw_length (L : List En) (i j : Nat) : (sw L i j).length = L.length := by simp [sw]
theorem at_get {L : List En} {i : Nat} (h : i < L.length) : at_ L i = L[i] := by simp [at_, List.getD_eq_getElem?_getD, List.getElem?_eq_getElem h]
theorem get?_at {L : List En} {i : Nat} (h : i < L.length) : L[i]? = some (at_ L i) := by rw [at_get h, List.getElem?_eq_getElem h]
theorem at_of_get? {L : List En} {i : Nat} {e : En} (h : L[i]? = some e) : at_ L i = e := by simp [at_, List.getD_eq_getElem?_getD, h]
theorem at_mem {L : List En} {i : Nat} (h : i < L.length) : at_ L i ∈ L := by rw [at_get h]; exact List.getElem_mem h
theorem at_sw {L : List En} {i j : Nat} (hi : i < L.length) (hj : j < L.length) (k : Nat) : at_ (sw L i j) k = if k = j then at_ L i else if k = i then at_ L j else at_ L k := by
  unfold sw
  by_cases h : k = j
  · subst h; rw [if_pos rfl]; simp [at_, List.getD_eq_getElem?_getD, hj]
  · rw [if_neg h]
    by_cases h2 : k = i
    · subst h2; rw [if_pos rfl]
      have : ¬ j = k := fun e => h e.symm
      simp [at_, List.getD_eq_getElem?_getD, List.getElem?_set, this, hi]
    · rw [if_neg h2]
      have a : ¬ j = k := fun e => h e.symm
      have b : ¬ i = k := fun e => h2 e.symm
      simp [at_, List.getD_eq_getElem?_getD, List.getElem?_set, a, b]
theorem sw_perm {L : List En} {i j : Nat} (hi : i < L.length) (hj : j < L.length) : (sw L i j).Perm L := by
  have h := Array.swap_perm (xs := L.toArray) (i := i) (j := j) (by simpa using hi) (by simpa using hj)
  have h2 := h.toList
  rw [Array.toList_swap] at h2
  simp only [sw, at_get hi, at_get hj]
  simpa using h2
/-- The first n are a heap. -/
def HeapTo (n : Nat) (L : List En) : Prop := ∀ k, 0 < k → k < n → ¬ LtE (at_ L k) (at_ L ((k - 1) / 2))
theorem HeapTo.least {n : Nat} {L : List En} (h : HeapTo n L) : ∀ k, k < n → ¬ LtE (at_ L k) (at_ L 0) := by
  intro k
  induction k using Nat.strongRecOn with
  | _ k ih =>
    intro hk
    by_cases h0 : k = 0
    · subst h0; exact LtE.irrefl _
    · exact LtE.le_trans (ih ((k - 1) / 2) (by omega) (by omega)) (h k (by omega) hk)
def UpInv (L : List En) (j : Nat) : Prop :=
  j < L.length ∧ (∀ k, 0 < k → k < L.length → k ≠ j → ¬ LtE (at_ L k) (at_ L ((k - 1) / 2))) ∧ (∀ k, 0 < k → k < L.length → (k - 1) / 2 = j → 0 < j → ¬ LtE (at_ L k) (at_ L ((j - 1) / 2)))
theorem UpInv.push {L : List En} (h : HeapTo L.length L) (e : En) : UpInv (L ++ [e]) L.length := by
  have hat : ∀ k, k < L.length → at_ (L ++ [e]) k = at_ L k := fun k hk => by simp [at_, List.getD_eq_getElem?_getD, List.getElem?_append_left hk]
  refine ⟨by simp, fun k h0 hk hne => ?_, fun k h0 hk he hj => ?_⟩
  · simp at hk
    rw [hat k (by omega), hat _ (by omega)]
    exact h k h0 (by omega)
  · simp at hk; omega
theorem UpInv.done0 {L : List En} (h : UpInv L 0) : HeapTo L.length L := fun k h0 hk => h.2.1 k h0 hk (by omega)
theorem UpInv.done {L : List En} {j : Nat} (h : UpInv L j) (hl : ¬ LtE (at_ L j) (at_ L ((j - 1) / 2))) : HeapTo L.length L := fun k h0 hk => by
  by_cases e : k = j
  · subst e; exact hl
  · exact h.2.1 k h0 hk e
theorem UpInv.step {L : List En} {j : Nat} (h : UpInv L j) (h0 : 0 < j) (hl : LtE (at_ L j) (at_ L ((j - 1) / 2))) : UpInv (sw L ((j - 1) / 2) j) ((j - 1) / 2) := by
  obtain ⟨h1, h2, h3⟩ := h
  have hi : (j - 1) / 2 < L.length := by omega
  have A := at_sw hi h1
  refine ⟨by rw [sw_length]; omega, fun k k0 hk hne => ?_, fun k k0 hk he hj => ?_⟩
  · rw [sw_length] at hk
    rw [A, A]
    by_cases e1 : k = j
    · subst e1
      rw [if_pos rfl, if_neg (by omega), if_pos rfl]
      exact hl.asymm
    · rw [if_neg e1, if_neg hne]
      by_cases e2 : (k - 1) / 2 = j
      · rw [if_pos e2]; exact h3 k k0 hk e2 (by omega)
      · rw [if_neg e2]
        by_cases e3 : (k - 1) / 2 = (j - 1) / 2
        · rw [if_pos e3]
          have := h2 k k0 hk e1
          rw [e3] at this
          exact fun h => this (h.trans hl)
        · rw [if_neg e3]; exact h2 k k0 hk e1
  · rw [sw_length] at hk
    rw [A, A, if_neg (by omega : ¬ ((j - 1) / 2 - 1) / 2 = j), if_neg (by omega : ¬ ((j - 1) / 2 - 1) / 2 = (j - 1) / 2)]
    have hp := h2 ((j - 1) / 2) hj hi (by omega)
    by_cases e1 : k = j
    · rw [if_pos e1]; exact hp
    · rw [if_neg e1, if_neg (by omega)]
      have := h2 k k0 hk e1
      rw [he] at this
      exact LtE.le_trans hp this
def DownInv (n : Nat) (L : List En) (i : Nat) : Prop :=
  (∀ k, 0 < k → k < n → (k - 1) / 2 ≠ i → ¬ LtE (at_ L k) (at_ L ((k - 1) / 2))) ∧ (∀ k, 0 < k → k < n → (k - 1) / 2 = i → 0 < i → ¬ LtE (at_ L k) (at_ L ((i - 1) / 2)))
theorem DownInv.pop {n : Nat} {L : List En} (h : HeapTo (n + 1) L) (hn : n < L.length) : DownInv n (sw L 0 n) 0 := by
  have A := at_sw (show 0 < L.length by omega) hn
  refine ⟨fun k k0 hk hne => ?_, fun k k0 hk he h0 => by omega⟩
  rw [A, A, if_neg (by omega), if_neg (by omega), if_neg (by omega), if_neg hne]
  exact h k k0 (by omega)
theorem DownInv.over {n i : Nat} {L : List En} (h : DownInv n L i) (hi : n ≤ 2 * i + 1) : HeapTo n L := fun k k0 hk => h.1 k k0 hk (by omega)
/-- The child that is not behind the other one. -/
def kid (n : Nat) (L : List En) (i : Nat) : Nat := if 2 * i + 2 < n ∧ LtE (at_ L (2 * i + 2)) (at_ L (2 * i + 1)) then 2 * i + 2 else 2 * i + 1
theorem kid_lt {n i : Nat} {L : List En} (h : 2 * i + 1 < n) : kid n L i < n ∧ (kid n L i - 1) / 2 = i ∧ i < kid n L i := by
  unfold kid; split <;> omega
theorem kid_least {n i : Nat} {L : List En} (h : 2 * i + 1 < n) (k : Nat) (k0 : 0 < k) (hk : k < n) (hp : (k - 1) / 2 = i) : ¬ LtE (at_ L k) (at_ L (kid n L i)) := by
  have hc : k = 2 * i + 1 ∨ k = 2 * i + 2 := by omega
  unfold kid
  rcases hc with rfl | rfl
  · split
    · rename_i h'; exact h'.2.asymm
    · exact LtE.irrefl _
  · split
    · exact LtE.irrefl _
    · rename_i h'
      exact fun hl => h' ⟨hk, hl⟩
theorem DownInv.done {n i : Nat} {L : List En} (h : DownInv n L i) (hi : 2 * i + 1 < n) (hl : ¬ LtE (at_ L (kid n L i)) (at_ L i)) : HeapTo n L := fun k k0 hk => by
  by_cases e : (k - 1) / 2 = i
  · rw [e]; exact LtE.le_trans hl (kid_least hi k k0 hk e)
  · exact h.1 k k0 hk e
theorem DownInv.step {n i : Nat} {L : List En} (h : DownInv n L i) (hi : 2 * i + 1 < n) (hn : n ≤ L.length) (hl : LtE (at_ L (kid n L i)) (at_ L i)) : DownInv n (sw L i (kid n L i)) (kid n L i) := by
  obtain ⟨hk1, hk2, hk3⟩ := kid_lt (L := L) hi
  have hkl := kid_least (L := L) hi
  generalize kid n L i = c at *
  have A := at_sw (show i < L.length by omega) (show c < L.length by omega)
  refine ⟨fun k k0 hk hne => ?_, fun k k0 hk he hc0 => ?_⟩
  · rw [A, A, if_neg hne]
    by_cases e1 : k = c
    · rw [if_pos e1, e1, hk2, if_pos rfl]
      exact hl.asymm
    · rw [if_neg e1]
      by_cases e2 : k = i
      · rw [if_pos e2, if_neg (by omega)]
        subst e2
        exact h.2 c (by omega) hk1 hk2 (by omega)
      · rw [if_neg e2]
        by_cases e3 : (k - 1) / 2 = i
        · rw [if_pos e3]; exact hkl k k0 hk e3
        · rw [if_neg e3]; exact h.1 k k0 hk e3
  · rw [hk2, A, A, if_neg (by omega : ¬ k = c), if_neg (by omega : ¬ k = i), if_neg (by omega : ¬ i = c), if_pos rfl]
    have := h.1 k k0 hk (by omega)
    rwa [he] at this
/-- Entries in order. -/
def Srt (S : List En) : Prop := S.Pairwise fun a b => ¬ LtE b a
def ins (e : En) : List En → List En
  | [] => [e]
  | x :: xs => if LtE e x then e :: x :: xs else x :: ins e xs
theorem ins_perm (e : En) (S : List En) : (ins e S).Perm (e :: S) := by
  induction S with
  | nil => exact List.Perm.refl _
  | cons x xs ih =>
    unfold ins; split
    · exact List.Perm.refl _
    · exact (List.Perm.cons x ih).trans (List.Perm.swap e x xs)
theorem ins_length (e : En) (S : List En) : (ins e S).length = S.length + 1 := by simpa using (ins_perm e S).length_eq
theorem ins_srt (e : En) (S : List En) (h : Srt S) : Srt (ins e S) := by
  induction S with
  | nil => simp [ins, Srt]
  | cons x xs ih =>
    have hx := List.pairwise_cons.1 h
    unfold ins; split
    · rename_i hl
      refine List.pairwise_cons.2 ⟨fun y hy => ?_, h⟩
      rcases List.mem_cons.1 hy with rfl | hy
      · exact hl.asymm
      · exact fun hye => hx.1 y hy (hye.trans hl)
    · rename_i hl
      refine List.pairwise_cons.2 ⟨fun y hy => ?_, ih hx.2⟩
      rcases List.mem_cons.1 ((ins_perm e xs).mem_iff.1 hy) with rfl | hy
      · exact hl
      · exact hx.1 y hy
/-- What has been looked at of the entries, with e once it has come. -/
theorem ins_not (e : En) (S : List En) (h : S.any (ltE e) = false) : ins e S = S ++ [e] := by
  induction S with
  | nil => rfl
  | cons x xs ih =>
    simp only [List.any_cons, Bool.or_eq_false_iff] at h
    simp only [ins, if_neg (ltE_false.1 h.1), ih h.2, List.cons_append]
theorem ins_more (e x : En) (S : List En) (h : S.any (ltE e) = true) : ins e (S ++ [x]) = ins e S ++ [x] := by
  induction S with
  | nil => simp at h
  | cons y ys ih =>
    by_cases hy : LtE e y
    · simp [ins, hy]
    · simp only [List.cons_append, ins, if_neg hy]
      simp only [List.any_cons, ltE_false.2 hy, Bool.false_or] at h
      rw [ih h]
theorem ins_now (e x : En) (S : List En) (h : S.any (ltE e) = false) (hl : LtE e x) : ins e (S ++ [x]) = S ++ [e, x] := by
  induction S with
  | nil => simp [ins, hl]
  | cons y ys ih =>
    simp only [List.any_cons, Bool.or_eq_false_iff] at h
    simp only [List.cons_append, ins, if_neg (ltE_false.1 h.1), ih h.2]
/-- The first of a heap is the first of the same entries in order. -/
theorem top_same {L S : List En} {s : En} (hp : L.Perm (s :: S)) (hs : Srt (s :: S)) (hh : HeapTo L.length L) : at_ L 0 = s := by
  have hl : 0 < L.length := by rw [hp.length_eq]; simp
  have h1 : at_ L 0 ∈ s :: S := hp.mem_iff.1 (at_mem hl)
  have h2 : s ∈ L := hp.mem_iff.2 (by simp)
  obtain ⟨k, hk, rfl⟩ := List.mem_iff_getElem.1 h2
  have h3 := hh.least k hk
  rw [at_get hk] at h3
  rcases List.mem_cons.1 h1 with h | h
  · exact h
  · exact LtE.tri ((List.pairwise_cons.1 hs).1 _ h) h3 |>.symm ▸ rfl
theorem srt_tail {s : En} {S : List En} (h : Srt (s :: S)) : Srt S := (List.pairwise_cons.1 h).2
theorem srt_eq {S T : List En} (hp : S.Perm T) (h : Srt S) (k : Srt T) : S = T :=
  hp.eq_of_pairwise (fun a b _ _ h1 h2 => LtE.tri h2 h1) h k
def srt : List En → List En → List En
  | [], acc => acc
  | x :: xs, acc => srt xs (ins x acc)
end Go.Proofs.Ytdmmglnpeoeicaa
