/- roster: what an operation hangs on; rows of operations. -/
import Derived.Test.YtolbjlphpgfcpaaRo8
namespace Go.Proofs.Ytolbjlphpgfcpaa
set_option linter.unusedVariables false
set_option linter.unusedSimpArgs false
open Go.RowKit
theorem RS.keepM {w w' : World} {y y' n c : Nat} {o o' : Option Nat} {H : Int → Option Mb} (h : RS w y o n H c) (k : KeM y' o' w w') (h1 : y ≠ y') (h2 : o' ≠ some y) (h3 : ∀ i, o = some i → i ≠ y' ∧ o' ≠ some i) : RS w' y o n H c :=
  ⟨(k.block y h.blk.lt h1 h2).trans h.blk, by
    rcases h.mp with e | ⟨mp, e, hne, hm⟩
    · exact .inl e
    · exact .inr ⟨mp, e, hne, hm.keep (k.block mp hm.lt (h3 mp e).1 (h3 mp e).2)⟩, h.wf⟩
theorem fi_local {H1 H2 : Int → Option Mb} {u : Int} (h : H1 u = H2 u) : fiB H1 u = fiB H2 u ∧ fiM H1 u = fiM H2 u := by
  unfold fiB fiM
  rw [h]
  exact ⟨rfl, rfl⟩
theorem putH_same (H : Int → Option Mb) (u : Int) (m : Mb) : putH H u m u = some m := if_pos rfl
theorem putH_far (H : Int → Option Mb) {u j : Int} (m : Mb) (h : j ≠ u) : putH H u m j = H j := if_neg h
theorem delH_same (H : Int → Option Mb) (u : Int) : delH H u u = none := if_pos rfl
theorem delH_far (H : Int → Option Mb) {u j : Int} (h : j ≠ u) : delH H u j = H j := if_neg h
theorem ch_local {H1 H2 : Int → Option Mb} {u : Int} (h : H1 u = H2 u) (Mf : Mb → Mb) (Ef : Mb → Int) : chE H1 u Ef = chE H2 u Ef ∧ chH H1 u Mf Ef u = chH H2 u Mf Ef u := by
  obtain ⟨h1, h2⟩ := fi_local h
  unfold chE chH
  rw [h1, h2]
  refine ⟨rfl, ?_⟩
  split
  · rw [putH_same, putH_same]
  · exact h
theorem ch_far {H : Int → Option Mb} {u j : Int} (h : j ≠ u) (Mf : Mb → Mb) (Ef : Mb → Int) : chH H u Mf Ef j = H j := by
  unfold chH
  split
  · exact putH_far _ _ h
  · rfl
theorem op_local {H1 H2 : Int → Option Mb} (q : Oq) (h : H1 q.m.user = H2 q.m.user) : opE H1 q = opE H2 q ∧ opH H1 q q.m.user = opH H2 q q.m.user := by
  have he : enE H1 q.m = enE H2 q.m := by unfold enE; rw [h]
  have hd : diE H1 q.m.user = diE H2 q.m.user := by unfold diE; rw [h]
  unfold opE opH
  split
  · refine ⟨he, ?_⟩
    unfold enH
    rw [he]
    split
    · rw [putH_same, putH_same]
    · exact h
  split
  · refine ⟨hd, ?_⟩
    unfold diH
    rw [hd]
    split
    · rw [delH_same, delH_same]
    · exact h
  split
  · exact ch_local h _ _
  split
  · exact ch_local h _ _
  · exact ch_local h _ _
theorem op_far (H : Int → Option Mb) (q : Oq) (u : Int) (h : u ≠ q.m.user) : opH H q u = H u := by
  unfold opH
  split
  · unfold enH
    split
    · exact putH_far _ _ h
    · rfl
  split
  · unfold diH
    split
    · exact delH_far _ h
    · rfl
  split
  · exact ch_far h _ _
  split
  · exact ch_far h _ _
  · exact ch_far h _ _
theorem ERd.shape {α : Type} {E : El α} {w : World} {v : Value} {L : List α} (h : ERd E w v L) : ∃ A c, v = .slice A L.length c ∧ L.length ≤ c ∧ c ≤ maxLen := by
  obtain ⟨A, c, e, h1, h2, _⟩ := h
  exact ⟨A, c, e, h1, h2⟩
theorem ERd.tenq {w : World} {A : Option Addr} {n c : Nat} {L : List Oq} (h : ERd elOq w (.slice A n c) L) {i : Nat} {x : Oq} (hi : L[i]? = some x) : ∃ g o, A = some ⟨g, o, none⟩ ∧
    w.cell? ⟨g, o + i * 10, none⟩ = some (.int .i64 x.kind) ∧ w.cell? ⟨g, o + i * 10 + 1, none⟩ = some (.int .i64 x.m.user) ∧ w.cell? ⟨g, o + i * 10 + 2, none⟩ = some (.int .i64 x.m.role) ∧ w.cell? ⟨g, o + i * 10 + 3, none⟩ = some (.int .i64 x.m.tier) ∧ w.cell? ⟨g, o + i * 10 + 4, none⟩ = some (.int .i64 x.m.quota) ∧ w.cell? ⟨g, o + i * 10 + 5, none⟩ = some (.int .i64 x.m.k) ∧ w.cell? ⟨g, o + i * 10 + 6, none⟩ = some (.int .u64 x.m.area) ∧ w.cell? ⟨g, o + i * 10 + 7, none⟩ = some (.int .i64 x.fk) ∧ w.cell? ⟨g, o + i * 10 + 8, none⟩ = some (.int .u64 x.fa) ∧ w.cell? ⟨g, o + i * 10 + 9, none⟩ = some (.int .i64 x.n) := by
  obtain ⟨A', c', e, h1, h2, h3⟩ := h
  injection e with e1 e2 e3
  subst e1
  obtain ⟨g, o, rfl, hc⟩ := h3 i x hi
  exact ⟨g, o, rfl, hc 0 _ rfl, hc 1 _ rfl, hc 2 _ rfl, hc 3 _ rfl, hc 4 _ rfl, hc 5 _ rfl, hc 6 _ rfl, hc 7 _ rfl, hc 8 _ rfl, hc 9 _ rfl⟩
theorem list_of {α : Type} (n : Nat) {Q : Nat → α → Prop} (h : ∀ i, i < n → ∃ x, Q i x) : ∃ l : List α, l.length = n ∧ ∀ i x, l[i]? = some x → Q i x := by
  induction n with
  | zero => exact ⟨[], rfl, fun i x hx => by simp at hx⟩
  | succ n ih =>
    obtain ⟨l, h1, h2⟩ := ih fun i hi => h i (by omega)
    obtain ⟨y, hy⟩ := h n (by omega)
    refine ⟨l ++ [y], by simp [h1], fun i x hx => ?_⟩
    by_cases hi : i < l.length
    · rw [List.getElem?_append_left hi] at hx
      exact h2 i x hx
    · rw [List.getElem?_append_right (by omega)] at hx
      have h0 : i - l.length = 0 := by
        by_cases h0 : i - l.length = 0
        · exact h0
        · obtain ⟨m, hm⟩ : ∃ m, i - l.length = m + 1 := ⟨i - l.length - 1, by omega⟩
          rw [hm] at hx; simp at hx
      rw [h0] at hx
      simp at hx
      subst hx
      have : i = n := by omega
      subst this
      exact hy
theorem rows_of {α : Type} {E : El α} (hp : 0 < E.k) {ok : List Value → Prop} {I : α → Prop} (hok : ∀ cs : List Value, ok cs → cs.length = E.k → ∃ b : α, I b ∧ ∀ (j : Nat) (u : Value), (E.enc b)[j]? = some u → cs[j]? = some u) {w : World} {a : Option Addr} {len cap : Nat} (h : IsSl w E.k ok a len cap) : ∃ L : List α, ERd E w (.slice a len cap) L ∧ L.length = len ∧ ∀ o ∈ L, I o := by
  have hq : ∀ i, i < len → ∃ b : α, I b ∧ ∃ g o, a = some ⟨g, o, none⟩ ∧ ∀ j u, (E.enc b)[j]? = some u → w.cell? ⟨g, o + i * E.k + j, none⟩ = some u := by
    intro i hi
    obtain ⟨xb, xo, cs, rfl, hl, hcell, hc⟩ := h.at2 i hi hp
    obtain ⟨b, hI, hb⟩ := hok cs hc hl
    refine ⟨b, hI, xb, xo, rfl, fun j u hu => ?_⟩
    have := hcell j u (hb j u hu)
    rwa [← Nat.add_assoc] at this
  obtain ⟨L, h1, h2⟩ := list_of len hq
  obtain ⟨l1, l2⟩ := h.le
  refine ⟨L, ⟨a, cap, by rw [h1], by omega, l2, fun i x hx => ?_⟩, h1, fun o ho => ?_⟩
  · obtain ⟨_, g, o, e, hc⟩ := h2 i x hx
    exact ⟨g, o, e, fun j u hu => hc j u hu⟩
  · obtain ⟨i, hi, rfl⟩ := List.getElem_of_mem ho
    exact (h2 i _ (List.getElem?_eq_getElem hi)).1
theorem oqs_of {w : World} {a : Option Addr} {len cap : Nat} (h : IsSl w 10 okOq a len cap) : ∃ L : List Oq, ERd elOq w (.slice a len cap) L ∧ L.length = len ∧ ∀ o ∈ L, o.I :=
  rows_of (E := elOq) (by decide) (fun cs ⟨e, hI, h0, h1, h2, h3, h4, h5, h6, h7, h8, h9⟩ _ => ⟨e, hI, fun j u hu => by
    match j, hu with
    | 0, hu => simp [elOq] at hu; rw [h0, hu]
    | 1, hu => simp [elOq] at hu; rw [h1, hu]
    | 2, hu => simp [elOq] at hu; rw [h2, hu]
    | 3, hu => simp [elOq] at hu; rw [h3, hu]
    | 4, hu => simp [elOq] at hu; rw [h4, hu]
    | 5, hu => simp [elOq] at hu; rw [h5, hu]
    | 6, hu => simp [elOq] at hu; rw [h6, hu]
    | 7, hu => simp [elOq] at hu; rw [h7, hu]
    | 8, hu => simp [elOq] at hu; rw [h8, hu]
    | 9, hu => simp [elOq] at hu; rw [h9, hu]
    | j + 10, hu => simp [elOq] at hu⟩) h
end Go.Proofs.Ytolbjlphpgfcpaa
