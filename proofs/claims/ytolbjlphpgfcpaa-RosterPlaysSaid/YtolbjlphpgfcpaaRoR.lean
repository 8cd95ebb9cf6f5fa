/- roster: plain theory: rows of members by their users. -/
import Derived.Test.YtolbjlphpgfcpaaRoP
namespace Go.Proofs.Ytolbjlphpgfcpaa
set_option linter.unusedVariables false
set_option linter.unusedSimpArgs false
/-- Whom a row has. -/
def rfO (L : List Mb) (u : Int) : Option Mb := L.find? fun m => m.user == u
theorem rfO_nil (u : Int) : rfO [] u = none := rfl
theorem rfO_cons (m : Mb) (L : List Mb) (u : Int) : rfO (m :: L) u = if m.user = u then some m else rfO L u := by
  unfold rfO
  rw [List.find?_cons]
  by_cases h : m.user = u
  · have e : (m.user == u) = true := by simpa using h
    rw [e, if_pos h]
  · have e : (m.user == u) = false := by simpa using h
    rw [e, if_neg h]
theorem rfO_none {L : List Mb} {u : Int} (h : ∀ x ∈ L, x.user ≠ u) : rfO L u = none := by
  unfold rfO
  rw [List.find?_eq_none]
  intro x hx e
  exact h x hx (by simpa using e)
theorem rfO_hit {L : List Mb} {u : Int} {k : Nat} (hk : k < L.length) (h : ∀ x ∈ L.take k, x.user ≠ u) (he : L[k].user = u) : rfO L u = some L[k] := by
  have e : L = L.take k ++ L[k] :: L.drop (k + 1) := by rw [List.getElem_cons_drop, List.take_append_drop]
  have h1 : rfO (L.take k ++ L[k] :: L.drop (k + 1)) u = some L[k] := by
    unfold rfO
    rw [List.find?_append]
    have h2 : (L.take k).find? (fun m => m.user == u) = none := rfO_none h
    rw [h2, List.find?_cons]
    simp [he]
  rw [← e] at h1
  exact h1
theorem rfO_mem {L : List Mb} {u : Int} {m : Mb} (h : rfO L u = some m) : m ∈ L ∧ m.user = u := by
  unfold rfO at h
  exact ⟨List.mem_of_find?_eq_some h, by have := List.find?_some h; simpa using this⟩
theorem rfO_sorted {L : List Mb} (h : L.Pairwise fun a b => a.user < b.user) {m : Mb} (hm : m ∈ L) : rfO L m.user = some m := by
  induction L with
  | nil => cases hm
  | cons x r ih =>
    rw [rfO_cons]
    rcases List.mem_cons.1 hm with rfl | h1
    · rw [if_pos rfl]
    · have h2 := (List.pairwise_cons.1 h).1 m h1
      rw [if_neg (by omega)]
      exact ih (List.pairwise_cons.1 h).2 h1
/-- Members without one. -/
def woM (L : List Mb) (u : Int) : List Mb := L.filter fun m => m.user != u
theorem woM_cons (m : Mb) (L : List Mb) (u : Int) : woM (m :: L) u = if m.user = u then woM L u else m :: woM L u := by
  unfold woM
  rw [List.filter_cons]
  by_cases h : m.user = u
  · rw [if_pos h, if_neg (by simp [h])]
  · rw [if_neg h, if_pos (by simp [h])]
theorem woM_find (L : List Mb) (u j : Int) : rfO (woM L u) j = if j = u then none else rfO L j := by
  induction L with
  | nil => simp [woM, rfO]
  | cons x r ih =>
    rw [woM_cons]
    by_cases h : x.user = u
    · rw [if_pos h, ih, rfO_cons]
      by_cases hj : j = u
      · rw [if_pos hj, if_pos hj]
      · rw [if_neg hj, if_neg hj, if_neg (by omega)]
    · rw [if_neg h, rfO_cons, rfO_cons, ih]
      by_cases hj : j = u
      · rw [if_pos hj, if_pos hj, if_neg (by omega)]
      · rw [if_neg hj, if_neg hj]
theorem woM_sorted {L : List Mb} (h : L.Pairwise fun a b => a.user < b.user) (u : Int) : (woM L u).Pairwise fun a b => a.user < b.user := h.sublist List.filter_sublist
theorem woM_ne {L : List Mb} {u : Int} {x : Mb} (h : x ∈ woM L u) : x.user ≠ u := by
  have := (List.mem_filter.1 h).2
  simpa using this
theorem woM_none {L : List Mb} {u : Int} (h : rfO L u = none) : woM L u = L := by
  unfold woM
  rw [List.filter_eq_self]
  intro x hx
  unfold rfO at h
  rw [List.find?_eq_none] at h
  have := h x hx
  simpa using this
theorem woM_len {L : List Mb} (hs : L.Pairwise fun a b => a.user < b.user) {u : Int} {m : Mb} (h : rfO L u = some m) : (woM L u).length + 1 = L.length := by
  induction L with
  | nil => cases h
  | cons x r ih =>
    rw [rfO_cons] at h
    rw [woM_cons]
    have hs' := List.pairwise_cons.1 hs
    by_cases hx : x.user = u
    · rw [if_pos hx, woM_none (rfO_none (fun z hz e => by have := hs'.1 z hz; omega))]
      simp
    · rw [if_neg hx] at h ⊢
      have := ih hs'.2 h
      simp only [List.length_cons]
      omega
/-- A member put in its place. -/
def insM (m : Mb) : List Mb → List Mb
  | [] => [m]
  | x :: r => if m.user < x.user then m :: x :: r else x :: insM m r
def puM (L : List Mb) (m : Mb) : List Mb := insM m (woM L m.user)
theorem insM_len (m : Mb) (L : List Mb) : (insM m L).length = L.length + 1 := by
  induction L with
  | nil => rfl
  | cons x r ih =>
    unfold insM
    split
    · simp
    · simp [ih]
theorem insM_mem {m : Mb} {L : List Mb} {z : Mb} (h : z ∈ insM m L) : z = m ∨ z ∈ L := by
  induction L with
  | nil => exact .inl (by simpa [insM] using h)
  | cons x r ih =>
    unfold insM at h
    split at h
    · rcases List.mem_cons.1 h with h1 | h1
      · exact .inl h1
      · exact .inr h1
    · rcases List.mem_cons.1 h with h1 | h1
      · exact .inr (h1 ▸ List.mem_cons_self ..)
      · rcases ih h1 with h2 | h2
        · exact .inl h2
        · exact .inr (List.mem_cons_of_mem _ h2)
theorem insM_sorted {m : Mb} {L : List Mb} (hs : L.Pairwise fun a b => a.user < b.user) (hn : ∀ x ∈ L, x.user ≠ m.user) : (insM m L).Pairwise fun a b => a.user < b.user := by
  induction L with
  | nil => simp [insM]
  | cons x r ih =>
    have hs' := List.pairwise_cons.1 hs
    unfold insM
    split
    · rename_i h
      refine List.pairwise_cons.2 ⟨fun z hz => ?_, hs⟩
      rcases List.mem_cons.1 hz with rfl | h1
      · exact h
      · have := hs'.1 z h1; omega
    · rename_i h
      refine List.pairwise_cons.2 ⟨fun z hz => ?_, ih hs'.2 (fun z hz => hn z (List.mem_cons_of_mem _ hz))⟩
      rcases insM_mem hz with rfl | h1
      · have := hn x (List.mem_cons_self ..); omega
      · exact hs'.1 z h1
theorem insM_find {m : Mb} {L : List Mb} (hn : ∀ x ∈ L, x.user ≠ m.user) (j : Int) : rfO (insM m L) j = if m.user = j then some m else rfO L j := by
  induction L with
  | nil => rw [insM, rfO_cons]
  | cons x r ih =>
    unfold insM
    split
    · rw [rfO_cons]
    · have h1 := hn x (List.mem_cons_self ..)
      rw [rfO_cons, rfO_cons, ih (fun z hz => hn z (List.mem_cons_of_mem _ hz))]
      by_cases hx : x.user = j
      · rw [if_pos hx, if_pos hx, if_neg (by omega)]
      · rw [if_neg hx, if_neg hx]
/-- A row that has the members of a roster. -/
structure LH (L : List Mb) (H : Int → Option Mb) (c : Nat) : Prop where
  head : ∃ r, L = Mb.first :: r
  sorted : L.Pairwise fun a b => a.user < b.user
  find : ∀ u, rfO L u = if u = 0 then some Mb.first else H u
  len : L.length = 1 + c
theorem LH.first : LH [Mb.first] (fun _ => none) 0 := ⟨⟨[], rfl⟩, by simp, fun u => by
  rw [rfO_cons, rfO_nil]
  by_cases h : u = 0
  · rw [if_pos h, if_pos (by rw [h]; rfl)]
  · rw [if_neg h, if_neg (by intro e; exact h e.symm)], rfl⟩
theorem LH.fi {L : List Mb} {H : Int → Option Mb} {c : Nat} (h : LH L H c) (u : Int) : fiB H u = (rfO L u).isSome ∧ fiM H u = (rfO L u).getD Mb.zero := by
  rw [h.find u]
  unfold fiB fiM
  by_cases h0 : u = 0
  · rw [if_pos h0, if_pos h0, if_pos h0]; exact ⟨rfl, rfl⟩
  · rw [if_neg h0, if_neg h0, if_neg h0]; exact ⟨rfl, rfl⟩
theorem LH.rest {L : List Mb} {H : Int → Option Mb} {c : Nat} (h : LH L H c) {u : Int} (hu : u ≠ 0) : rfO L u = H u := by rw [h.find u, if_neg hu]
theorem LH.put {L : List Mb} {H : Int → Option Mb} {c : Nat} (h : LH L H c) {m : Mb} {u : Int} (hm : m.user = u) (hu : 1 ≤ u) : LH (puM L m) (putH H u m) (if (H u).isSome then c else c + 1) := by
  subst hm
  have hn : ∀ x ∈ woM L m.user, x.user ≠ m.user := fun x hx => woM_ne hx
  refine ⟨?_, insM_sorted (woM_sorted h.sorted _) hn, fun j => ?_, ?_⟩
  · obtain ⟨r, rfl⟩ := h.head
    unfold puM
    rw [woM_cons, if_neg (by intro e; have : (0 : Int) = m.user := e; omega), insM, if_neg (by intro e; have : m.user < 0 := e; omega)]
    exact ⟨_, rfl⟩
  · unfold puM
    rw [insM_find hn, woM_find, h.find j]
    unfold putH
    by_cases hj : j = m.user
    · subst hj
      rw [if_pos rfl, if_neg (by omega), if_pos rfl]
    · rw [if_neg (fun e => hj e.symm), if_neg hj]
      by_cases h0 : j = 0
      · rw [if_pos h0, if_pos h0]
      · rw [if_neg h0, if_neg h0, if_neg hj]
  · unfold puM
    rw [insM_len]
    have hr := h.rest (u := m.user) (by omega)
    have hl := h.len
    cases hH : H m.user with
    | none =>
      rw [hH] at hr
      rw [woM_none hr]
      simp; omega
    | some z =>
      rw [hH] at hr
      have := woM_len h.sorted hr
      simp; omega
theorem LH.del {L : List Mb} {H : Int → Option Mb} {c : Nat} (h : LH L H c) {u : Int} (hu : u ≠ 0) (hH : (H u).isSome = true) : LH (woM L u) (delH H u) (c - 1) := by
  obtain ⟨z, hz⟩ := Option.isSome_iff_exists.1 hH
  have hr := h.rest hu
  rw [hz] at hr
  have hlen := woM_len h.sorted hr
  have hl := h.len
  obtain ⟨r, hL⟩ := h.head
  have hc : 1 ≤ c := by
    cases c with
    | zero =>
      have h2 := h.len
      rw [hL] at h2 hr
      have : r = [] := List.eq_nil_of_length_eq_zero (by rw [List.length_cons] at h2; omega)
      subst this
      rw [rfO_cons, rfO_nil] at hr
      split at hr
      · rename_i e
        exact absurd e.symm hu
      · cases hr
    | succ c => omega
  have hlen2 : (woM L u).length = 1 + (c - 1) := by omega
  clear hlen hl hr
  refine ⟨?_, woM_sorted h.sorted _, fun j => ?_, hlen2⟩
  · rw [hL, woM_cons, if_neg (by intro e; exact hu e.symm)]
    exact ⟨_, rfl⟩
  · rw [woM_find, h.find j]
    unfold delH
    by_cases hj : j = u
    · subst hj
      rw [if_pos rfl, if_neg hu, if_pos rfl]
    · rw [if_neg hj]
      by_cases h0 : j = 0
      · rw [if_pos h0, if_pos h0]
      · rw [if_neg h0, if_neg h0, if_neg hj]
/-- What the document tells of an operation, and the members behind it. -/
def waE (L : List Mb) (q : Oq) : Int :=
  if q.kind = 0 then (if rightM q.m = false then 1 else if (rfO L q.m.user).isSome = true then 20 else 0)
  else if q.kind = 1 then (if q.m.user = 0 then 1 else if (rfO L q.m.user).isSome = false then 21 else 0)
  else if q.kind = 2 then (if (rfO L q.m.user).isSome = false then 21 else if q.m.user = 0 ∨ q.fk < 1 ∨ 65535 < q.fk then 1 else 0)
  else if q.kind = 3 then (if (rfO L q.m.user).isSome = false then 21 else if q.m.user = 0 ∨ q.n < 0 ∨ 65535 < q.n then 1 else 0)
  else (if (rfO L q.m.user).isSome = false then 21 else if q.m.user = 0 then 0 else if ((rfO L q.m.user).getD Mb.zero).quota = 0 then 41 else 0)
def waL (L : List Mb) (q : Oq) : List Mb :=
  if waE L q = 0 then
    (if q.kind = 0 then puM L q.m
    else if q.kind = 1 then woM L q.m.user
    else if q.kind = 2 then puM L { (rfO L q.m.user).getD Mb.zero with k := q.fk, area := q.fa }
    else if q.kind = 3 then puM L { (rfO L q.m.user).getD Mb.zero with quota := q.n }
    else if q.m.user = 0 then L else puM L { (rfO L q.m.user).getD Mb.zero with quota := ((rfO L q.m.user).getD Mb.zero).quota - 1 })
  else L
end Go.Proofs.Ytolbjlphpgfcpaa
