/- Texts: GzX, GzY, GzZ, HzA. -/
import Derived.Test.YtmgamlpjgghieaaGreatDoorZbGzUM
namespace Go.Proofs.YtmgamlpjgghieaaGreatDoor
section
set_option linter.unusedVariables false
set_option linter.unusedSimpArgs false
theorem cP_zero (row : Int) (a : Bool) (z : Nat) (k zz : Int) (x : Bx) : cP (edB k zz x) row a z = 0 := by
  unfold edB
  rw [cP_cons, cP_cons, cP_nil]
  unfold termP
  have h1 : relE ⟨x.x1 + 1, x.y0, x.y1, k, zz, -1⟩ row = relE ⟨x.x0, x.y0, x.y1, k, zz, 1⟩ row := rfl
  have h2 : clsE ⟨x.x1 + 1, x.y0, x.y1, k, zz, -1⟩ = clsE ⟨x.x0, x.y0, x.y1, k, zz, 1⟩ := rfl
  rw [h1, h2]
  simp only
  split <;> omega
theorem cP_edL (row : Int) (a : Bool) (z : Nat) (k zz : Int) (L : List Bx) : cP (edL k zz L) row a z = 0 := by
  induction L with
  | nil => rfl
  | cons x L ih =>
    have h : edL k zz (x :: L) = edB k zz x ++ edL k zz L := rfl
    rw [h, cP_append, cP_zero, ih]; rfl
theorem cP_edM (row : Int) (a : Bool) (z : Nat) (R : List Rc) : cP (edM R) row a z = 0 := by
  induction R with
  | nil => rfl
  | cons r R ih =>
    have h : edM (r :: R) = edL r.k r.zoom r.bx ++ edM R := rfl
    rw [h, cP_append, cP_edL, ih]; rfl
theorem zE_none {E : List Ed} {row : Int} (h : ∀ e ∈ E, relE e row = false) (u : Int) : zE E row u = 0 :=
  zmC_nil fun z => cE_none true z fun e he hr => by rw [h e he] at hr; cases hr
theorem term_congr {row row' : Int} {a : Bool} {z : Nat} {e : Ed} (h : relE e row = relE e row') : termP row a z e = termP row' a z e := by unfold termP; rw [h]
theorem cP_congr {P : List Ed} {row row' : Int} (h : ∀ e ∈ P, relE e row = relE e row') (a : Bool) (z : Nat) : cP P row a z = cP P row' a z := by
  induction P with
  | nil => rfl
  | cons e P ih => rw [cP_cons, cP_cons, ih fun d hd => h d (by simp [hd]), term_congr (h e (by simp))]
theorem zE_congr {E : List Ed} {row row' : Int} (h : ∀ e ∈ E, relE e row = relE e row') (u : Int) : zE E row u = zE E row' u := by
  have e : ∀ a, cE E row a u = cE E row' a u := fun a => by
    funext z
    exact cP_congr (fun d hd => h d ((List.mem_filter.1 hd).1)) a z
  unfold zE
  rw [e, e]
theorem zE_perm {E F : List Ed} (h : E.Perm F) (row u : Int) : zE E row u = zE F row u := by
  have e : ∀ a, cE E row a u = cE F row a u := fun a => by funext z; exact cE_perm h row a u z
  unfold zE
  rw [e, e]
/-- A scan that is done has told the runs of its row. -/
theorem runs_done {E : List Ed} {R : List Rc} {row x : Int} {l : List Rn} (hp : E.Perm (edM R)) (h : ScI E E row x l) : ZR (zE E row) l := by
  refine ⟨x, h.zb, fun u hu => zmC_nil fun z => ?_⟩
  rw [cE_all true z fun e he hr => by have := h.rel e he hr; omega, cP_perm hp, cP_edM]
/-- Bands told, and one that is open from row f on, for the rows ahead of y. -/
structure BI (S : Int → Int → Int) (D : List Bd) (f : Int) (R : List Rn) (y : Int) : Prop where
  bd : Bands (fun x v => if v < f then S x v else 0) D
  on : ∀ v, f ≤ v → v < y → ZR (fun x => S x v) R
  nx : ∀ b ∈ D, b.t < f ∧ (b.t + 1 = f → b.R ≠ R)
def bandO (f t : Int) (R : List Rn) : List Bd := if R = [] then [] else [⟨f, t, R⟩]
theorem patB_O (f t : Int) (R : List Rn) : pats (bandO f t R) = patB ⟨f, t, R⟩ := by
  unfold bandO
  split
  · rename_i h; subst h; rfl
  · simp [pats]
theorem pats_append (A B : List Bd) : pats (A ++ B) = pats A ++ pats B := by unfold pats; rw [List.flatMap_append]
section
variable {S : Int → Int → Int} {D : List Bd} {f y r : Int} {R R' : List Rn}
theorem BI.extend (h : BI S D f R r) (hv : ∀ v, r ≤ v → v < y → ZR (fun x => S x v) R) : BI S D f R y := ⟨h.bd, fun v h1 h2 => by
  rcases Int.lt_or_le v r with h3 | h3
  · exact h.on v h1 h3
  · exact hv v h3 h2, h.nx⟩
theorem BI.turn (h : BI S D f R r) (hR : R' ≠ R) (hf : R ≠ [] → f < r) (hz : R = [] → f < r ∨ f ≤ r ∧ D = []) (hv : ∀ v, r ≤ v → v < y → ZR (fun x => S x v) R') : BI S (D ++ bandO f (r - 1) R) r R' y := by
  have hle : f ≤ r := by
    by_cases e : R = []
    · rcases hz e with h1 | h1 <;> omega
    · have := hf e; omega
  unfold bandO
  by_cases e : R = []
  · subst e
    rw [if_pos rfl, List.append_nil]
    refine ⟨⟨h.bd.le, h.bd.ne, fun b hb v h1 h2 => ?_, h.bd.ap, fun x v hp => ?_⟩, hv, fun b hb => ?_⟩
    · have h3 := h.bd.rn b hb v h1 h2
      have h4 := (h.nx b hb).1
      refine h3.congr fun x => ?_
      rw [if_pos (by omega), if_pos (by omega)]
    · by_cases h5 : v < f
      · exact h.bd.cov x v (by rw [if_pos (by omega)] at hp; rw [if_pos h5]; exact hp)
      · by_cases h6 : v < r
        · rw [if_pos h6] at hp
          exact absurd ((h.on v (by omega) h6).pos_in hp) (by simp [inR])
        · rw [if_neg h6] at hp; omega
    · have h4 := h.nx b hb
      refine ⟨by omega, fun e2 => ?_⟩
      rcases hz rfl with h7 | ⟨h7, h8⟩
      · omega
      · rw [h8] at hb; simp at hb
  · rw [if_neg e]
    have hlt := hf e
    refine ⟨⟨fun b hb => ?_, fun b hb => ?_, fun b hb v h1 h2 => ?_, ?_, fun x v hp => ?_⟩, hv, fun b hb => ?_⟩
    · rcases List.mem_append.1 hb with hb | hb
      · exact h.bd.le b hb
      · simp at hb; subst hb; simp; omega
    · rcases List.mem_append.1 hb with hb | hb
      · exact h.bd.ne b hb
      · simp at hb; subst hb; exact e
    · rcases List.mem_append.1 hb with hb | hb
      · have h3 := h.bd.rn b hb v h1 h2
        have h4 := (h.nx b hb).1
        refine h3.congr fun x => ?_
        rw [if_pos (by omega), if_pos (by omega)]
      · simp at hb; subst hb
        simp only at h1 h2
        refine (h.on v h1 (by omega)).congr fun x => ?_
        rw [if_pos (by omega)]
    · rw [List.pairwise_append]
      exact ⟨h.bd.ap, by simp, fun b hb c hc => by simp at hc; subst hc; exact h.nx b hb⟩
    · by_cases h5 : v < f
      · obtain ⟨b, hb, h6⟩ := h.bd.cov x v (by rw [if_pos (by omega)] at hp; rw [if_pos h5]; exact hp)
        exact ⟨b, List.mem_append_left _ hb, h6⟩
      · by_cases h6 : v < r
        · exact ⟨⟨f, r - 1, R⟩, by simp, by simp only; omega, by simp only; omega⟩
        · rw [if_neg h6] at hp; omega
    · rcases List.mem_append.1 hb with hb | hb
      · have := (h.nx b hb).1
        exact ⟨by omega, fun e2 => by omega⟩
      · simp at hb; subst hb
        exact ⟨by simp only; omega, fun _ => fun e3 => hR e3.symm⟩
end
/-- Where bands stand when the rows ahead of the j-th have been gone through. -/
structure BJ (S : Int → Int → Int) (ys : List Int) (j : Nat) (D : List Bd) (f : Int) (R : List Rn) : Prop where
  bi : ∀ y, (∀ (k : Nat) (h : k < ys.length), k < j → ys[k] < y) → (∀ (k : Nat) (h : k < ys.length), j ≤ k → y ≤ ys[k]) → BI S D f R y
  at_ : (D = [] ∧ f = 0 ∧ R = []) ∨ ∃ (k : Nat) (h : k < ys.length), k < j ∧ f = ys[k]
section
variable {E : List Ed} {ys : List Int} {j : Nat} {D : List Bd} {f y r : Int} {R R' : List Rn}
/-- Rows between two turns are alike. -/
theorem rel_between (h : RowsIs E ys) {v : Int} (hv : r ≤ v) (hn : ∀ u ∈ ys, u ≤ r ∨ v < u) {e : Ed} (he : e ∈ E) : relE e v = relE e r := by
  have h1 := hn e.f ((h.mem _).2 ⟨e, he, .inl rfl⟩)
  have h2 := hn (e.t + 1) ((h.mem _).2 ⟨e, he, .inr rfl⟩)
  unfold relE
  rw [decide_eq_decide]
  omega
theorem BJ.start (h : RowsIs E ys) (ho : ∀ e ∈ E, EdOk e) : BJ (fun x v => zE E v x) ys 0 [] 0 [] := by
  have hz : ∀ v, (∀ e ∈ E, v < e.f) → ∀ u, zE E v u = 0 := fun v hv u => zE_none (fun e he => by have := hv e he; unfold relE; simp; omega) u
  refine ⟨fun y h1 h2 => ⟨⟨by simp, by simp, by simp, List.Pairwise.nil, fun x v hp => ?_⟩, fun v hv hy => ZR.nil fun x => ?_, by simp⟩, .inl ⟨rfl, rfl, rfl⟩⟩
  · exfalso
    by_cases hv : v < 0
    · rw [if_pos hv, hz v (fun e he => by have := (ho e he).2.2.1; omega)] at hp; omega
    · rw [if_neg hv] at hp; omega
  · refine hz v (fun e he => ?_) x
    obtain ⟨k, hk, e2⟩ := List.getElem_of_mem ((h.mem e.f).2 ⟨e, he, .inl rfl⟩)
    have := h2 k hk (Nat.zero_le _)
    omega
theorem BJ.at_turn (h : RowsIs E ys) (k : BJ (fun x v => zE E v x) ys j D f R) (hj : j < ys.length) : BI (fun x v => zE E v x) D f R ys[j] :=
  k.bi _ (fun i hi hij => List.pairwise_iff_getElem.1 h.lt i j hi hj hij) (fun i hi hij => by
    rcases Nat.lt_or_ge j i with h1 | h1
    · exact Int.le_of_lt (List.pairwise_iff_getElem.1 h.lt j i hj hi h1)
    · have : i = j := by omega
      subst this; exact Int.le_refl _)
theorem BJ.from_turn (h : RowsIs E ys) (hj : j < ys.length) (hR : ZR (zE E ys[j]) R') {y : Int} (h2 : ∀ (k : Nat) (h : k < ys.length), j + 1 ≤ k → y ≤ ys[k]) : ∀ v, ys[j] ≤ v → v < y → ZR (fun x => zE E v x) R' := fun v h3 h4 => by
  refine hR.congr fun x => (zE_congr (fun e he => rel_between h h3 (fun u hu => ?_) he) x).symm
  obtain ⟨i, hi, rfl⟩ := List.getElem_of_mem hu
  rcases Nat.lt_or_ge j i with h5 | h5
  · have := h2 i hi (by omega); omega
  · left
    rcases Nat.lt_or_ge i j with h6 | h6
    · exact Int.le_of_lt (List.pairwise_iff_getElem.1 h.lt i j hi hj h6)
    · have : i = j := by omega
      subst this; exact Int.le_refl _
theorem BJ.same (h : RowsIs E ys) (k : BJ (fun x v => zE E v x) ys j D f R) (hj : j < ys.length) (hR : ZR (zE E ys[j]) R) : BJ (fun x v => zE E v x) ys (j + 1) D f R :=
  ⟨fun y h1 h2 => (k.at_turn h hj).extend (BJ.from_turn h hj hR h2), k.at_.imp id fun ⟨i, hi, h3, h4⟩ => ⟨i, hi, by omega, h4⟩⟩
theorem BJ.turn (h : RowsIs E ys) (ho : ∀ e ∈ E, EdOk e) (k : BJ (fun x v => zE E v x) ys j D f R) (hj : j < ys.length) (hR : ZR (zE E ys[j]) R') (hne : R' ≠ R) : BJ (fun x v => zE E v x) ys (j + 1) (D ++ bandO f (ys[j] - 1) R) ys[j] R' := by
  refine ⟨fun y h1 h2 => (k.at_turn h hj).turn hne (fun e => ?_) (fun e => ?_) (BJ.from_turn h hj hR h2), .inr ⟨j, hj, by omega, rfl⟩⟩
  · rcases k.at_ with ⟨_, _, h3⟩ | ⟨i, hi, h3, rfl⟩
    · exact absurd h3 e
    · exact List.pairwise_iff_getElem.1 h.lt i j hi hj h3
  · rcases k.at_ with ⟨h4, h5, h3⟩ | ⟨i, hi, h3, rfl⟩
    · right
      refine ⟨?_, h4⟩
      rw [h5]
      obtain ⟨e, he, h6⟩ := (h.mem _).1 (List.getElem_mem hj)
      have := ho e he
      unfold EdOk at this
      omega
    · exact .inl (List.pairwise_iff_getElem.1 h.lt i j hi hj h3)
theorem BJ.done (h : RowsIs E ys) (k : BJ (fun x v => zE E v x) ys ys.length D f R) : PatOf (fun x v => zE E v x) (pats D) := by
  have hz : ∀ v, (∀ e ∈ E, e.t < v) → ∀ u, zE E v u = 0 := fun v hv u => zE_none (fun e he => by have := hv e he; unfold relE; simp; omega) u
  have hall : ∀ v, (∀ u ∈ ys, u ≤ v) → ∀ e ∈ E, e.t < v := fun v hv e he => by
    have := hv _ ((h.mem (e.t + 1)).2 ⟨e, he, .inr rfl⟩); omega
  have hbig : ∀ w : Int, ∃ v, w ≤ v ∧ ∀ u ∈ ys, u ≤ v := by
    intro w
    clear h k hz hall
    induction ys with
    | nil => exact ⟨w, Int.le_refl _, by simp⟩
    | cons a ys ih =>
      obtain ⟨v, h1, h2⟩ := ih
      rcases Int.lt_or_le v a with h3 | h3
      · exact ⟨a, by omega, fun u hu => by
          rcases List.mem_cons.1 hu with rfl | hu
          · exact Int.le_refl _
          · have := h2 u hu; omega⟩
      · exact ⟨v, h1, fun u hu => by
          rcases List.mem_cons.1 hu with rfl | hu
          · exact h3
          · exact h2 u hu⟩
  have hbi : ∀ v, (∀ u ∈ ys, u ≤ v) → BI (fun x v => zE E v x) D f R (v + 1) := fun v hv => k.bi _ (fun i hi _ => by have := hv _ (List.getElem_mem hi); omega) (fun i hi h5 => by omega)
  have hR : R = [] := by
    obtain ⟨v, h1, h2⟩ := hbig f
    have h3 := (hbi v h2).on v h1 (by omega)
    exact h3.uniq (ZR.nil fun x => hz v (hall v h2) x)
  subst hR
  have hon : ∀ v, f ≤ v → ∀ x, zE E v x = 0 := fun v hv x => by
    obtain ⟨v2, h1, h2⟩ := hbig v
    exact ((hbi v2 h2).on v hv (by omega)).val x |>.2 (by simp [inR])
  obtain ⟨v, -, h2⟩ := hbig f
  have hb := (hbi v h2).bd
  have e : (fun x v => if v < f then zE E v x else 0) = fun x v => zE E v x := by
    funext x v
    by_cases hv : v < f
    · simp [hv]
    · simp [hv, hon v (by omega) x]
  rw [e] at hb
  exact ⟨D, hb, rfl⟩
end
end
section
set_option linter.unusedVariables false
set_option linter.unusedSimpArgs false
open Go.RowKit
theorem rnEq_len {a b : List Rn} (h : a.length ≠ b.length) : a ≠ b := fun e => h (by rw [e])
theorem rnEq_diff {a b : List Rn} {k : Nat} {x y : Rn} (hx : a[k]? = some x) (hy : b[k]? = some y) (h : ¬ (x.f = y.f ∧ x.t = y.t ∧ x.z = y.z)) : a ≠ b := fun e => by
  rw [e, hy] at hx
  simp only [Option.some.injEq] at hx
  exact h (by rw [hx]; exact ⟨rfl, rfl, rfl⟩)
theorem rnEq_same {a b : List Rn} {k : Nat} (h : ∀ j, j < k → a[j]? = b[j]?) (ha : k = a.length) (hb : k = b.length) : a = b := by
  apply List.ext_getElem?
  intro i
  by_cases hi : i < k
  · exact h i hi
  · rw [List.getElem?_eq_none (by omega), List.getElem?_eq_none (by omega)]
theorem ERd.run3 {w : World} {A : Option Addr} {n c : Nat} {L : List Rn} (h : ERd elRn w (.slice A n c) L) {i : Nat} {x : Rn} (hi : L[i]? = some x) : ∃ g o, A = some ⟨g, o, none⟩ ∧ g < w.heap.size ∧
    w.cell? ⟨g, o + i * 3, none⟩ = some (.int .i64 x.f) ∧ w.cell? ⟨g, o + i * 3 + 1, none⟩ = some (.int .i64 x.t) ∧ w.cell? ⟨g, o + i * 3 + 2, none⟩ = some (.int .i64 x.z) := by
  obtain ⟨g, o, rfl, hc⟩ := h.cell hi
  have h0 := hc 0 _ rfl
  exact ⟨g, o, rfl, World.block_lt_of_cell? w _ h0, h0, hc 1 _ rfl, hc 2 _ rfl⟩
def EqP (w : World) (L M : List Rn) (e : Ending) (w' : World) : Prop := (∃ b, e = .returned (.bool b) ∧ (b = true ↔ L = M)) ∧ Below w.heap.size w w'
theorem EqP.yes {w w' : World} {L M : List Rn} (h : L = M) (hb : Below w.heap.size w w') : EqP w L M (.returned (.bool true)) w' := ⟨⟨true, rfl, by simp [h]⟩, hb⟩
theorem EqP.no {w w' : World} {L M : List Rn} (h : L ≠ M) (hb : Below w.heap.size w w') : EqP w L M (.returned (.bool false)) w' := ⟨⟨false, rfl, by simp [h]⟩, hb⟩
set_option maxRecDepth 100000 in
set_option maxHeartbeats 4000000 in
theorem equalR_any (w : World) (v1 v2 : Value) (L M : List Rn) (h1 : ERd elRn w v1 L) (h2 : ERd elRn w v2 M) (hl : L.length ≤ 1000000) (hm : M.length ≤ 1000000) :
    Calls Tryz.prog 89 #[v1, v2] w (EqP w L M) := by
  obtain ⟨A1, c1, rfl, -, -⟩ := h1.shape6
  obtain ⟨A2, c2, rfl, -, -⟩ := h2.shape6
  have H1 := Lib.hid h1
  have H2 := Lib.hid h2
  clear h1 h2
  obtain ⟨n, hn⟩ : ∃ n, n = L.length := ⟨_, rfl⟩
  obtain ⟨m, hm2⟩ : ∃ m, m = M.length := ⟨_, rfl⟩
  rw [← hn] at H1 hl ⊢
  rw [← hm2] at H2 hm ⊢
  have HN := Lib.hid hn; have HM := Lib.hid hm2; clear hn hm2
  by_cases hnm : n = m
  · subst hnm
    have hne : ((n : Int) != (n : Int)) = false := by simp
    have HB0 := Lib.hid (show Below w.heap.size w w ∧ ∀ j, j < 0 → L[j]? = M[j]? from ⟨Below.refl _ _, fun j hj => by omega⟩)
    go_enter Tryz.func89, Tryz.ntmps89
    go_wp2_with fail
    go_loopw [5, 13] (fun _ i wr => ∃ (k : Nat), k ≤ n ∧ i = .int .i64 k ∧ Hid (Below w.heap.size w wr ∧ ∀ j, j < k → L[j]? = M[j]?)) (fun _ i _ => n - (intOf i).toNat)
    case atStart => exact ⟨0, Nat.zero_le _, rfl, HB0⟩
    case round =>
      rename World => wr
      obtain ⟨k, hk, rfl, HB⟩ := hrel
      by_cases hlt : k < n
      · have hki : (k : Int) < (n : Int) := by omega
        have hk0 : (0 : Int) ≤ (k : Int) := by omega
        have hx : L[k]? = some L[k] := List.getElem?_eq_getElem (by rw [← HN.out]; exact hlt)
        have hy : M[k]? = some M[k] := List.getElem?_eq_getElem (by rw [← HM.out]; exact hlt)
        obtain ⟨g1, o1, rfl, -, a0, a1, a2⟩ := (H1.out.below HB.out.1).run3 hx
        obtain ⟨g2, o2, rfl, -, b0, b1, b2⟩ := (H2.out.below HB.out.1).run3 hy
        have HX := Lib.hid hx; have HY := Lib.hid hy
        generalize L[k] = x at *
        generalize M[k] = y at *
        clear hx hy
        obtain ⟨x0, x1, x2⟩ := x
        obtain ⟨y0, y1, y2⟩ := y
        simp only at a0 a1 a2 b0 b1 b2
        by_cases e0 : x0 = y0
        · by_cases e1 : x1 = y1
          · by_cases e2 : x2 = y2
            · subst e0; subst e1; subst e2
              have HR := Lib.hid (show ∀ j, j < k + 1 → L[j]? = M[j]? from fun j hj => by
                by_cases e : j = k
                · subst e; rw [HX.out, HY.out]
                · exact HB.out.2 j (by omega))
              have f0 : (x0 == x0) = true := by simp
              have f1 : (x1 == x1) = true := by simp
              have f2 : (x2 == x2) = true := by simp
              go_wp2_with fail
              go_quiet (fail)
              go_wp2_with fail
              go_roundw
              case rel => exact ⟨k + 1, by omega, by go_num, Lib.hid ⟨⟨HB.out.1.os, HB.out.1.tape, HB.out.1.output, HB.out.1.size, HB.out.1.block⟩, HR.out⟩⟩
              case measure => simp [intOf]; omega
            · have HZ := Lib.hid (rnEq_diff HX.out HY.out (fun h => e2 h.2.2))
              subst e0; subst e1
              have f0 : (x0 == x0) = true := by simp
              have f1 : (x1 == x1) = true := by simp
              have f2 : (x2 == y2) = false := by simpa using e2
              clear e2
              go_wp2_with fail
              go_quiet (fail)
              go_wp2_with fail
              go_ret
              exact EqP.no HZ.out ⟨HB.out.1.os, HB.out.1.tape, HB.out.1.output, HB.out.1.size, HB.out.1.block⟩
          · have HZ := Lib.hid (rnEq_diff HX.out HY.out (fun h => e1 h.2.1))
            subst e0
            have f0 : (x0 == x0) = true := by simp
            have f1 : (x1 == y1) = false := by simpa using e1
            clear e1
            go_wp2_with fail
            go_quiet (fail)
            go_wp2_with fail
            go_ret
            exact EqP.no HZ.out ⟨HB.out.1.os, HB.out.1.tape, HB.out.1.output, HB.out.1.size, HB.out.1.block⟩
        · have HZ := Lib.hid (rnEq_diff HX.out HY.out (fun h => e0 h.1))
          have f0 : (x0 == y0) = false := by simpa using e0
          clear e0
          go_wp2_with fail
          go_quiet (fail)
          go_wp2_with fail
          go_ret
          exact EqP.no HZ.out ⟨HB.out.1.os, HB.out.1.tape, HB.out.1.output, HB.out.1.size, HB.out.1.block⟩
      · obtain rfl : k = n := by omega
        have HZ := Lib.hid (rnEq_same HB.out.2 HN.out HM.out)
        go_wp2
        go_ret
        exact EqP.yes HZ.out HB.out.1
  · have hne : ((n : Int) != (m : Int)) = true := by simp; omega
    have HZ := Lib.hid (rnEq_len (a := L) (b := M) (by rw [← HN.out, ← HM.out]; exact hnm))
    clear hnm
    go_enter Tryz.func89, Tryz.ntmps89
    go_wp2
    go_ret
    exact EqP.no HZ.out (Below.refl _ _)
end
section
set_option linter.unusedVariables false
set_option linter.unusedSimpArgs false
open Go.RowKit
/-- The patches told so far: their slice in the variable at ba. -/
structure PB (ba B : Nat) (v : Value) (L : List Pa) (w : World) : Prop where
  blk : Blk w ba 31 #[v]
  own : EOwn elPa w v L
  far : ∀ i, v.ownBlock = some i → B ≤ i
/-- All but the variable at ba and the patches' row is kept. -/
structure BuP (ba : Nat) (v : Value) (w w' : World) : Prop where
  os : w'.os = w.os
  tape : w'.tape = w.tape
  output : w'.output = w.output
  size : w.heap.size ≤ w'.heap.size
  block : ∀ k, k < w.heap.size → k ≠ ba → v.ownBlock ≠ some k → w'.heap[k]? = w.heap[k]?
def OrV (w : World) (v v' : Value) : Prop := v'.ownBlock = v.ownBlock ∨ ∀ i, v'.ownBlock = some i → w.heap.size ≤ i
section
variable {ba B : Nat} {v v' : Value} {L M : List Pa} {w w1 w2 X Y : World}
theorem PB.below (h : PB ba B v L w) (hb : Below w.heap.size w X) : PB ba B v L X := ⟨h.blk.thru0 hb, h.own.below hb, h.far⟩
theorem BuP.refl (ba : Nat) (v : Value) (w : World) : BuP ba v w w := ⟨rfl, rfl, rfl, Nat.le_refl _, fun _ _ _ _ => rfl⟩
theorem BuP.below (h : BuP ba v w w1) (hb : Below w1.heap.size w1 X) : BuP ba v w X := ⟨hb.os.trans h.os, hb.tape.trans h.tape, hb.output.trans h.output, Nat.le_trans h.size hb.size, fun k hk h1 h2 => (hb.block k (by have := h.size; omega)).trans (h.block k hk h1 h2)⟩
theorem BuP.of_below (hb : Below w.heap.size w X) : BuP ba v w X := (BuP.refl ba v w).below hb
theorem BuP.trans (h : BuP ba v w w1) (ho : OrV w v v') (k : BuP ba v' w1 w2) : BuP ba v w w2 :=
  ⟨k.os.trans h.os, k.tape.trans h.tape, k.output.trans h.output, Nat.le_trans h.size k.size, fun i hi h1 h2 => (k.block i (by have := h.size; omega) h1 (fun e => by
    rcases ho with h3 | h3
    · exact h2 (h3 ▸ e)
    · have := h3 i e; omega)).trans (h.block i hi h1 h2)⟩
theorem OrV.refl (w : World) (v : Value) : OrV w v v := .inl rfl
theorem OrV.trans {v1 v2 : Value} (h : OrV w v v1) (hs : w.heap.size ≤ w1.heap.size) (k : OrV w1 v1 v2) : OrV w v v2 := by
  rcases k with k | k
  · rcases h with h | h
    · exact .inl (k.trans h)
    · exact .inr fun i hi => h i (k ▸ hi)
  · exact .inr fun i hi => Nat.le_trans hs (k i hi)
theorem PB.ne (h : PB ba B v L w) : v.ownBlock ≠ some ba := fun e => by
  rcases h.own with ⟨h9, _⟩ | ⟨g, cap, h9, cur, hcur, _⟩
  · rw [h9] at e; cases e
  · rw [h9] at e
    obtain rfl : g = ba := by simpa [Value.ownBlock] using e
    exact Blk.ne_ hcur h.blk (by decide) rfl
/-- A row of something else is kept. -/
theorem EOwn.buP {α : Type} {E : El α} {u : Value} {R : List α} (h : EOwn E w u R) (hp : PB ba B v L w) (hk : BuP ba v w X) (h1 : E.T ≠ 31) (h2 : E.T ≠ elPa.T) : EOwn E X u R := by
  refine h.keep fun i hi e => hk.block i hi (fun e2 => ?_) (fun e2 => ?_)
  · subst e2
    rcases h with ⟨h9, _⟩ | ⟨g, cap, h9, cur, hcur, _⟩
    · rw [h9] at e; cases e
    · rw [h9] at e
      obtain rfl : g = i := by simpa [Value.ownBlock] using e
      exact Blk.ne_ hcur hp.blk h1 rfl
  · rcases h with ⟨h9, _⟩ | ⟨g, cap, h9, cur, hcur, _⟩
    · rw [h9] at e; cases e
    · rw [h9] at e
      obtain rfl : g = i := by simpa [Value.ownBlock] using e
      rcases hp.own with ⟨h8, _⟩ | ⟨g2, cap2, h8, cur2, hcur2, _⟩
      · rw [h8] at e2; cases e2
      · rw [h8] at e2
        obtain rfl : g2 = g := by simpa [Value.ownBlock] using e2
        exact Blk.ne_ hcur hcur2 h2 rfl
theorem Blk.buP {g : Nat} {t : TypeId} {cs : Array Value} (h : Blk w g t cs) (hp : PB ba B v L w) (hk : BuP ba v w X) (h1 : t ≠ 31) (h2 : t ≠ elPa.T) : Blk X g t cs := by
  refine (hk.block g h.lt (fun e2 => ?_) (fun e2 => ?_)).trans h
  · subst e2
    exact Blk.ne_ h hp.blk h1 rfl
  · rcases hp.own with ⟨h8, _⟩ | ⟨g2, cap2, h8, cur2, hcur2, _⟩
    · rw [h8] at e2; cases e2
    · rw [h8] at e2
      obtain rfl : g2 = g := by simpa [Value.ownBlock] using e2
      exact Blk.ne_ h hcur2 h2 rfl
/-- One more patch. -/
theorem PB.app (h : PB ba B v L w) (hB : B ≤ w.heap.size) (hX : Below w.heap.size w X) (ha : EApp elPa v M X v' Y) : PB ba B v' M (Y.setCell ⟨ba, 0, none⟩ v') ∧ BuP ba v w (Y.setCell ⟨ba, 0, none⟩ v') ∧ OrV w v v' := by
  have hs := hX.size
  have hbY : Blk Y ba 31 #[v] := (h.blk.thru0 hX).grown ha.2.1 (fun e => h.ne e.symm)
  refine ⟨⟨hbY.set1 v', ha.1.offB hbY (by decide) 0 v', fun i hi => ?_⟩, ⟨?_, ?_, ?_, ?_, fun k hk h1 h2 => ?_⟩, ?_⟩
  · rcases ha.2.2 i hi with h3 | h3
    · exact h.far i h3
    · omega
  · exact ha.2.1.os.trans hX.os
  · exact ha.2.1.tape.trans hX.tape
  · exact ha.2.1.output.trans hX.output
  · have := ha.2.1.size
    have e : (Y.setCell ⟨ba, 0, none⟩ v').heap.size = Y.heap.size := by simp [World.setCell]
    omega
  · rw [Below.heap_setCell _ ⟨ba, 0, none⟩ _ _ h1]
    exact (ha.2.1.block k (by omega) (Ne.symm h2)).trans (hX.block k hk)
  · rcases h.own with ⟨h8, _⟩ | ⟨g2, cap2, h8, cur2, hcur2, _⟩
    · right
      intro i hi
      rcases ha.2.2 i hi with h3 | h3
      · rw [h8] at h3; cases h3
      · omega
    · by_cases e : v'.ownBlock = v.ownBlock
      · exact .inl e
      · right
        intro i hi
        rcases ha.2.2 i hi with h3 | h3
        · exact absurd (hi.trans h3.symm) e
        · omega
end
def paR (f t : Int) (r : Rn) : Pa := ⟨r.f, f, r.t, t, r.z⟩
/-- What the closure does. -/
def TellP (w : World) (ba B : Nat) (v : Value) (M : List Pa) (e : Ending) (w' : World) : Prop := e = .returned (.tuple #[]) ∧ ∃ v', PB ba B v' M w' ∧ BuP ba v w w' ∧ OrV w v v'
end
section
set_option linter.unusedVariables false
set_option linter.unusedSimpArgs false
open Go.RowKit
theorem PB.appBlk {ba B : Nat} {v v' : Value} {L M : List Pa} {w X Y : World} (h : PB ba B v L w) (hX : Below w.heap.size w X) (ha : EApp elPa v M X v' Y) : Blk Y ba 31 #[v] := (h.blk.thru0 hX).grown ha.2.1 (fun e => h.ne e.symm)
theorem BuP.low {ba : Nat} {v : Value} {w w1 w2 : World} (hb : Below w.heap.size w w1) (k : BuP ba v w1 w2) : BuP ba v w w2 :=
  ⟨k.os.trans hb.os, k.tape.trans hb.tape, k.output.trans hb.output, Nat.le_trans hb.size k.size, fun i hi h1 h2 => (k.block i (by have := hb.size; omega) h1 h2).trans (hb.block i hi)⟩
theorem OrV.low {v v1 : Value} {w w1 : World} (hs : w.heap.size ≤ w1.heap.size) (k : OrV w1 v v1) : OrV w v v1 := k.imp id fun h i hi => Nat.le_trans hs (h i hi)
set_option maxRecDepth 100000 in
set_option maxHeartbeats 8000000 in
theorem tell_any (w : World) (ba B : Nat) (v : Value) (L : List Pa) (f t : Int) (u : Value) (R : List Rn) (h : PB ba B v L w) (hB : B ≤ w.heap.size) (hr : EOwn elRn w u R) (hrl : R.length ≤ 100000) (hL : L.length ≤ 1000000000000) :
    Calls Tryz.prog 77 #[.agg #[.int .i64 f, .int .i64 t, u], .pointer (some ⟨ba, 0, none⟩)] w (TellP w ba B v (L ++ R.map (paR f t))) := by
  obtain ⟨A1, c1, rfl, -, -⟩ := hr.slice
  have hal : Below w.heap.size w (w.alloc (.cells #[.int .i64 f, .int .i64 t, .slice A1 R.length c1] 111)) := (Below.refl _ _).alloc (Nat.le_refl _) _
  have HP := Lib.hid (h.below hal)
  have HU := Lib.hid (hr.below hal)
  have HBB := Lib.hid (Blk.new w 111 #[.int .i64 f, .int .i64 t, .slice A1 R.length c1])
  have HFW := Lib.hid (fun (wr : World) (v1 : Value) (k1 : BuP ba v (w.alloc (.cells #[.int .i64 f, .int .i64 t, .slice A1 R.length c1] 111)) wr) (k2 : OrV (w.alloc (.cells #[.int .i64 f, .int .i64 t, .slice A1 R.length c1] 111)) v v1) => And.intro (k1.low hal) (k2.low hal.size))
  have HB := Lib.hid (Nat.le_trans hB hal.size)
  have HL := Lib.hid hL
  have HTY := Lib.hid (show Tryz.prog.underlying 31 = some (.slice elPa.T) from Tryz.underlying31)
  clear h hB hr hL hal
  obtain ⟨n, hn⟩ : ∃ n, n = R.length := ⟨_, rfl⟩
  rw [← hn] at HU HBB HFW hrl HP HB ⊢
  have HN := Lib.hid hn; clear hn
  have hnb : (n : Int) ≤ 100000 := by omega
  go_enter Tryz.func77, Tryz.ntmps77
  go_upto_region 1 with fail
  generalize (w.alloc (.cells #[.int .i64 f, .int .i64 t, .slice A1 n c1] 111)) = W0 at *
  generalize w.heap.size = bb at *
  have q2 := HBB.out.cell 2
  simp only [List.getElem?_toArray, List.getElem?_cons_zero, List.getElem?_cons_succ] at q2
  go_upto_region 2 with fail
  clear q2
  go_loopw [8] (fun i wr => ∃ (j : Nat), j ≤ n ∧ i = .int .i64 j ∧ Hid (∃ v1, PB ba B v1 (L ++ (R.take j).map (paR f t)) wr ∧ BuP ba v W0 wr ∧ OrV W0 v v1)) (fun i _ => n - (intOf i).toNat)
  case atStart => exact ⟨0, Nat.zero_le _, rfl, Lib.hid ⟨v, by simpa using HP.out, BuP.refl _ _ _, OrV.refl _ _⟩⟩
  case round =>
    rename World => wr
    obtain ⟨j, hj, rfl, HR⟩ := hrel
    by_cases hlt : j < n
    · have hji : (j : Int) < (n : Int) := by omega
      have hkl : j < R.length := by rw [← HN.out]; exact hlt
      have hx : R[j]? = some R[j] := List.getElem?_eq_getElem hkl
      have HTK := Lib.hid (show L ++ (R.take (j + 1)).map (paR f t) = (L ++ (R.take j).map (paR f t)) ++ [paR f t R[j]] by rw [List.take_succ_eq_append_getElem hkl, List.map_append, List.map_singleton, List.append_assoc])
      have HLE := Lib.hid (show (L ++ (R.take j).map (paR f t)).length + 1 ≤ 2000000000000 by rw [List.length_append, List.length_map, List.length_take]; have := HL.out; omega)
      obtain ⟨v1, hpb, hbu, hor⟩ := HR.out
      obtain ⟨-, g, rfl, hc1⟩ := (HU.out.buP HP.out hbu (by decide) (by decide)).cell elRn_ok hx
      have hbb := HBB.out.buP HP.out hbu (by decide) (by decide)
      clear HR
      generalize R[j] = r at *
      clear hx
      obtain ⟨r0, r1, r2⟩ := r
      have a0 : wr.cell? ⟨g, j * 3, none⟩ = some (.int .i64 r0) := hc1 0 _ rfl
      have a1 : wr.cell? ⟨g, j * 3 + 1, none⟩ = some (.int .i64 r1) := hc1 1 _ rfl
      have a2 : wr.cell? ⟨g, j * 3 + 2, none⟩ = some (.int .i64 r2) := hc1 2 _ rfl
      clear hc1
      have hal : Below wr.heap.size wr (wr.alloc (.cells #[.int .i64 r0, .int .i64 r1, .int .i64 r2] 113)) := (Below.refl _ _).alloc (Nat.le_refl _) _
      have HP1 := Lib.hid (hpb.below hal)
      have HU1 := Lib.hid (hbu.below hal)
      have HO1 := Lib.hid hor
      have HB1 := Lib.hid (hbb.thru0 hal)
      have HK1 := Lib.hid (Blk.new wr 113 #[.int .i64 r0, .int .i64 r1, .int .i64 r2])
      have HZ1 := Lib.hid (show B ≤ (wr.alloc (.cells #[.int .i64 r0, .int .i64 r1, .int .i64 r2] 113)).heap.size from Nat.le_trans HB.out (Nat.le_trans hbu.size hal.size))
      obtain ⟨A5, c5, rfl, -, -⟩ := hpb.own.slice
      clear hpb hbu hbb hor hal
      generalize L ++ (R.take j).map (paR f t) = LJ at *
      go_upto_region 4 with fail
      generalize (wr.alloc (.cells #[.int .i64 r0, .int .i64 r1, .int .i64 r2] 113)) = W1 at *
      generalize wr.heap.size = tr at *
      clear a0 a1 a2
      have b0 := HB1.out.cell 0
      have b1 := HB1.out.cell 1
      have k0 := HK1.out.cell 0
      have k1 := HK1.out.cell 1
      have k2 := HK1.out.cell 2
      have p0 := HP1.out.blk.cell 0
      simp only [List.getElem?_toArray, List.getElem?_cons_zero, List.getElem?_cons_succ] at b0 b1 k0 k1 k2 p0
      have HAB := Lib.hid (fun (ob : Obj) => (show Below W1.heap.size W1 (W1.alloc ob) from (Below.refl _ _).alloc (Nat.le_refl _) ob))
      have HRE := Lib.hid (show Reads (W1.alloc (.cells #[.int .i64 r0, .int .i64 f, .int .i64 r1, .int .i64 t, .int .i64 r2] 48)) (W1.alloc (.cells #[.int .i64 r0, .int .i64 f, .int .i64 r1, .int .i64 t, .int .i64 r2] 48)).heap.size elPa.k (some ⟨W1.heap.size, 0, none⟩) [paR f t ⟨r0, r1, r2⟩].length (elPa.encs [paR f t ⟨r0, r1, r2⟩]) from
        (EOwn.block (M := [paR f t ⟨r0, r1, r2⟩]) elPa_ok (Blk.new _ _ _) rfl (by simp)).reads elPa_ok)
      go_wp2_with ((at_builtin; refine wpList_eappr2 (e2 := 48) elPa_ok rfl (.tmp 12) (.tmp 25) 31 31 rfl HTY.out HTY.out _ LJ [paR f t ⟨r0, r1, r2⟩] (some ⟨W1.heap.size, 0, none⟩) 1 rfl rfl (HP1.out.below (HAB.out _)).own HRE.out (by have := HLE.out; simp only [maxLen, List.length_cons, List.length_nil]; omega) (by have := HLE.out; simp only [elPa, List.length_cons, List.length_nil]; omega) ?_; intro v2 w3 hA2; obtain ⟨A7, c7, hv7, -, -⟩ := hA2.1.slice; obtain ⟨m7, hm7⟩ : ∃ m7, m7 = (LJ ++ [paR f t ⟨r0, r1, r2⟩]).length := ⟨_, rfl⟩; rw [← hm7] at hv7; subst hv7; clear hm7; have hbY := HP1.out.appBlk (HAB.out _) hA2; have y0 := hbY.cell 0; have y1 := hbY.frozen 0; simp only [List.getElem?_toArray, List.getElem?_cons_zero] at y0; have HPN := Lib.hid (HP1.out.app HZ1.out (HAB.out _) hA2); have HS1 := Lib.hid HU1.out.size; clear hA2 hbY))
      go_roundw
      case rel => exact ⟨j + 1, by omega, by go_num, by
        obtain ⟨h1, h2, h3⟩ := HPN.out
        rw [← HTK.out] at h1
        exact Lib.hid ⟨_, h1, HU1.out.trans HO1.out h2, HO1.out.trans HU1.out.size h3⟩⟩
      case measure => simp [intOf]; omega
    · obtain rfl : j = n := by omega
      have hTk : R.take j = R := List.take_of_length_le (by rw [HN.out]; exact Nat.le_refl _)
      have HFN := Lib.hid (show TellP w ba B v (L ++ R.map (paR f t)) (.returned (.tuple #[])) wr from by
        obtain ⟨v1, h1, h2, h3⟩ := HR.out
        rw [hTk] at h1
        exact ⟨rfl, v1, h1, HFW.out _ _ h2 h3⟩)
      clear hTk HR
      go_wp2_with fail
      go_end0
      exact HFN.out
end
end Go.Proofs.YtmgamlpjgghieaaGreatDoor
