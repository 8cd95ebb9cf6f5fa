/- Texts: HzL, HzM, HzN, HzO, HzP. -/
import Derived.Test.YtmgamlpjgghieaaGreatDoorZbHzDM
import Derived.Test.YtmgamlpjgghieaaGreatDoorZbHzHM
namespace Go.Proofs.YtmgamlpjgghieaaGreatDoor
section
set_option linter.unusedVariables false
set_option linter.unusedSimpArgs false
/-- A rule that is for someone is one that allows or caps. -/
theorem forB_ok {r : Rc} {ro ti la : Int} (h : forB r ro ti la = true) : okRc r := by
  unfold forB rurB isForB at h
  simp only [Bool.and_eq_true] at h
  obtain ⟨⟨-, h1⟩, -, -, -, h2⟩ := h
  by_cases hk : r.k = 4 ∨ r.k = 5
  · rw [if_pos hk] at h1
    simp only [Bool.and_eq_true, List.all_eq_true] at h1
    obtain ⟨-, -, -, h3, h4⟩ := h1
    unfold withinB at h4
    simp only [Bool.and_eq_true, decide_eq_true_eq] at h4
    exact ⟨hk, h4.1, h4.2, h3⟩
  · rw [if_neg hk] at h1
    by_cases h6 : r.k = 6
    · rw [if_pos h6] at h1
      simp only [Bool.and_eq_true, decide_eq_true_eq] at h1
      obtain ⟨-, -, h3, -, -⟩ := h1
      rw [h3] at h2
      unfold amongB inB at h2
      simp at h2
    · rw [if_neg h6] at h1; cases h1
theorem filt_ok (acc : List (Rc × RV)) (ro ti la : Int) : ∀ r ∈ (acc.filter fun x => forB x.1 ro ti la).map (·.1), okRc r := by
  intro r hr
  obtain ⟨x, hx, rfl⟩ := List.mem_map.1 hr
  exact forB_ok (List.mem_filter.1 hx).2
/-- What has a zoom is on the grid. -/
theorem SR_in {R : List Rc} (h : ∀ r ∈ R, okRc r) {x y : Int} (hp : 0 < SR R x y) : 0 ≤ x ∧ x ≤ 65535 ∧ 0 ≤ y ∧ y ≤ 65535 := by
  have ho := edM_ok h
  have h0 : ¬ SR R x y = 0 := by omega
  refine ⟨?_, ?_, ?_, ?_⟩
  · refine Classical.byContradiction fun hn => h0 (zmC_nil fun z => cE_none true z fun e he _ => ?_)
    have := (ho e he).1
    omega
  · refine Classical.byContradiction fun hn => h0 (zmC_nil fun z => ?_)
    rw [cE_all true z fun e he _ => by have := (ho e he).2.1; omega, cP_edM]
  · refine Classical.byContradiction fun hn => h0 (zE_none (fun e he => ?_) x)
    have := (ho e he).2.2.1
    unfold relE
    simp
    omega
  · refine Classical.byContradiction fun hn => h0 (zE_none (fun e he => ?_) x)
    have := (ho e he).2.2.2.2.1
    unfold relE
    simp
    omega
theorem SR_le (R : List Rc) (x y : Int) : SR R x y ≤ 16 := by
  unfold SR zE zmC
  have := gr_bd (grN_spec (cE (edM R) y true x))
  split <;> omega
theorem SR_nn (R : List Rc) (x y : Int) : 0 ≤ SR R x y := by
  unfold SR zE zmC
  split <;> omega
/-- A patch has a point. -/
def hasP (p : Pa) (x y : Int) : Prop := p.x0 ≤ x ∧ x ≤ p.x1 ∧ p.y0 ≤ y ∧ y ≤ p.y1
theorem pats_mem {B : List Bd} {p : Pa} : p ∈ pats B ↔ ∃ b ∈ B, ∃ r ∈ b.R, p = ⟨r.f, b.f, r.t, b.t, r.z⟩ := by
  unfold pats patB
  rw [List.mem_flatMap]
  constructor
  · rintro ⟨b, hb, h⟩
    obtain ⟨r, hr, rfl⟩ := List.mem_map.1 h
    exact ⟨b, hb, r, hr, rfl⟩
  · rintro ⟨b, hb, r, hr, rfl⟩
    exact ⟨b, hb, List.mem_map.2 ⟨r, hr, rfl⟩⟩
section
variable {S : Int → Int → Int} {L : List Pa}
theorem ZR.run_le {s : Int → Int} {R : List Rn} (h : ZR s R) {r : Rn} (hr : r ∈ R) : r.f ≤ r.t ∧ 0 < r.z := by
  obtain ⟨z, h1, _⟩ := h
  exact ⟨(h1.le r hr).1, h1.pos r hr⟩
theorem ZR.run_on {s : Int → Int} {R : List Rn} (h : ZR s R) {r : Rn} (hr : r ∈ R) {x : Int} (h1 : r.f ≤ x) (h2 : x ≤ r.t) : s x = r.z := by
  obtain ⟨z, h3, _⟩ := h
  exact h3.on r hr x h1 h2
theorem PatOf.le (h : PatOf S L) {p : Pa} (hp : p ∈ L) : p.x0 ≤ p.x1 ∧ p.y0 ≤ p.y1 ∧ 0 < p.z := by
  obtain ⟨B, hB, rfl⟩ := h
  obtain ⟨b, hb, r, hr, rfl⟩ := pats_mem.1 hp
  have h1 := hB.le b hb
  have h2 := (hB.rn b hb b.f (Int.le_refl _) h1).run_le hr
  exact ⟨h2.1, h1, h2.2⟩
theorem PatOf.on (h : PatOf S L) {p : Pa} (hp : p ∈ L) {x y : Int} (hx : hasP p x y) : S x y = p.z := by
  obtain ⟨B, hB, rfl⟩ := h
  obtain ⟨b, hb, r, hr, rfl⟩ := pats_mem.1 hp
  obtain ⟨h1, h2, h3, h4⟩ := hx
  exact (hB.rn b hb y h3 h4).run_on hr h1 h2
theorem PatOf.cov (h : PatOf S L) {x y : Int} (hs : 0 < S x y) : ∃ p ∈ L, hasP p x y := by
  obtain ⟨B, hB, rfl⟩ := h
  obtain ⟨b, hb, h1, h2⟩ := hB.cov x y hs
  obtain ⟨r, hr, h3, h4⟩ := (hB.rn b hb y h1 h2).pos_in hs
  exact ⟨_, pats_mem.2 ⟨b, hb, r, hr, rfl⟩, h3, h4, h1, h2⟩
theorem pats_apart {B : List Bd} (hl : ∀ b ∈ B, b.f ≤ b.t) (ha : B.Pairwise fun b c => b.t < c.f) (hr : ∀ b ∈ B, b.R.Pairwise fun r s => r.t < s.f) : (pats B).Pairwise fun p q => ∀ x y, hasP p x y → ¬ hasP q x y := by
  induction B with
  | nil => exact List.Pairwise.nil
  | cons b B ih =>
    rw [pats_cons, List.pairwise_append]
    refine ⟨?_, ih (fun c hc => hl c (by simp [hc])) (List.pairwise_cons.1 ha).2 (fun c hc => hr c (by simp [hc])), fun p hp q hq x y h1 h2 => ?_⟩
    · unfold patB
      rw [List.pairwise_map]
      refine (hr b (by simp)).imp fun {r s} h x y h1 h2 => ?_
      obtain ⟨g1, g2, g3, g4⟩ := h1
      obtain ⟨k1, k2, k3, k4⟩ := h2
      simp only at g1 g2 k1 k2
      omega
    · obtain ⟨r, hr2, rfl⟩ := List.mem_map.1 hp
      obtain ⟨c, hc, s, hs, rfl⟩ := pats_mem.1 hq
      have := (List.pairwise_cons.1 ha).1 c hc
      obtain ⟨g1, g2, g3, g4⟩ := h1
      obtain ⟨k1, k2, k3, k4⟩ := h2
      simp only at g3 g4 k3 k4
      omega
theorem PatOf.apart (h : PatOf S L) : L.Pairwise fun p q => ∀ x y, hasP p x y → ¬ hasP q x y := by
  obtain ⟨B, hB, rfl⟩ := h
  refine pats_apart hB.le (hB.ap.imp fun h => h.1) fun b hb => ?_
  obtain ⟨z, h1, _⟩ := hB.rn b hb b.f (Int.le_refl _) (hB.le b hb)
  exact h1.ap.imp fun h => h.1
end
def paBx0 (p : Pa) : Bx := ⟨p.x0, p.y0, p.x1, p.y1⟩
/-- Patches of rules are on the grid, each with a zoom that there is. -/
theorem PatOf.right {R : List Rc} {L : List Pa} (h : PatOf (SR R) L) (ho : ∀ r ∈ R, okRc r) {p : Pa} (hp : p ∈ L) : bxR (paBx0 p) = true ∧ 1 ≤ p.z ∧ p.z ≤ 16 := by
  have h1 := h.le hp
  have h2 := h.on hp (x := p.x0) (y := p.y0) ⟨Int.le_refl _, h1.1, Int.le_refl _, h1.2.1⟩
  have h3 := h.on hp (x := p.x1) (y := p.y1) ⟨h1.1, Int.le_refl _, h1.2.1, Int.le_refl _⟩
  have h4 := SR_in ho (x := p.x0) (y := p.y0) (by omega)
  have h5 := SR_in ho (x := p.x1) (y := p.y1) (by omega)
  have h6 := SR_le R p.x0 p.y0
  refine ⟨(rightB_iff _ _ _ _).2 ?_, by omega, by omega⟩
  simp only [paBx0]
  omega
end
section
set_option linter.unusedVariables false
set_option linter.unusedSimpArgs false
theorem cB_nn (k zz : Int) (b : Bx) (row : Int) (a : Bool) (u : Int) (z : Nat) : 0 ≤ cB k zz b row a u z := by unfold cB; split <;> omega
theorem cE_edL {k zz : Int} {L : List Bx} (h : ∀ b ∈ L, bxR b = true) (row : Int) (a : Bool) (u : Int) (z : Nat) : 0 ≤ cE (edL k zz L) row a u z ∧ (0 < cE (edL k zz L) row a u z ↔ ((k == 4) = a ∧ zz = (z : Int) ∧ ∃ b ∈ L, hasX b u row = true)) := by
  induction L with
  | nil =>
    have e : cE (edL k zz []) row a u z = 0 := rfl
    rw [e]
    exact ⟨Int.le_refl _, by simp⟩
  | cons b L ih =>
    obtain ⟨i1, i2⟩ := ih fun c hc => h c (by simp [hc])
    have e : edL k zz (b :: L) = edB k zz b ++ edL k zz L := rfl
    have hb := bx_right (h b (by simp))
    rw [e, cE_append, cE_edB hb.2.1]
    have h0 := cB_nn k zz b row a u z
    refine ⟨by omega, ?_⟩
    have hp : 0 < cB k zz b row a u z ↔ ((k == 4) = a ∧ zz = (z : Int) ∧ hasX b u row = true) := by
      unfold cB
      constructor
      · intro h9
        split at h9
        · rename_i h8
          simp only [Bool.and_eq_true, beq_iff_eq] at h8
          exact ⟨h8.1.1, h8.1.2, h8.2⟩
        · omega
      · rintro ⟨h8, h7, h6⟩
        rw [if_pos (by simp only [Bool.and_eq_true, beq_iff_eq]; exact ⟨⟨h8, h7⟩, h6⟩)]
        omega
    constructor
    · intro h9
      by_cases h8 : 0 < cB k zz b row a u z
      · obtain ⟨g1, g2, g3⟩ := hp.1 h8
        exact ⟨g1, g2, b, by simp, g3⟩
      · obtain ⟨g1, g2, c, hc, g3⟩ := i2.1 (by omega)
        exact ⟨g1, g2, c, by simp [hc], g3⟩
    · rintro ⟨g1, g2, c, hc, g3⟩
      rcases List.mem_cons.1 hc with rfl | hc
      · have := hp.2 ⟨g1, g2, g3⟩
        omega
      · have := i2.2 ⟨g1, g2, c, hc, g3⟩
        omega
theorem cE_edM {R : List Rc} (h : ∀ r ∈ R, okRc r) (row : Int) (a : Bool) (u : Int) (z : Nat) : 0 ≤ cE (edM R) row a u z ∧ (0 < cE (edM R) row a u z ↔ ∃ r ∈ R, (r.k == 4) = a ∧ r.zoom = (z : Int) ∧ ∃ b ∈ r.bx, hasX b u row = true) := by
  induction R with
  | nil =>
    have e : cE (edM []) row a u z = 0 := rfl
    rw [e]
    exact ⟨Int.le_refl _, by simp⟩
  | cons r R ih =>
    obtain ⟨i1, i2⟩ := ih fun c hc => h c (by simp [hc])
    have e : edM (r :: R) = edL r.k r.zoom r.bx ++ edM R := rfl
    obtain ⟨j1, j2⟩ := cE_edL (k := r.k) (zz := r.zoom) (h r (by simp)).2.2.2 row a u z
    rw [e, cE_append]
    refine ⟨by omega, ?_⟩
    constructor
    · intro h9
      by_cases h8 : 0 < cE (edL r.k r.zoom r.bx) row a u z
      · obtain ⟨g1, g2, g3⟩ := j2.1 h8
        exact ⟨r, by simp, g1, g2, g3⟩
      · obtain ⟨s, hs, g⟩ := i2.1 (by omega)
        exact ⟨s, by simp [hs], g⟩
    · rintro ⟨s, hs, g⟩
      rcases List.mem_cons.1 hs with rfl | hs
      · have := j2.2 g
        omega
      · have := i2.2 ⟨s, hs, g⟩
        omega
/-- The greatest zoom allowed, and the least that caps, of rules that have a point. -/
theorem zmF_spec (ro ti la x y : Int) : ∀ (acc : List (Rc × RV)) (s : Int × Int), 0 ≤ s.1 → s.2 ≤ 16 →
    let o := acc.foldl (zmS ro ti la x y) s
    s.1 ≤ o.1 ∧ o.2 ≤ s.2 ∧
    (∀ a ∈ acc, isForB a.1 ro ti la = true → a.1.bx.any (bxH x y) = true → a.1.k = 4 → a.1.zoom ≤ o.1) ∧
    (∀ a ∈ acc, isForB a.1 ro ti la = true → a.1.bx.any (bxH x y) = true → a.1.k = 5 → o.2 ≤ a.1.zoom) ∧
    (o.1 = s.1 ∨ ∃ a ∈ acc, isForB a.1 ro ti la = true ∧ a.1.bx.any (bxH x y) = true ∧ a.1.k = 4 ∧ a.1.zoom = o.1) ∧
    (o.2 = s.2 ∨ ∃ a ∈ acc, isForB a.1 ro ti la = true ∧ a.1.bx.any (bxH x y) = true ∧ a.1.k = 5 ∧ a.1.zoom = o.2) := by
  intro acc
  induction acc with
  | nil => intro s h1 h2; exact ⟨Int.le_refl _, Int.le_refl _, by simp, by simp, .inl rfl, .inl rfl⟩
  | cons a acc ih =>
    intro s h1 h2
    rw [List.foldl_cons]
    have hs : 0 ≤ (zmS ro ti la x y s a).1 ∧ (zmS ro ti la x y s a).2 ≤ 16 ∧ s.1 ≤ (zmS ro ti la x y s a).1 ∧ (zmS ro ti la x y s a).2 ≤ s.2 := by
      unfold zmS; split
      · split
        · simp only; omega
        · split
          · simp only; omega
          · omega
      · omega
    obtain ⟨g1, g2, g3, g4, g5, g6⟩ := ih (zmS ro ti la x y s a) hs.1 hs.2.1
    have e4 : isForB a.1 ro ti la = true → a.1.bx.any (bxH x y) = true → a.1.k = 4 → zmS ro ti la x y s a = (max s.1 a.1.zoom, s.2) := fun k1 k2 k3 => by
      unfold zmS; rw [if_pos (by rw [k1, k2]; rfl), if_pos k3]
    have e5 : isForB a.1 ro ti la = true → a.1.bx.any (bxH x y) = true → a.1.k = 5 → zmS ro ti la x y s a = (s.1, min s.2 a.1.zoom) := fun k1 k2 k3 => by
      unfold zmS; rw [if_pos (by rw [k1, k2]; rfl), if_neg (by omega), if_pos k3]
    have e0 : (zmS ro ti la x y s a = s) ∨ (isForB a.1 ro ti la = true ∧ a.1.bx.any (bxH x y) = true ∧ (a.1.k = 4 ∨ a.1.k = 5)) := by
      by_cases hc : (isForB a.1 ro ti la && a.1.bx.any (bxH x y)) = true
      · by_cases hk : a.1.k = 4 ∨ a.1.k = 5
        · simp only [Bool.and_eq_true] at hc
          exact .inr ⟨hc.1, hc.2, hk⟩
        · left
          unfold zmS; rw [if_pos hc, if_neg (by omega), if_neg (by omega)]
      · left
        unfold zmS; rw [if_neg hc]
    refine ⟨by omega, by omega, fun b hb k1 k2 k3 => ?_, fun b hb k1 k2 k3 => ?_, ?_, ?_⟩
    · rcases List.mem_cons.1 hb with rfl | hb
      · exact Int.le_trans (by rw [e4 k1 k2 k3]; exact Int.le_max_right _ _) g1
      · exact g3 b hb k1 k2 k3
    · rcases List.mem_cons.1 hb with rfl | hb
      · exact Int.le_trans g2 (by rw [e5 k1 k2 k3]; exact Int.min_le_right _ _)
      · exact g4 b hb k1 k2 k3
    · rcases g5 with g5 | ⟨b, hb, k⟩
      · rcases e0 with e0 | ⟨k1, k2, k3 | k3⟩
        · left; rw [g5, e0]
        · by_cases hm : s.1 ≤ a.1.zoom
          · right
            refine ⟨a, by simp, k1, k2, k3, ?_⟩
            rw [g5, e4 k1 k2 k3]; simp only; omega
          · left
            rw [g5, e4 k1 k2 k3]; simp only; omega
        · left; rw [g5, e5 k1 k2 k3]
      · exact .inr ⟨b, by simp [hb], k⟩
    · rcases g6 with g6 | ⟨b, hb, k⟩
      · rcases e0 with e0 | ⟨k1, k2, k3 | k3⟩
        · left; rw [g6, e0]
        · left; rw [g6, e4 k1 k2 k3]
        · by_cases hm : a.1.zoom ≤ s.2
          · right
            refine ⟨a, by simp, k1, k2, k3, ?_⟩
            rw [g6, e5 k1 k2 k3]; simp only; omega
          · left
            rw [g6, e5 k1 k2 k3]; simp only; omega
      · exact .inr ⟨b, by simp [hb], k⟩
theorem bxH_has (x y : Int) (b : Bx) (h : bxR b = true) : bxH x y b = hasX b x y := by
  have hb := bx_right h
  unfold bxH hasX hasB
  rw [decide_eq_decide]
  omega
/-- A point's zoom by edges is its zoom by rules. -/
theorem SR_zoom {acc : List (Rc × RV)} (h : rursB acc = true) (ro ti la x y : Int) : SR ((acc.filter fun a => forB a.1 ro ti la).map (·.1)) x y = zoomN acc ro ti la x y := by
  have hr : ∀ a ∈ acc, rurB a.1 = true := by
    unfold rursB at h
    rw [List.all_eq_true] at h
    exact h
  have hF := filt_ok acc ro ti la
  have hmem : ∀ r, r ∈ (acc.filter fun a => forB a.1 ro ti la).map (·.1) ↔ ∃ a ∈ acc, isForB a.1 ro ti la = true ∧ a.1 = r := fun r => by
    rw [List.mem_map]
    constructor
    · rintro ⟨a, ha, e⟩
      obtain ⟨h1, h2⟩ := List.mem_filter.1 ha
      unfold forB at h2
      simp only [Bool.and_eq_true] at h2
      exact ⟨a, h1, h2.2, e⟩
    · rintro ⟨a, ha, h1, e⟩
      exact ⟨a, List.mem_filter.2 ⟨ha, by unfold forB; rw [hr a ha, h1]; rfl⟩, e⟩
  generalize (acc.filter fun a => forB a.1 ro ti la).map (·.1) = F at *
  have hany : ∀ r, okRc r → (r.bx.any (bxH x y) = true ↔ ∃ b ∈ r.bx, hasX b x y = true) := fun r hk => by
    rw [List.any_eq_true]
    constructor
    · rintro ⟨b, hb, h1⟩; exact ⟨b, hb, by rw [← bxH_has x y b (hk.2.2.2 b hb)]; exact h1⟩
    · rintro ⟨b, hb, h1⟩; exact ⟨b, hb, by rw [bxH_has x y b (hk.2.2.2 b hb)]; exact h1⟩
  have c4 : ∀ z : Nat, 0 < cE (edM F) y true x z ↔ ∃ a ∈ acc, isForB a.1 ro ti la = true ∧ a.1.bx.any (bxH x y) = true ∧ a.1.k = 4 ∧ a.1.zoom = (z : Int) := fun z => by
    rw [(cE_edM hF y true x z).2]
    constructor
    · rintro ⟨r, hm, h1, h2, h3⟩
      obtain ⟨a, ha, h4, rfl⟩ := (hmem r).1 hm
      exact ⟨a, ha, h4, (hany _ (hF _ hm)).2 h3, by simpa using h1, h2⟩
    · rintro ⟨a, ha, h4, h5, h6, h7⟩
      have hm := (hmem a.1).2 ⟨a, ha, h4, rfl⟩
      exact ⟨a.1, hm, by simp [h6], h7, (hany _ (hF _ hm)).1 h5⟩
  have c5 : ∀ z : Nat, 0 < cE (edM F) y false x z ↔ ∃ a ∈ acc, isForB a.1 ro ti la = true ∧ a.1.bx.any (bxH x y) = true ∧ a.1.k = 5 ∧ a.1.zoom = (z : Int) := fun z => by
    rw [(cE_edM hF y false x z).2]
    constructor
    · rintro ⟨r, hm, h1, h2, h3⟩
      obtain ⟨a, ha, h4, rfl⟩ := (hmem r).1 hm
      have hk := (hF _ hm).1
      have h9 : ¬ a.1.k = 4 := by simpa using h1
      exact ⟨a, ha, h4, (hany _ (hF _ hm)).2 h3, by omega, h2⟩
    · rintro ⟨a, ha, h4, h5, h6, h7⟩
      have hm := (hmem a.1).2 ⟨a, ha, h4, rfl⟩
      exact ⟨a.1, hm, by simp [h6], h7, (hany _ (hF _ hm)).1 h5⟩
  have hz : ∀ a ∈ acc, isForB a.1 ro ti la = true → 0 ≤ a.1.zoom ∧ a.1.zoom ≤ 16 := fun a ha h1 => by
    have := hF _ ((hmem a.1).2 ⟨a, ha, h1, rfl⟩)
    exact ⟨this.2.1, this.2.2.1⟩
  obtain ⟨-, -, g3, g4, g5, g6⟩ := zmF_spec ro ti la x y acc (0, 16) (by decide) (by decide)
  unfold zoomN
  rw [if_pos h]
  unfold SR zE zmC
  have e : zmF acc ro ti la x y = acc.foldl (zmS ro ti la x y) (0, 16) := rfl
  rw [← e] at g3 g4 g5 g6
  generalize zmF acc ro ti la x y = o at *
  obtain ⟨o1, o2⟩ := o
  simp only at g3 g4 g5 g6 ⊢
  have hgr := grN_spec (cE (edM F) y true x)
  have hle := leN_spec (cE (edM F) y false x)
  generalize grN (cE (edM F) y true x) = g at *
  generalize leN (cE (edM F) y false x) = l at *
  have r2 : o2 = min 16 l ∧ 0 ≤ o2 := by
    rcases hle with ⟨rfl, h2⟩ | ⟨k, h1, rfl, h3, h4⟩
    · rcases g6 with g6 | ⟨a, ha, k1, k2, k3, k4⟩
      · omega
      · have h9 := hz a ha k1
        obtain ⟨k, hk⟩ := Int.eq_ofNat_of_zero_le h9.1
        exact absurd ((c5 k).2 ⟨a, ha, k1, k2, k3, hk⟩) (h2 k (by omega))
    · obtain ⟨a, ha, k1, k2, k3, k4⟩ := (c5 k).1 h3
      have h8 := g4 a ha k1 k2 k3
      rcases g6 with g6 | ⟨b, hb, j1, j2, j3, j4⟩
      · omega
      · have h9 := hz b hb j1
        obtain ⟨q, hq⟩ := Int.eq_ofNat_of_zero_le h9.1
        have := h4 q (by omega) ((c5 q).2 ⟨b, hb, j1, j2, j3, hq⟩)
        omega
  have r1 : o1 = max 0 g := by
    rcases hgr with ⟨rfl, h2⟩ | ⟨k, h1, rfl, h3, h4⟩
    · rcases g5 with g5 | ⟨a, ha, k1, k2, k3, k4⟩
      · omega
      · have h9 := hz a ha k1
        obtain ⟨k, hk⟩ := Int.eq_ofNat_of_zero_le h9.1
        exact absurd ((c4 k).2 ⟨a, ha, k1, k2, k3, hk⟩) (h2 k (by omega))
    · obtain ⟨a, ha, k1, k2, k3, k4⟩ := (c4 k).1 h3
      have h8 := g3 a ha k1 k2 k3
      rcases g5 with g5 | ⟨b, hb, j1, j2, j3, j4⟩
      · omega
      · have h9 := hz b hb j1
        obtain ⟨q, hq⟩ := Int.eq_ofNat_of_zero_le h9.1
        have := h4 q (by omega) ((c4 q).2 ⟨b, hb, j1, j2, j3, hq⟩)
        omega
  have hg := gr_bd hgr
  have hl := le_bd hle
  clear c4 c5 hgr hle g3 g4 g5 g6
  split <;> omega
end
section
set_option linter.unusedVariables false
set_option linter.unusedSimpArgs false
theorem len_line {α : Type} (f t : α → Int) : ∀ (L : List α) (lo hi : Int), L.Pairwise (fun a b => t a < f b) → (∀ a ∈ L, f a ≤ t a ∧ lo ≤ f a ∧ t a ≤ hi) → lo ≤ hi + 1 → (L.length : Int) ≤ hi + 1 - lo := by
  intro L
  induction L with
  | nil => intro lo hi _ _ h; simp; omega
  | cons a L ih =>
    intro lo hi hp ha h
    have h1 := ha a (by simp)
    have := ih (t a + 1) hi (List.pairwise_cons.1 hp).2 (fun b hb => by
      have h2 := ha b (by simp [hb])
      have h3 := (List.pairwise_cons.1 hp).1 b hb
      omega) (by omega)
    rw [List.length_cons]
    omega
theorem pats_len {B : List Bd} {n : Nat} (h : ∀ b ∈ B, b.R.length ≤ n) : (pats B).length ≤ B.length * n := by
  induction B with
  | nil => simp [pats]
  | cons b B ih =>
    rw [pats_cons, List.length_append, List.length_cons, Nat.succ_mul]
    have h1 := h b (by simp)
    have h2 := ih fun c hc => h c (by simp [hc])
    have h3 : (patB b).length = b.R.length := by unfold patB; rw [List.length_map]
    omega
theorem PatOf.len {R : List Rc} {L : List Pa} (h : PatOf (SR R) L) (ho : ∀ r ∈ R, okRc r) : L.length ≤ 4294967296 := by
  have hr := fun p hp => h.right ho (p := p) hp
  obtain ⟨B, hB, rfl⟩ := h
  have hn : ∀ b ∈ B, b.R.length ≤ 65536 ∧ 0 ≤ b.f ∧ b.t ≤ 65535 := by
    intro b hb
    have hz := hB.rn b hb b.f (Int.le_refl _) (hB.le b hb)
    have hin : ∀ r ∈ b.R, 0 ≤ r.f ∧ r.t ≤ 65535 ∧ 0 ≤ b.f ∧ b.t ≤ 65535 := fun r hr2 => by
      have h1 := (rightB_iff _ _ _ _).1 (hr _ (pats_mem.2 ⟨b, hb, r, hr2, rfl⟩)).1
      simp only [paBx0] at h1
      omega
    obtain ⟨z, h1, _⟩ := id hz
    have h2 := len_line Rn.f Rn.t b.R 0 65535 (h1.ap.imp fun h => h.1) (fun r hr2 => ⟨(hz.run_le hr2).1, (hin r hr2).1, (hin r hr2).2.1⟩) (by decide)
    have h3 := hB.ne b hb
    cases hR : b.R with
    | nil => exact absurd hR h3
    | cons r Q =>
      have := hin r (by rw [hR]; simp)
      rw [hR] at h2
      exact ⟨by omega, this.2.2⟩
  have h2 := len_line Bd.f Bd.t B 0 65535 (hB.ap.imp fun h => h.1) (fun b hb => ⟨hB.le b hb, (hn b hb).2⟩) (by decide)
  have h3 := pats_len (B := B) (n := 65536) fun b hb => (hn b hb).1
  have h4 : B.length * 65536 ≤ 65536 * 65536 := Nat.mul_le_mul_right _ (by omega)
  omega
theorem PNc_len {R : List Rc} (ho : ∀ r ∈ R, okRc r) : (PNc R).length * 40 ≤ 140737488355328 := by
  by_cases hx : ∃ L, PatOf (SR R) L
  · obtain ⟨L, hL⟩ := hx
    rw [PNc_of hL]
    have := hL.len ho
    omega
  · unfold PNc
    rw [dif_neg hx]
    simp
end
section
set_option linter.unusedVariables false
set_option linter.unusedSimpArgs false
theorem sc_all {E : List Ed} (hs : E.Pairwise fun a b => a.x ≤ b.x) (ho : ∀ e ∈ E, EdOk e) (row : Int) : ∀ n, n ≤ E.length → ∃ x l, ScI E (E.take n) row x l := by
  intro n
  induction n with
  | zero => intro _; exact ⟨0, [], by rw [List.take_zero]; exact ScI.start ho⟩
  | succ n ih =>
    intro hn
    obtain ⟨x, l, h⟩ := ih (by omega)
    have hk : n < E.length := by omega
    rw [List.take_succ_eq_append_getElem hk]
    cases hr : relE E[n] row with
    | false => exact ⟨x, l, h.skip hr⟩
    | true => exact ⟨_, _, h.go (Q := E.drop (n + 1)) (by rw [← List.drop_eq_getElem_cons hk, List.take_append_drop]) hs (ho _ (List.getElem_mem hk)) hr⟩
theorem bj_all {E : List Ed} {R : List Rc} {ys : List Int} (hp : E.Perm (edM R)) (hs : E.Pairwise fun a b => a.x ≤ b.x) (ho : ∀ e ∈ E, EdOk e) (hy : RowsIs E ys) : ∀ j, j ≤ ys.length → ∃ D f Q, BJ (fun x v => zE E v x) ys j D f Q := by
  intro j
  induction j with
  | zero => intro _; exact ⟨[], 0, [], BJ.start hy ho⟩
  | succ j ih =>
    intro hj
    obtain ⟨D, f, Q, h⟩ := ih (by omega)
    have hk : j < ys.length := by omega
    obtain ⟨x, l, hl⟩ := sc_all hs ho ys[j] E.length (Nat.le_refl _)
    rw [List.take_length] at hl
    have hz := runs_done hp hl
    by_cases e : l = Q
    · subst e
      exact ⟨D, f, l, h.same hy hk hz⟩
    · exact ⟨_, _, _, h.turn hy ho hk hz e⟩
theorem pat_ex {R : List Rc} (ho : ∀ r ∈ R, okRc r) : ∃ L, PatOf (SR R) L := by
  have hp : ((edM R).mergeSort fun a b => decide (a.x ≤ b.x)).Perm (edM R) := List.mergeSort_perm _ _
  have hs : ((edM R).mergeSort fun a b => decide (a.x ≤ b.x)).Pairwise fun a b => a.x ≤ b.x := (List.pairwise_mergeSort (le := fun a b : Ed => decide (a.x ≤ b.x)) (fun a b c h1 h2 => by simp at h1 h2 ⊢; omega) (fun a b => by simp; omega) (edM R)).imp fun h => by simpa using h
  generalize ((edM R).mergeSort fun a b => decide (a.x ≤ b.x)) = E at *
  have he : ∀ e ∈ E, EdOk e := fun e h => edM_ok ho e (hp.mem_iff.1 h)
  have hy := rowsIs_of E
  obtain ⟨D, f, Q, h⟩ := bj_all hp hs he hy _ (Nat.le_refl _)
  exact ⟨_, (h.done hy).congr fun x y => zE_perm hp y x⟩
theorem PNc_pat {R : List Rc} (ho : ∀ r ∈ R, okRc r) : PatOf (SR R) (PNc R) := by
  obtain ⟨L, hL⟩ := pat_ex ho
  rw [PNc_of hL]
  exact hL
end
section
set_option linter.unusedVariables false
set_option linter.unusedSimpArgs false
open Go.RowKit
/-- How many boxes rules have. -/
def bxN (acc : List (Rc × RV)) : Nat := (acc.map fun a => a.1.bx.length).sum
theorem bxN_snoc (acc : List (Rc × RV)) (a : Rc × RV) : bxN (acc ++ [a]) = bxN acc + a.1.bx.length := by unfold bxN; rw [List.map_append, List.sum_append]; simp
/-- What small tells: where it says yes, there are few boxes. -/
def SmallP (w : World) (acc : List (Rc × RV)) (e : Ending) (w' : World) : Prop := (∃ b, e = .returned (.bool b) ∧ (b = true → bxN acc ≤ 12 ∧ acc.length ≤ 8)) ∧ Below w.heap.size w w'
theorem SmallP.no {w w' : World} {acc : List (Rc × RV)} (h : Below w.heap.size w w') : SmallP w acc (.returned (.bool false)) w' := ⟨⟨false, rfl, by simp⟩, h⟩
set_option maxRecDepth 100000 in
set_option maxHeartbeats 4000000 in
theorem small_any (w : World) (v : Value) (acc : List (Rc × RV)) (h : RRd w v acc) (hby : ∀ x ∈ acc, x.1.bx.length * elR.by_ ≤ 140737488355328) :
    Calls Tryz.prog 15 #[v] w (SmallP w acc) := by
  obtain ⟨A1, c1, rfl, -, -⟩ := h.1.shape6
  have HL := Lib.hid h
  have HB := Lib.hid (Below.refl w.heap.size w)
  have HBY := Lib.hid hby
  clear h hby
  obtain ⟨n, hn⟩ : ∃ n, n = acc.length := ⟨_, rfl⟩
  rw [← hn] at HL ⊢
  have HN := Lib.hid hn; clear hn
  go_enter Tryz.func15, Tryz.ntmps15
  go_wp2_with fail
  go_loopw [3, 4] (fun s i wr => ∃ (j : Nat) (q : Nat), j ≤ n ∧ j ≤ 8 ∧ s = .int .i64 q ∧ i = .int .i64 j ∧ q ≤ 12 + 4398046511104 ∧ Hid (q = bxN (acc.take j)) ∧ Hid (wr = w)) (fun _ i _ => n - (intOf i).toNat)
  case atStart => exact ⟨0, 0, Nat.zero_le _, by omega, rfl, rfl, by omega, Lib.hid rfl, Lib.hid rfl⟩
  case round =>
    rename World => wr
    obtain ⟨j, q, hj, hj8, rfl, rfl, hq, HQ, HW⟩ := hrel
    obtain rfl := HW.out
    by_cases hlt : j < n
    · have hji : (j : Int) < (n : Int) := by omega
      by_cases h7 : (7 : Int) < (j : Int)
      · go_wp2_with fail
        go_ret
        exact SmallP.no HB.out
      · by_cases h12 : (12 : Int) < (q : Int)
        · go_wp2_with fail
          go_ret
          exact SmallP.no HB.out
        · have hkl : j < acc.length := by rw [← HN.out]; exact hlt
          have hx : acc[j]? = some acc[j] := List.getElem?_eq_getElem hkl
          have HTK := Lib.hid (show bxN (acc.take (j + 1)) = bxN (acc.take j) + (acc[j]).1.bx.length by rw [List.take_succ_eq_append_getElem hkl, bxN_snoc])
          have hbl := HBY.out _ (List.getElem_mem hkl)
          have hxb := HL.out.2 _ (List.getElem_mem hkl)
          obtain ⟨g, o, rfl, hc1⟩ := HL.out.1.cell hx
          generalize acc[j] = a at *
          obtain ⟨r, xA, xn, xc⟩ := a
          simp only [RV.v] at hxb hc1 HTK hbl
          have a5 : wr.cell? ⟨g, o + j * 7 + 5, none⟩ = some (.slice xA xn xc) := hc1 5 _ rfl
          clear hc1 hx
          obtain ⟨A9, c9, hq9, -, -⟩ := hxb.shape6
          simp only [Value.slice.injEq] at hq9
          obtain ⟨rfl, rfl, rfl⟩ := hq9
          clear hxb
          generalize r.bx.length = m at *
          have hmb : m ≤ 4398046511104 := by have e : elR.by_ = 32 := rfl; rw [e] at hbl; omega
          clear hbl
          go_wp2_with fail
          go_roundw
          case rel => exact ⟨j + 1, q + m, by omega, by omega, by go_num, by go_num, by omega, Lib.hid (by rw [HTK.out, HQ.out]), by first | exact Lib.hid rfl | exact Lib.hid True.intro⟩
          case measure => simp [intOf]; omega
    · obtain rfl : j = n := by omega
      have HF := Lib.hid (show q = bxN acc by have h9 := HQ.out; rw [List.take_of_length_le (by rw [← HN.out]; exact Nat.le_refl _)] at h9; exact h9)
      by_cases h12 : (q : Int) ≤ 12
      · go_wp2_with fail
        go_ret
        exact ⟨⟨true, by simp [h12], fun _ => ⟨by have := HF.out; omega, by have := HN.out; omega⟩⟩, HB.out⟩
      · go_wp2_with fail
        go_ret
        exact ⟨⟨false, by simp [h12], by simp⟩, HB.out⟩
end
end Go.Proofs.YtmgamlpjgghieaaGreatDoor
