/- Texts: HzD, HzE, HzF. -/
import Derived.Test.YtmgamlpjgghieaaGreatDoorZbHzBM
import Derived.Test.YtmgamlpjgghieaaGreatDoorZbGeomM
namespace Go.Proofs.YtmgamlpjgghieaaGreatDoor
section
set_option linter.unusedVariables false
set_option linter.unusedSimpArgs false
open Go.RowKit
/-- A rule that is for someone. -/
def okRc (r : Rc) : Prop := (r.k = 4 ∨ r.k = 5) ∧ 0 ≤ r.zoom ∧ r.zoom ≤ 16 ∧ ∀ b ∈ r.bx, bxR b = true
theorem edM_ok {R : List Rc} (h : ∀ r ∈ R, okRc r) : ∀ e ∈ edM R, EdOk e := by
  intro e he
  unfold edM edL at he
  obtain ⟨r, hr, he⟩ := List.mem_flatMap.1 he
  obtain ⟨b, hb, he⟩ := List.mem_flatMap.1 he
  obtain ⟨h1, h2, h3, h4⟩ := h r hr
  have := bx_right (h4 b hb)
  simp only [edB, List.mem_cons, List.not_mem_nil, or_false] at he
  rcases he with rfl | rfl
  · exact ⟨by simp only; omega, by simp only; omega, by simp only; omega, by simp only; omega, by simp only; omega, h1, h2, h3, .inl rfl⟩
  · exact ⟨by simp only; omega, by simp only; omega, by simp only; omega, by simp only; omega, by simp only; omega, h1, h2, h3, .inr rfl⟩
/-- What each point has, of rules. -/
def SR (R : List Rc) (x y : Int) : Int := zE (edM R) y x
/-- What patches tells. -/
def PatsP (w : World) (R : List Rc) (e : Ending) (w' : World) : Prop := ∃ v L, e = .returned v ∧ EOwn elPa w' v L ∧ PatOf (SR R) L ∧ (∀ i, v.ownBlock = some i → w.heap.size ≤ i) ∧ Below w.heap.size w w' ∧ L.length ≤ 1000000000000
theorem below_buP {ba : Nat} {w w1 w2 : World} (hb : Below w.heap.size w w1) (hba : w.heap.size ≤ ba) (h : BuP ba (.slice none 0 0) w1 w2) : Below w.heap.size w w2 :=
  ⟨h.os.trans hb.os, h.tape.trans hb.tape, h.output.trans hb.output, Nat.le_trans hb.size h.size, fun k hk => (h.block k (by have := hb.size; omega) (by omega) (by simp [Value.ownBlock])).trans (hb.block k hk)⟩
set_option maxRecDepth 100000 in
set_option maxHeartbeats 8000000 in
theorem patches_any (w : World) (v : Value) (acc : List (Rc × RV)) (h : RRd w v acc) (hl : acc.length ≤ 1000) (hr : ∀ r ∈ acc.map (·.1), okRc r) (he : (edM (acc.map (·.1))).length ≤ 100000) (hT : TzOk w) :
    Calls Tryz.prog 59 #[v] w (PatsP w (acc.map (·.1))) := by
  have hal : Below w.heap.size w (w.alloc (.cells #[.slice none 0 0] 31)) := (Below.refl _ _).alloc (Nat.le_refl _) _
  have HB := Lib.hid (Blk.new w 31 #[.slice none 0 0])
  have HAL := Lib.hid hal
  have HT := Lib.hid (hT.below hal)
  have HE := Lib.hid (edges_any _ v acc (h.below hal) hl (fun x hx b hb => (hr _ (List.mem_map.2 ⟨x, hx, rfl⟩)).2.2.2 b hb) he)
  have HR := Lib.hid hr
  have HL := Lib.hid he
  have HBA := Lib.hid (Nat.le_refl w.heap.size)
  clear h hl hr he hT hal
  go_enter Tryz.func59, Tryz.ntmps59
  go_upto_region 2 with fail
  generalize (w.alloc (.cells #[.slice none 0 0] 31)) = W0 at *
  obtain ⟨ba, hba⟩ : ∃ ba, w.heap.size = ba := ⟨_, rfl⟩
  rw [hba] at HB
  have HBB := Lib.hid (show w.heap.size ≤ ba from by omega)
  (try rw [hba])
  clear hba HBA
  go_wp2_with fail
  refine HE.out.mono ?_
  rintro e w2 ⟨ve, E, rfl, hfe, hp, hs⟩
  have HA2 := Lib.hid (HAL.out.trans (hfe.bel.mono HAL.out.size))
  have HBD := Lib.hid (bands_any w2 ba ve E (acc.map (·.1)) hfe.own hp hs (fun d hd => edM_ok HR.out d (hp.mem_iff.1 hd)) (HT.out.below hfe.bel) (by rw [hp.length_eq]; exact HL.out) (HB.out.thru0 hfe.bel))
  have HPE := Lib.hid hp
  clear hfe hp hs HE HB HT HAL HL HR
  go_wp2_with fail
  refine HBD.out.mono ?_
  rintro e w3 ⟨rfl, v3, L, hpb, hpo, hbu, hln⟩
  have p0 := hpb.blk.cell 0
  simp only [List.getElem?_toArray, List.getElem?_cons_zero] at p0
  have HFN := Lib.hid (show PatsP w (acc.map (·.1)) (.returned v3) w3 from ⟨v3, L, rfl, hpb.own, hpo.congr (fun x y => zE_perm HPE.out y x), fun i hi => Nat.le_trans HA2.out.size (hpb.far i hi), below_buP HA2.out HBB.out hbu, hln⟩)
  obtain ⟨A5, c5, rfl, -, -⟩ := hpb.own.slice
  clear hpb hpo hbu hln HBD
  go_wp2_with fail
  go_ret
  exact HFN.out
end
section
set_option linter.unusedVariables false
set_option linter.unusedSimpArgs false
def hasX (x : Bx) (u row : Int) : Bool := decide (x.x0 ≤ u ∧ u ≤ x.x1 ∧ x.y0 ≤ row ∧ row ≤ x.y1)
def cB (k zz : Int) (x : Bx) (row : Int) (a : Bool) (u : Int) (z : Nat) : Int := if (((k == 4) == a) && (zz == (z : Int)) && hasX x u row) = true then 1 else 0
theorem cE_edB {k zz : Int} {x : Bx} (hx : x.x0 ≤ x.x1) (row : Int) (a : Bool) (u : Int) (z : Nat) : cE (edB k zz x) row a u z = cB k zz x row a u z := by
  unfold cE edB cB
  rw [List.filter_cons, List.filter_cons, List.filter_nil]
  by_cases h1 : x.x0 ≤ u
  · by_cases h2 : x.x1 + 1 ≤ u
    · have h3 : hasX x u row = false := by unfold hasX; simp; omega
      simp only [h1, h2, decide_true, if_true, h3, Bool.and_false]
      have := cP_zero row a z k zz x
      unfold edB at this
      simp only [this]
      simp
    · have h3 : hasX x u row = relE ⟨x.x0, x.y0, x.y1, k, zz, 1⟩ row := by unfold hasX relE; rw [decide_eq_decide]; simp only; omega
      simp only [h1, h2, decide_true, decide_false, if_true, h3, cP_cons, cP_nil]
      unfold termP clsE
      simp only [Bool.false_eq_true, if_false, Int.add_zero]
      have e : (relE ⟨x.x0, x.y0, x.y1, k, zz, 1⟩ row && ((k == 4) == a) && (zz == (z : Int))) = (((k == 4) == a) && (zz == (z : Int)) && relE ⟨x.x0, x.y0, x.y1, k, zz, 1⟩ row) := by
        rw [Bool.and_assoc, Bool.and_comm]
      rw [e]
      simp [cP_nil]
  · have h2 : ¬ x.x1 + 1 ≤ u := by omega
    have h3 : hasX x u row = false := by unfold hasX; simp; omega
    simp [h1, h2, h3, cP_nil]
theorem grN_at (b : Bool) : grN (fun z => if (((12 : Int) == (z : Int)) && b) = true then 1 else 0) = if b = true then 12 else -1 := by
  cases b <;> decide
theorem leN_at (b : Bool) : leN (fun z => if (((5 : Int) == (z : Int)) && b) = true then 1 else 0) = if b = true then 5 else 64 := by
  cases b <;> decide
def exA : Rc := ⟨4, 255, 0, 7, 255, [⟨0, 0, 9, 9⟩], 12⟩
def exC : Rc := ⟨5, 255, 0, 7, 255, [⟨5, 0, 9, 4⟩], 5⟩
theorem ex_cE (row : Int) (a : Bool) (u : Int) (z : Nat) : cE (edM [exA, exC]) row a u z = cB 4 12 ⟨0, 0, 9, 9⟩ row a u z + cB 5 5 ⟨5, 0, 9, 4⟩ row a u z := by
  have h : edM [exA, exC] = edB 4 12 ⟨0, 0, 9, 9⟩ ++ edB 5 5 ⟨5, 0, 9, 4⟩ := rfl
  rw [h, cE_append, cE_edB (by decide), cE_edB (by decide)]
theorem ex_true (row u : Int) : cE (edM [exA, exC]) row true u = fun z : Nat => if (((12 : Int) == (z : Int)) && hasX ⟨0, 0, 9, 9⟩ u row) = true then (1 : Int) else 0 := by
  funext z
  rw [ex_cE]
  have h1 : cB 5 5 ⟨5, 0, 9, 4⟩ row true u z = 0 := by unfold cB; rw [if_neg (by simp)]
  rw [h1, Int.add_zero]
  unfold cB
  have h2 : (((4 : Int) == 4) == true) = true := by decide
  rw [h2, Bool.true_and]
theorem ex_false (row u : Int) : cE (edM [exA, exC]) row false u = fun z : Nat => if (((5 : Int) == (z : Int)) && hasX ⟨5, 0, 9, 4⟩ u row) = true then (1 : Int) else 0 := by
  funext z
  rw [ex_cE]
  have h1 : cB 4 12 ⟨0, 0, 9, 9⟩ row false u z = 0 := by unfold cB; rw [if_neg (by simp)]
  rw [h1, Int.zero_add]
  unfold cB
  have h2 : (((5 : Int) == 4) == false) = true := by decide
  rw [h2, Bool.true_and]
theorem ex_SR (x y : Int) : SR [exA, exC] x y = if 0 ≤ x ∧ x ≤ 9 ∧ 0 ≤ y ∧ y ≤ 9 then (if 5 ≤ x ∧ y ≤ 4 then 5 else 12) else 0 := by
  unfold SR zE zmC
  rw [ex_true, ex_false, grN_at, leN_at]
  have h1 : hasX ⟨0, 0, 9, 9⟩ x y = decide (0 ≤ x ∧ x ≤ 9 ∧ 0 ≤ y ∧ y ≤ 9) := rfl
  have h2 : hasX ⟨5, 0, 9, 4⟩ x y = decide (5 ≤ x ∧ x ≤ 9 ∧ 0 ≤ y ∧ y ≤ 4) := rfl
  rw [h1, h2]
  by_cases h3 : 0 ≤ x ∧ x ≤ 9 ∧ 0 ≤ y ∧ y ≤ 9
  · rw [if_pos h3, decide_eq_true h3]
    by_cases h4 : 5 ≤ x ∧ y ≤ 4
    · rw [if_pos h4, decide_eq_true (show 5 ≤ x ∧ x ≤ 9 ∧ 0 ≤ y ∧ y ≤ 4 by omega)]
      decide
    · rw [if_neg h4, decide_eq_false (show ¬ (5 ≤ x ∧ x ≤ 9 ∧ 0 ≤ y ∧ y ≤ 4) by omega)]
      decide
  · rw [if_neg h3, decide_eq_false h3, decide_eq_false (show ¬ (5 ≤ x ∧ x ≤ 9 ∧ 0 ≤ y ∧ y ≤ 4) by omega)]
    decide
def exW : List Pa := [⟨0, 0, 4, 4, 12⟩, ⟨5, 0, 9, 4, 5⟩, ⟨0, 5, 9, 9, 12⟩]
theorem ex_pat : PatOf (SR [exA, exC]) exW := by
  refine ⟨[⟨0, 4, [⟨0, 4, 12⟩, ⟨5, 9, 5⟩]⟩, ⟨5, 9, [⟨0, 9, 12⟩]⟩], ⟨?_, ?_, ?_, ?_, ?_⟩, rfl⟩
  · intro b hb; simp at hb; rcases hb with rfl | rfl <;> simp
  · intro b hb; simp at hb; rcases hb with rfl | rfl <;> simp
  · intro b hb y h1 h2
    simp only [List.mem_cons, List.not_mem_nil, or_false] at hb
    rcases hb with rfl | rfl
    · simp only at h1 h2
      refine ⟨10, ⟨?_, ?_, ?_, ?_, ?_⟩, fun x hx => ?_⟩
      · intro r hr; simp at hr; rcases hr with rfl | rfl <;> simp
      · intro r hr; simp at hr; rcases hr with rfl | rfl <;> simp
      · simp
      · intro r hr x g1 g2
        simp only [List.mem_cons, List.not_mem_nil, or_false] at hr
        rw [ex_SR]
        rcases hr with rfl | rfl <;> simp only at g1 g2 ⊢
        · rw [if_pos (by omega), if_neg (by omega)]
        · rw [if_pos (by omega), if_pos (by omega)]
      · intro x hx hn
        rw [ex_SR, if_neg]
        rintro ⟨g1, g2, -⟩
        refine hn ?_
        by_cases h5 : x ≤ 4
        · exact ⟨⟨0, 4, 12⟩, by simp, g1, h5⟩
        · exact ⟨⟨5, 9, 5⟩, by simp, by simp only; omega, g2⟩
      · show SR [exA, exC] x y = 0
        rw [ex_SR, if_neg (by omega)]
    · simp only at h1 h2
      refine ⟨10, ⟨?_, ?_, ?_, ?_, ?_⟩, fun x hx => ?_⟩
      · intro r hr; simp at hr; subst hr; simp
      · intro r hr; simp at hr; subst hr; simp
      · simp
      · intro r hr x g1 g2
        simp only [List.mem_cons, List.not_mem_nil, or_false] at hr
        rw [ex_SR]
        subst hr
        simp only at g1 g2 ⊢
        rw [if_pos (by omega), if_neg (by omega)]
      · intro x hx hn
        rw [ex_SR, if_neg]
        rintro ⟨g1, g2, -⟩
        exact hn ⟨⟨0, 9, 12⟩, by simp, g1, g2⟩
      · show SR [exA, exC] x y = 0
        rw [ex_SR, if_neg (by omega)]
  · simp
  · intro x y hp
    rw [ex_SR] at hp
    by_cases h3 : 0 ≤ x ∧ x ≤ 9 ∧ 0 ≤ y ∧ y ≤ 9
    · by_cases h4 : y ≤ 4
      · exact ⟨⟨0, 4, [⟨0, 4, 12⟩, ⟨5, 9, 5⟩]⟩, by simp, by simp only; omega, by simp only; omega⟩
      · exact ⟨⟨5, 9, [⟨0, 9, 12⟩]⟩, by simp, by simp only; omega, by simp only; omega⟩
    · rw [if_neg h3] at hp; omega
/-- The patches of rules. -/
noncomputable def PNc (R : List Rc) : List Pa := by
  classical
  exact if h : ∃ L, PatOf (SR R) L then h.choose else []
theorem PNc_of {R : List Rc} {L : List Pa} (h : PatOf (SR R) L) : PNc R = L := by
  have hx : ∃ L, PatOf (SR R) L := ⟨L, h⟩
  unfold PNc
  rw [dif_pos hx]
  exact hx.choose_spec.uniq h
theorem PNc_nil : PNc [] = [] := PNc_of ⟨[], ⟨by simp, by simp, by simp, List.Pairwise.nil, fun x y hp => by
  have : SR [] x y = 0 := zE_none (fun e he => by cases he) x
  omega⟩, rfl⟩
end
section
set_option linter.unusedVariables false
set_option linter.unusedSimpArgs false
open Go.RowKit
theorem rect14_any (a b c d : Int) (w : World) : Calls Tryz.prog 27 #[.int .i64 a, .int .i64 b, .int .i64 c, .int .i64 d] w fun e w' => e = .returned (.agg #[.int .i64 a, .int .i64 b, .int .i64 c, .int .i64 d]) ∧ Below w.heap.size w w' := by
  have HB := Lib.hid (fun (o : Obj) => (show Below w.heap.size w (w.alloc o) from (Below.refl _ _).alloc (Nat.le_refl _) o))
  go_enter Tryz.func27, Tryz.ntmps27
  go_wp2_with fail
  refine bodyPost_ret (v := .agg #[.int .i64 a, .int .i64 b, .int .i64 c, .int .i64 d]) ?_ rfl ⟨rfl, ?_⟩
  · simp [results, Tryz.results27, go_sem, *]
  · first | exact HB.out _ | go_grown
def areaX (r : Bx) : Int := (r.x1 - r.x0 + 1) * (r.y1 - r.y0 + 1)
def paBx (p : Pa) : Bx := ⟨p.x0, p.y0, p.x1, p.y1⟩
def meetB (x r : Bx) : Bx := ⟨max x.x0 r.x0, max x.y0 r.y0, min x.x1 r.x1, min x.y1 r.y1⟩
def meetOk (x r : Bx) : Bool := bxR x && (bxR r && bxR (meetB x r))
def meetV (x r : Bx) : Bx := if meetOk x r = true then meetB x r else ⟨0, 0, 0, 0⟩
theorem meetG_any (x r : Bx) (w : World) : Calls Tryz.prog 51 #[.agg #[.int .i64 x.x0, .int .i64 x.y0, .int .i64 x.x1, .int .i64 x.y1], .agg #[.int .i64 r.x0, .int .i64 r.y0, .int .i64 r.x1, .int .i64 r.y1]] w fun e w' => e = .returned (.tuple #[.agg #[.int .i64 (meetV x r).x0, .int .i64 (meetV x r).y0, .int .i64 (meetV x r).x1, .int .i64 (meetV x r).y1], .bool (meetOk x r)]) ∧ Below w.heap.size w w' := by
  cases h1 : bxR x with
  | false =>
    have e : meetOk x r = false := by unfold meetOk; rw [h1]; rfl
    unfold meetV
    rw [e]
    exact meet_no1 _ _ _ _ _ _ _ _ h1 w
  | true =>
    cases h2 : bxR r with
    | false =>
      have e : meetOk x r = false := by unfold meetOk; rw [h1, h2]; rfl
      unfold meetV
      rw [e]
      exact meet_no2 _ _ _ _ _ _ _ _ h1 h2 w
    | true =>
      cases h3 : bxR (meetB x r) with
      | false =>
        have e : meetOk x r = false := by unfold meetOk; rw [h1, h2, h3]; rfl
        unfold meetV
        rw [e]
        exact meet_no3 _ _ _ _ _ _ _ _ h1 h2 h3 w
      | true =>
        have e : meetOk x r = true := by unfold meetOk; rw [h1, h2, h3]; rfl
        unfold meetV
        rw [e]
        exact meet_yes _ _ _ _ _ _ _ _ h1 h2 h3 w
theorem ERd.pa5 {w : World} {A : Option Addr} {n c : Nat} {L : List Pa} (h : ERd elPa w (.slice A n c) L) {i : Nat} {x : Pa} (hi : L[i]? = some x) : ∃ g o, A = some ⟨g, o, none⟩ ∧ g < w.heap.size ∧
    w.cell? ⟨g, o + i * 5, none⟩ = some (.int .i64 x.x0) ∧ w.cell? ⟨g, o + i * 5 + 1, none⟩ = some (.int .i64 x.y0) ∧ w.cell? ⟨g, o + i * 5 + 2, none⟩ = some (.int .i64 x.x1) ∧ w.cell? ⟨g, o + i * 5 + 3, none⟩ = some (.int .i64 x.y1) ∧ w.cell? ⟨g, o + i * 5 + 4, none⟩ = some (.int .i64 x.z) := by
  obtain ⟨g, o, rfl, hc⟩ := h.cell hi
  have h0 := hc 0 _ rfl
  exact ⟨g, o, rfl, World.block_lt_of_cell? w _ h0, h0, hc 1 _ rfl, hc 2 _ rfl, hc 3 _ rfl, hc 4 _ rfl⟩
set_option maxRecDepth 100000 in
set_option maxHeartbeats 4000000 in
theorem same14_self (w : World) (v1 v2 : Value) (L : List Pa) (h1 : ERd elPa w v1 L) (h2 : ERd elPa w v2 L) (hl : L.length ≤ 100000000) :
    Calls Tryz.prog 16 #[v1, v2] w fun e w' => e = .returned (.bool true) ∧ Below w.heap.size w w' := by
  obtain ⟨A1, c1, rfl, -, -⟩ := h1.shape6
  obtain ⟨A2, c2, rfl, -, -⟩ := h2.shape6
  have H1 := Lib.hid h1
  have H2 := Lib.hid h2
  clear h1 h2
  obtain ⟨n, hn⟩ : ∃ n, n = L.length := ⟨_, rfl⟩
  rw [← hn] at H1 H2 hl ⊢
  have HN := Lib.hid hn; clear hn
  have hne : ((n : Int) != (n : Int)) = false := by simp
  have HB0 := Lib.hid (Below.refl w.heap.size w)
  go_enter Tryz.func16, Tryz.ntmps16
  go_wp2_with fail
  go_loopw [5] (fun i wr => ∃ (k : Nat), k ≤ n ∧ i = .int .i64 k ∧ Hid (Below w.heap.size w wr)) (fun i _ => n - (intOf i).toNat)
  case atStart => exact ⟨0, Nat.zero_le _, rfl, HB0⟩
  case round =>
    rename World => wr
    obtain ⟨k, hk, rfl, HB⟩ := hrel
    by_cases hlt : k < n
    · have hki : (k : Int) < (n : Int) := by omega
      have hk0 : (0 : Int) ≤ (k : Int) := by omega
      have hx : L[k]? = some L[k] := List.getElem?_eq_getElem (by rw [← HN.out]; exact hlt)
      obtain ⟨g1, o1, rfl, -, a0, a1, a2, a3, a4⟩ := (H1.out.below HB.out).pa5 hx
      obtain ⟨g2, o2, rfl, -, b0, b1, b2, b3, b4⟩ := (H2.out.below HB.out).pa5 hx
      generalize L[k] = x at *
      clear hx
      obtain ⟨x0, x1, x2, x3, x4⟩ := x
      simp only at a0 a1 a2 a3 a4 b0 b1 b2 b3 b4
      have f0 : (x0 == x0) = true := by simp
      have f1 : (x1 == x1) = true := by simp
      have f2 : (x2 == x2) = true := by simp
      have f3 : (x3 == x3) = true := by simp
      have f4 : (x4 == x4) = true := by simp
      go_wp2_with fail
      go_quiet (fail)
      go_wp2_with fail
      go_roundw
      case rel => exact ⟨k + 1, by omega, by go_num, Lib.hid ⟨HB.out.os, HB.out.tape, HB.out.output, HB.out.size, HB.out.block⟩⟩
      case measure => simp [intOf]; omega
    · obtain rfl : k = n := by omega
      go_wp2
      go_ret
      exact ⟨rfl, HB.out⟩
end
end Go.Proofs.YtmgamlpjgghieaaGreatDoor
