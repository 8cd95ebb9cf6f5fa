/- roster: what is told of a roster and of the document's row is the same; what is held between two rounds. -/
import Derived.Test.YtolbjlphpgfcpaaRoY
namespace Go.Proofs.Ytolbjlphpgfcpaa
set_option linter.unusedVariables false
set_option linter.unusedSimpArgs false
open Go.RowKit
theorem ch_put {L : List Mb} {H : Int → Option Mb} {c : Nat} (h : LH L H c) (hw : WFH H) {u : Int} (hb : fiB H u = true) (hu : u ≠ 0) {m : Mb} (hm : m.user = u) : LH (puM L m) (putH H u m) c := by
  have hs : (H u).isSome = true := by unfold fiB at hb; rw [if_neg hu] at hb; exact hb
  obtain ⟨z, hz⟩ := Option.isSome_iff_exists.1 hs
  have h1 := h.put hm (hw u z hz).2.1
  rw [if_pos hs] at h1
  exact h1
theorem wiB_iff (n a b : Int) : wiB n a b = false ↔ (n < a ∨ b < n) := by
  unfold wiB
  rw [Bool.and_eq_false_iff]
  simp only [decide_eq_false_iff_not]
  omega
theorem op_row {L : List Mb} {H : Int → Option Mb} {c : Nat} (h : LH L H c) (hw : WFH H) (q : Oq) : waE L q = opE H q ∧ LH (waL L q) (opH H q) (opC H q c) := by
  obtain ⟨kd, m, fk, fa, nn⟩ := q
  have hf := h.fi m.user
  by_cases h0 : kd = 0
  · subst h0
    cases rb : rightM m with
    | false =>
      have e1 : waE L ⟨0, m, fk, fa, nn⟩ = 1 := by rw [waE, if_pos (show (0 : Int) = 0 from rfl)]; exact if_pos rb
      have e2 : enE H m = 1 := by rw [enE, if_pos rb]
      have e3 : opE H ⟨0, m, fk, fa, nn⟩ = enE H m := if_pos rfl
      have e4 : opH H ⟨0, m, fk, fa, nn⟩ = H := by rw [opH, if_pos rfl, enH, e2]; rfl
      have e5 : opC H ⟨0, m, fk, fa, nn⟩ c = c := by rw [opC, if_pos rfl, enC, e2]; rfl
      exact ⟨by rw [e1, e3, e2], by rw [waL_ne e1 (by decide), e4, e5]; exact h⟩
    | true =>
      have hu := (rightM_iff m).1 rb
      have hr := h.rest (u := m.user) (by omega)
      have e3 : opE H ⟨0, m, fk, fa, nn⟩ = enE H m := if_pos rfl
      have e0 : waE L ⟨0, m, fk, fa, nn⟩ = enE H m := by
        rw [waE, if_pos (show (0 : Int) = 0 from rfl), enE, hr]
      refine ⟨by rw [e0, e3], ?_⟩
      rw [show opH H ⟨0, m, fk, fa, nn⟩ = enH H m from if_pos rfl, show opC H ⟨0, m, fk, fa, nn⟩ c = enC H m c from if_pos rfl]
      by_cases hz : enE H m = 0
      · have hn : (H m.user).isSome = false := by
          cases hh : (H m.user).isSome with
          | false => rfl
          | true => rw [enE, if_neg (by rw [rb]; decide), if_pos hh] at hz; exact absurd hz (by decide)
        rw [waL, if_pos (e0.trans hz), if_pos (show (0 : Int) = 0 from rfl), enH, if_pos hz, enC, if_pos hz]
        have h1 := h.put (m := m) rfl hu.1
        rw [if_neg (by rw [hn]; decide)] at h1
        exact h1
      · rw [waL, if_neg (by rw [e0]; exact hz), enH, if_neg hz, enC, if_neg hz]
        exact h
  by_cases h1 : kd = 1
  · subst h1
    have e3 : opE H ⟨1, m, fk, fa, nn⟩ = diE H m.user := by rw [opE, if_neg h0]; exact if_pos rfl
    have e4 : opH H ⟨1, m, fk, fa, nn⟩ = diH H m.user := by rw [opH, if_neg h0]; exact if_pos rfl
    have e5 : opC H ⟨1, m, fk, fa, nn⟩ c = diC H m.user c := by rw [opC, if_neg h0]; exact if_pos rfl
    have e0 : waE L ⟨1, m, fk, fa, nn⟩ = diE H m.user := by
      rw [waE, if_neg h0, if_pos (show (1 : Int) = 1 from rfl), diE]
      by_cases hu : m.user = 0
      · rw [if_pos hu, if_pos hu]
      · rw [if_neg hu, if_neg hu, h.rest hu]
    refine ⟨by rw [e0, e3], ?_⟩
    rw [e4, e5]
    by_cases hz : diE H m.user = 0
    · have hu : m.user ≠ 0 := fun e => by rw [diE, if_pos e] at hz; exact absurd hz (by decide)
      have hs : (H m.user).isSome = true := by
        cases hh : (H m.user).isSome with
        | true => rfl
        | false => rw [diE, if_neg hu, if_pos hh] at hz; exact absurd hz (by decide)
      rw [waL, if_pos (e0.trans hz), if_neg h0, if_pos (show (1 : Int) = 1 from rfl), diH, if_pos hz, diC, if_pos hz]
      exact h.del hu hs
    · rw [waL, if_neg (by rw [e0]; exact hz), diH, if_neg hz, diC, if_neg hz]
      exact h
  have hcc : opC H ⟨kd, m, fk, fa, nn⟩ c = c := by rw [opC, if_neg h0, if_neg h1]
  rw [hcc]
  cases hb : fiB H m.user with
  | false =>
    have hn : (rfO L m.user).isSome = false := by rw [← hf.1]; exact hb
    have key : ∀ (Mf : Mb → Mb) (Ef : Mb → Int), chE H m.user Ef = 21 ∧ chH H m.user Mf Ef = H := fun Mf Ef => ⟨by rw [chE, if_pos hb], by rw [chH, if_neg (fun e => by rw [hb] at e; exact absurd e.1 (by decide))]⟩
    have e1 : waE L ⟨kd, m, fk, fa, nn⟩ = 21 := by
      rw [waE, if_neg h0, if_neg h1]
      by_cases h2 : kd = 2
      · rw [if_pos h2, if_pos hn]
      · rw [if_neg h2]
        by_cases h3 : kd = 3
        · rw [if_pos h3, if_pos hn]
        · rw [if_neg h3, if_pos hn]
    have e2 : opE H ⟨kd, m, fk, fa, nn⟩ = 21 := by
      rw [opE, if_neg h0, if_neg h1]
      by_cases h2 : kd = 2
      · rw [if_pos h2]; exact (key spM _).1
      · rw [if_neg h2]
        by_cases h3 : kd = 3
        · rw [if_pos h3]; exact (key spM _).1
        · rw [if_neg h3]; exact (key spM _).1
    have e4 : opH H ⟨kd, m, fk, fa, nn⟩ = H := by
      rw [opH, if_neg h0, if_neg h1]
      by_cases h2 : kd = 2
      · rw [if_pos h2]; exact (key _ _).2
      · rw [if_neg h2]
        by_cases h3 : kd = 3
        · rw [if_pos h3]; exact (key _ _).2
        · rw [if_neg h3]; exact (key _ _).2
    exact ⟨by rw [e1, e2], by rw [waL_ne e1 (by decide), e4]; exact h⟩
  | true =>
    have hs : (rfO L m.user).isSome = true := by rw [← hf.1]; exact hb
    have hns : ¬ (rfO L m.user).isSome = false := by rw [hs]; decide
    have hfw := fi_wf hw hb
    have hnb : ¬ fiB H m.user = false := by rw [hb]; decide
    have keep : ∀ (Mf : Mb → Mb) (Ef : Mb → Int), Ef (fiM H m.user) ≠ 0 → chH H m.user Mf Ef = H := fun Mf Ef he => by rw [chH, if_neg (fun e => he e.2.1)]
    by_cases h2 : kd = 2
    · subst h2
      have e3 : opE H ⟨2, m, fk, fa, nn⟩ = prE fk (fiM H m.user) := by rw [opE, if_neg h0, if_neg h1, if_pos (show (2 : Int) = 2 from rfl), chE, if_neg hnb]
      have e4 : opH H ⟨2, m, fk, fa, nn⟩ = chH H m.user (prM fk fa) (prE fk) := by rw [opH, if_neg h0, if_neg h1]; exact if_pos rfl
      rw [e4]
      by_cases hc : m.user = 0 ∨ fk < 1 ∨ 65535 < fk
      · have e1 : waE L ⟨2, m, fk, fa, nn⟩ = 1 := by rw [waE, if_neg h0, if_neg h1, if_pos (show (2 : Int) = 2 from rfl), if_neg hns]; exact if_pos hc
        have e5 : prE fk (fiM H m.user) = 1 := by rw [prE, if_pos (by rw [hfw.1, wiB_iff]; exact hc)]
        exact ⟨by rw [e1, e3, e5], by rw [waL_ne e1 (by decide), keep _ _ (by rw [e5]; decide)]; exact h⟩
      · have e1 : waE L ⟨2, m, fk, fa, nn⟩ = 0 := by rw [waE, if_neg h0, if_neg h1, if_pos (show (2 : Int) = 2 from rfl), if_neg hns]; exact if_neg hc
        have hc2 : ¬ ((fiM H m.user).user = 0 ∨ wiB fk 1 65535 = false) := by rw [hfw.1, wiB_iff]; exact hc
        have e5 : prE fk (fiM H m.user) = 0 := by rw [prE, if_neg hc2]
        refine ⟨by rw [e1, e3, e5], ?_⟩
        have hu : m.user ≠ 0 := fun e => hc (.inl e)
        rw [waL, if_pos e1, if_neg h0, if_neg h1, if_pos (show (2 : Int) = 2 from rfl), ← hf.2, chH, if_pos ⟨hb, e5, hu⟩, prM, if_neg hc2]
        exact ch_put h hw hb hu hfw.1
    by_cases h3 : kd = 3
    · subst h3
      have e3 : opE H ⟨3, m, fk, fa, nn⟩ = quE nn (fiM H m.user) := by rw [opE, if_neg h0, if_neg h1, if_neg h2, if_pos (show (3 : Int) = 3 from rfl), chE, if_neg hnb]
      have e4 : opH H ⟨3, m, fk, fa, nn⟩ = chH H m.user (quM nn) (quE nn) := by rw [opH, if_neg h0, if_neg h1, if_neg h2]; exact if_pos rfl
      rw [e4]
      by_cases hc : m.user = 0 ∨ nn < 0 ∨ 65535 < nn
      · have e1 : waE L ⟨3, m, fk, fa, nn⟩ = 1 := by rw [waE, if_neg h0, if_neg h1, if_neg h2, if_pos (show (3 : Int) = 3 from rfl), if_neg hns]; exact if_pos hc
        have e5 : quE nn (fiM H m.user) = 1 := by rw [quE, if_pos (by rw [hfw.1, wiB_iff]; exact hc)]
        exact ⟨by rw [e1, e3, e5], by rw [waL_ne e1 (by decide), keep _ _ (by rw [e5]; decide)]; exact h⟩
      · have e1 : waE L ⟨3, m, fk, fa, nn⟩ = 0 := by rw [waE, if_neg h0, if_neg h1, if_neg h2, if_pos (show (3 : Int) = 3 from rfl), if_neg hns]; exact if_neg hc
        have hc2 : ¬ ((fiM H m.user).user = 0 ∨ wiB nn 0 65535 = false) := by rw [hfw.1, wiB_iff]; exact hc
        have e5 : quE nn (fiM H m.user) = 0 := by rw [quE, if_neg hc2]
        refine ⟨by rw [e1, e3, e5], ?_⟩
        have hu : m.user ≠ 0 := fun e => hc (.inl e)
        rw [waL, if_pos e1, if_neg h0, if_neg h1, if_neg h2, if_pos (show (3 : Int) = 3 from rfl), ← hf.2, chH, if_pos ⟨hb, e5, hu⟩, quM, if_neg hc2]
        exact ch_put h hw hb hu hfw.1
    have e3 : opE H ⟨kd, m, fk, fa, nn⟩ = spE (fiM H m.user) := by rw [opE, if_neg h0, if_neg h1, if_neg h2, if_neg h3, chE, if_neg hnb]
    have e4 : opH H ⟨kd, m, fk, fa, nn⟩ = chH H m.user spM spE := by rw [opH, if_neg h0, if_neg h1, if_neg h2, if_neg h3]
    rw [e4]
    have ew : waE L ⟨kd, m, fk, fa, nn⟩ = if m.user = 0 then 0 else if (fiM H m.user).quota = 0 then 41 else 0 := by rw [waE, if_neg h0, if_neg h1, if_neg h2, if_neg h3, if_neg hns, ← hf.2]
    by_cases hu : m.user = 0
    · have e1 : waE L ⟨kd, m, fk, fa, nn⟩ = 0 := by rw [ew, if_pos hu]
      have e6 : fiM H m.user = Mb.first := if_pos hu
      refine ⟨by rw [e1, e3, e6]; rfl, ?_⟩
      rw [waL, if_pos e1, if_neg h0, if_neg h1, if_neg h2, if_neg h3, if_pos hu, chH, if_neg (fun e => e.2.2 hu)]
      exact h
    · by_cases hq : (fiM H m.user).quota = 0
      · have e1 : waE L ⟨kd, m, fk, fa, nn⟩ = 41 := by rw [ew, if_neg hu, if_pos hq]
        have e5 : spE (fiM H m.user) = 41 := by rw [spE, if_pos hq]
        exact ⟨by rw [e1, e3, e5], by rw [waL_ne e1 (by decide), keep _ _ (by rw [e5]; decide)]; exact h⟩
      · have e1 : waE L ⟨kd, m, fk, fa, nn⟩ = 0 := by rw [ew, if_neg hu, if_neg hq]
        have e5 : spE (fiM H m.user) = 0 := by rw [spE, if_neg hq]
        refine ⟨by rw [e1, e3, e5], ?_⟩
        rw [waL, if_pos e1, if_neg h0, if_neg h1, if_neg h2, if_neg h3, if_neg hu, ← hf.2, chH, if_pos ⟨hb, e5, hu⟩, spM, if_neg hq]
        exact ch_put h hw hb hu hfw.1
theorem LH.quota {L : List Mb} {H : Int → Option Mb} {c : Nat} (h : LH L H c) (hw : WFH H) : ∀ x ∈ L, 0 ≤ x.quota ∧ x.quota ≤ 65535 := fun x hx => by
  have h1 := rfO_sorted h.sorted hx
  rw [h.find] at h1
  by_cases h0 : x.user = 0
  · rw [if_pos h0] at h1
    have e : Mb.first = x := Option.some.inj h1
    rw [← e]; decide
  · rw [if_neg h0] at h1
    exact (hw _ _ h1).2.2.2
theorem opC_le (H : Int → Option Mb) (q : Oq) (c : Nat) : opC H q c ≤ c + 1 := by
  unfold opC enC diC
  split
  · split <;> omega
  · split
    · split <;> omega
    · omega
/-- A roster and a row of its members beside it, made since w. -/
structure Rp (w wr : World) (k y : Nat) (o : Option Nat) (n c : Nat) (H : Int → Option Mb) (v : Value) (L : List Mb) : Prop where
  bel : Below w.heap.size w wr
  s : RS wr y o n H c
  row : EOwn elM wr v L
  ly : w.heap.size ≤ y
  fo : ∀ i, o = some i → w.heap.size ≤ i
  fv : ∀ i, v.ownBlock = some i → w.heap.size ≤ i
  ny : v.ownBlock ≠ some y
  no : ∀ i, o = some i → v.ownBlock ≠ some i
  ln : n ≤ k
  lc : c ≤ k
theorem Rp.below {w wr w' : World} {k y n c : Nat} {o : Option Nat} {H : Int → Option Mb} {v : Value} {L : List Mb} (h : Rp w wr k y o n c H v L) (hb : Below wr.heap.size wr w') : Rp w w' k y o n c H v L :=
  ⟨below_trans h.bel hb, h.s.below hb, h.row.below hb, h.ly, h.fo, h.fv, h.ny, h.no, h.ln, h.lc⟩
theorem Rp.want {w wr w' : World} {k y n c : Nat} {o : Option Nat} {H : Int → Option Mb} {v v' : Value} {L L' : List Mb} (h : Rp w wr k y o n c H v L) (hv : (v' = v ∧ L' = L ∧ Below wr.heap.size wr w') ∨ FE elM wr v' L' w') : Rp w w' k y o n c H v' L' := by
  rcases hv with ⟨rfl, rfl, hb⟩ | hf
  · exact h.below hb
  · exact ⟨below_trans h.bel hf.bel, h.s.below hf.bel, hf.own, h.ly, h.fo, fun i hi => Nat.le_trans h.bel.size (hf.far i hi), fun e => by have h1 := hf.far y e; have := h.s.blk.lt; omega, fun i hi e => by have h1 := hf.far i e; have := h.s.lt hi; omega, h.ln, h.lc⟩
theorem Rp.op {w wr w' : World} {k y n n' c c' : Nat} {o o' : Option Nat} {H H' : Int → Option Mb} {v : Value} {L : List Mb} (h : Rp w wr k y o n c H v L) (a : RA y o wr o' n' H' c' w') (hn : n' ≤ n + 1) (hc : c' ≤ c + 1) : Rp w w' (k + 1) y o' n' c' H' v L :=
  ⟨a.ke.bel h.bel h.ly h.fo, a.rs, h.row.keep fun i hi e => a.ke.block i hi (fun e2 => h.ny (by rw [e, e2])) (fun e2 => h.no i e2 e), h.ly, a.farB h.bel.size h.fo, h.fv, h.ny, fun i e e2 => by
    rcases a.far i e with h1 | h1
    · exact h.no i h1 e2
    · have := h.row.lt e2; omega, by have := h.ln; omega, by have := h.lc; omega⟩
end Go.Proofs.Ytolbjlphpgfcpaa
