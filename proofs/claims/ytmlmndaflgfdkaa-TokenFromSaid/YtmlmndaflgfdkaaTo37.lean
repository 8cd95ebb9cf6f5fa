/- The document's All of tickets, by contract. -/
import Derived.Test.YtmlmndaflgfdkaaTo36
import Derived.Test.YtmlmndaflgfdkaaTo31
import Derived.Deep.RegionHeld3
import Derived.Deep.DeepCutAuto
namespace Go.Proofs.Ytmlmndaflgfdkaa
set_option linter.unusedVariables false
set_option linter.unusedSimpArgs false
open Go.RowKit
def AllB (L : List Tk) : Prop := (∀ j (hj : j < L.length), badAt (L.take j) L[j] = false) ∧ L.length ≤ 8
theorem ERd.take {α : Type} {E : El α} {w : World} {A : Option Addr} {n c k : Nat} {L : List α} (h : ERd E w (.slice A n c) L) (hk : k ≤ L.length) : ERd E w (.slice A k c) (L.take k) := by
  obtain ⟨A', c', e, h1, h2, h3⟩ := h
  injection e with e1 e2 e3
  subst e1; subst e3
  refine ⟨A, c, by rw [List.length_take, Nat.min_eq_left hk], by rw [List.length_take]; omega, h2, fun i x hx => ?_⟩
  rw [List.getElem?_take] at hx
  split at hx
  · exact h3 i x hx
  · cases hx
theorem below_d {w w' : World} (h : Below w.heap.size w w') : Below w.heap.size w w'.drew := ⟨h.os, h.tape, h.output, h.size, h.block⟩
theorem below_of_alloc {w w' : World} {o : Obj} (h : Below w.heap.size w w') : Below w.heap.size w (w'.alloc o) := h.alloc h.size o
theorem below_ten {B : Nat} {a w : World} {g : Nat} (h : Below B a w) (hg : B ≤ g) (y0 y1 y2 y3 y4 y5 y6 y7 y8 y9 : Value) : Below B a ((((((((((w.setCell ⟨g, 0, none⟩ y0).setCell ⟨g, 1, none⟩ y1).setCell ⟨g, 2, none⟩ y2).setCell ⟨g, 3, none⟩ y3).setCell ⟨g, 4, none⟩ y4).setCell ⟨g, 5, none⟩ y5).setCell ⟨g, 6, none⟩ y6).setCell ⟨g, 7, none⟩ y7).setCell ⟨g, 8, none⟩ y8).setCell ⟨g, 9, none⟩ y9) := ((((((((((h.setCell (p := ⟨g, 0, none⟩) hg y0).setCell (p := ⟨g, 1, none⟩) hg y1).setCell (p := ⟨g, 2, none⟩) hg y2).setCell (p := ⟨g, 3, none⟩) hg y3).setCell (p := ⟨g, 4, none⟩) hg y4).setCell (p := ⟨g, 5, none⟩) hg y5).setCell (p := ⟨g, 6, none⟩) hg y6).setCell (p := ⟨g, 7, none⟩) hg y7).setCell (p := ⟨g, 8, none⟩) hg y8).setCell (p := ⟨g, 9, none⟩) hg y9)
set_option maxRecDepth 100000 in
set_option maxHeartbeats 8000000 in
theorem rall_any (w : World) (v : Value) (L : List Tk) (h : ERd elT w v L) (hl : L.length ≤ 1000) (hs : SecOk L) :
    Calls Try.prog 31 #[v] w fun e w' => ∃ b : Bool, e = .returned (.bool b) ∧ (b = true ↔ AllB L) ∧ Below w.heap.size w w' := by
  obtain ⟨A1, c1, rfl, hc1, hc2⟩ := h.shape
  have HL := Lib.hid h
  clear h
  obtain ⟨n, hn⟩ : ∃ n, n = L.length := ⟨_, rfl⟩
  rw [← hn] at HL hc1 hl ⊢
  have HN := Lib.hid hn; clear hn
  go_enter Try.func31, Try.ntmps31
  go_wp2_with fail
  go_loopw [3] (fun i wr => ∃ j : Nat, j ≤ n ∧ i = .int .i64 j ∧ Hid (Below w.heap.size w wr) ∧ Hid (∀ k (hk : k < L.length), k < j → badAt (L.take k) L[k] = false)) (fun i _ => n - (intOf i).toNat)
  case atStart => exact ⟨0, Nat.zero_le _, rfl, Below.refl _ _, fun k _ hk => absurd hk (Nat.not_lt_zero _)⟩
  case round =>
    rename World => wr
    obtain ⟨j, hj, rfl, HB, HO⟩ := hrel
    by_cases hlt : j < n
    · have hjl : j < L.length := by rw [← HN.out]; exact hlt
      have hx : L[j]? = some L[j] := List.getElem?_eq_getElem hjl
      have hsx := hs _ (List.getElem_mem hjl)
      have hsx1 := hsx.1
      have hsx2 := hsx.2
      clear hsx
      have HYE := Lib.hid (show badAt (L.take j) L[j] = false → ∀ k (hk : k < L.length), k < j + 1 → badAt (L.take k) L[k] = false from fun h1 k hk hkj => by
        by_cases e : k = j
        · subst e; exact h1
        · exact HO.out k hk (by omega))
      have HNO := Lib.hid (show badAt (L.take j) L[j] = true → ¬ AllB L from fun h1 h2 => by have := h2.1 j hjl; rw [h1] at this; cases this)
      have HLE := Lib.hid (show (L.take j).length ≤ 1000 by rw [List.length_take]; omega)
      have HLT := Lib.hid (fun W (hb : Below wr.heap.size wr W) => ((HL.out.below HB.out).below hb).take (k := j) (by omega))
      obtain ⟨g, o, rfl, hgz, a0, a1, a2, a3, a4, a5, a6, a7, a8, a9⟩ := (HL.out.below HB.out).ten hx
      generalize L[j] = x at *
      clear hx
      generalize L.take j = P at *
      obtain ⟨xs, xp, ⟨g0, g1, g2, g3, g4, g5, g6, g7⟩⟩ := x
      simp only at a0 a1 a2 a3 a4 a5 a6 a7 a8 a9 hsx1 hsx2
      have hlt2 : (j : Int) < n := by omega
      have hjc : j ≤ c1 := by omega
      have hjc2 : (j : Int) ≤ c1 := by omega
      have HC0 := Lib.hid (fun W (hb : Below wr.heap.size wr W) => cell_later hb a0)
      have HC1 := Lib.hid (fun W (hb : Below wr.heap.size wr W) => cell_later hb a1)
      have HC2 := Lib.hid (fun W (hb : Below wr.heap.size wr W) => cell_later hb a2)
      have HC3 := Lib.hid (fun W (hb : Below wr.heap.size wr W) => cell_later hb a3)
      have HC4 := Lib.hid (fun W (hb : Below wr.heap.size wr W) => cell_later hb a4)
      have HC5 := Lib.hid (fun W (hb : Below wr.heap.size wr W) => cell_later hb a5)
      have HC6 := Lib.hid (fun W (hb : Below wr.heap.size wr W) => cell_later hb a6)
      have HC7 := Lib.hid (fun W (hb : Below wr.heap.size wr W) => cell_later hb a7)
      have HC8 := Lib.hid (fun W (hb : Below wr.heap.size wr W) => cell_later hb a8)
      have HC9 := Lib.hid (fun W (hb : Below wr.heap.size wr W) => cell_later hb a9)
      have HBE := Lib.hid (show badAt P ⟨xs, xp, ⟨g0, g1, g2, g3, g4, g5, g6, g7⟩⟩ = (decide (xs = 0) || rfB P xs || (decide (0 < xp) && !rfB P xp) || !rightG ⟨g0, g1, g2, g3, g4, g5, g6, g7⟩) from rfl)
      have HF1 := Lib.hid (fun W (hb : Below wr.heap.size wr W) => (rfindT_any W _ P xs (HLT.out W hb) (by have := HLE.out; omega) hsx1).mono fun e w' h => And.intro h.1 (And.intro h.2 (below_trans hb h.2)))
      have HF2 := Lib.hid (fun W (hb : Below wr.heap.size wr W) => (rfindT_any W _ P xp (HLT.out W hb) (by have := HLE.out; omega) hsx2).mono fun e w' h => And.intro h.1 (And.intro h.2 (below_trans hb h.2)))
      have HRG := Lib.hid (fun W => rrightT_any ⟨g0, g1, g2, g3, g4, g5, g6, g7⟩ W)
      generalize rfB P xs = b1 at *
      generalize rfB P xp = b2 at *
      generalize rightG ⟨g0, g1, g2, g3, g4, g5, g6, g7⟩ = b3 at *
      generalize rfG P xs = T1 at *
      generalize rfG P xp = T2 at *
      obtain ⟨t0, t1, ⟨t2, t3, t4, t5, t6, t7, t8, t9⟩⟩ := T1
      obtain ⟨s0, s1, ⟨s2, s3, s4, s5, s6, s7, s8, s9⟩⟩ := T2
      simp only [Tk.V, Gt.V] at HF1 HF2 HRG
      clear a1 a2 a3 a4 a5 a6 a7 a8 a9
      go_upto_region 4 with fail
      have HSS := Lib.hid (fun W (hb : Below wr.heap.size wr W) => And.intro (HC0.out W hb) hb)
      have HS0 := Lib.hid (HSS.out wr (Below.refl _ _))
      have HS1 := Lib.hid (HSS.out wr.drew (below_drawn (Below.refl _ _) 1))
      have HS2 := Lib.hid (fun ob => HSS.out (wr.alloc ob) ((Below.refl _ _).alloc (Nat.le_refl _) _))
      have HS2b := Lib.hid (fun ob => HSS.out (wr.drew.alloc ob) ((below_drawn (Below.refl _ _) 1).alloc (Nat.le_refl _) _))
      have HS2c := Lib.hid (fun ob => HSS.out (wr.alloc ob).drew (below_drawn ((Below.refl _ _).alloc (Nat.le_refl _) _) 1))
      go_cut [4, 5] (fun s4 s5 wx => s5 = .bool b1 ∧ Hid (Below wr.heap.size wr wx))
      case first =>
        go_region_held3 (fun w' => (w'.cell? ⟨g, o + j * 10, none⟩ = some (.int .u64 xs)) ∧ (Below wr.heap.size wr w')) (first | with_reducible exact HS0.out | with_reducible exact HS1.out | with_reducible exact HS2.out _ | with_reducible exact HS2b.out _ | with_reducible exact HS2c.out _ | with_reducible exact HS3.out | with_reducible exact HS4.out _ | with_reducible exact HS6.out _ _ _ _ _ _ _ _ _ _) (first | (go_at_call 12; refine (HF1.out _ (by first | exact below_drawn (Below.refl _ _) 1 | exact (below_drawn (Below.refl _ _) 1).alloc (Nat.le_refl _) _ | exact below_drawn ((Below.refl _ _).alloc (Nat.le_refl _) _) 1 | exact Below.refl _ _ | exact (Below.refl _ _).alloc (Nat.le_refl _) _)).mono ?_; rintro e w9 ⟨rfl, hb9, hbz⟩; have HS3 := Lib.hid (HSS.out w9 hbz); have HS4 := Lib.hid (fun ob => HSS.out _ (hbz.alloc hbz.size ob)); have HS6 := Lib.hid (fun y0 y1 y2 y3 y4 y5 y6 y7 y8 y9 => HSS.out _ (below_ten (g := wr.heap.size) hbz (Nat.le_refl _) y0 y1 y2 y3 y4 y5 y6 y7 y8 y9)); (first | (have hkz := (Blk.new wr 35 #[.int .u64 0, .int .u64 0, .int .i64 0, .int .i64 0, .int .i64 0, .int .i64 0, .int .i64 0, .int .i64 0, .bool false, .int .i64 0]).thru0 hb9; have q0 := hkz.cell 0; have f0 := hkz.frozen 0; have q1 := hkz.cell 1; have f1 := hkz.frozen 1; have q2 := hkz.cell 2; have f2 := hkz.frozen 2; have q3 := hkz.cell 3; have f3 := hkz.frozen 3; have q4 := hkz.cell 4; have f4 := hkz.frozen 4; have q5 := hkz.cell 5; have f5 := hkz.frozen 5; have q6 := hkz.cell 6; have f6 := hkz.frozen 6; have q7 := hkz.cell 7; have f7 := hkz.frozen 7; have q8 := hkz.cell 8; have f8 := hkz.frozen 8; have q9 := hkz.cell 9; have f9 := hkz.frozen 9; simp only [List.getElem?_toArray, List.getElem?_cons_zero, List.getElem?_cons_succ] at q0 q1 q2 q3 q4 q5 q6 q7 q8 q9; (try simp only [show wr.drew.heap.size = wr.heap.size from rfl] at q0 f0 q1 f1 q2 f2 q3 f3 q4 f4 q5 f5 q6 f6 q7 f7 q8 f8 q9 f9); clear hkz) | (have hkz := (Blk.new wr.drew 35 #[.int .u64 0, .int .u64 0, .int .i64 0, .int .i64 0, .int .i64 0, .int .i64 0, .int .i64 0, .int .i64 0, .bool false, .int .i64 0]).thru0 hb9; have q0 := hkz.cell 0; have f0 := hkz.frozen 0; have q1 := hkz.cell 1; have f1 := hkz.frozen 1; have q2 := hkz.cell 2; have f2 := hkz.frozen 2; have q3 := hkz.cell 3; have f3 := hkz.frozen 3; have q4 := hkz.cell 4; have f4 := hkz.frozen 4; have q5 := hkz.cell 5; have f5 := hkz.frozen 5; have q6 := hkz.cell 6; have f6 := hkz.frozen 6; have q7 := hkz.cell 7; have f7 := hkz.frozen 7; have q8 := hkz.cell 8; have f8 := hkz.frozen 8; have q9 := hkz.cell 9; have f9 := hkz.frozen 9; simp only [List.getElem?_toArray, List.getElem?_cons_zero, List.getElem?_cons_succ] at q0 q1 q2 q3 q4 q5 q6 q7 q8 q9; (try simp only [show wr.drew.heap.size = wr.heap.size from rfl] at q0 f0 q1 f1 q2 f2 q3 f3 q4 f4 q5 f5 q6 f6 q7 f7 q8 f8 q9 f9); clear hkz) | (have hkz := (Blk.new wr 35 #[.int .u64 0, .int .u64 0, .int .i64 0, .int .i64 0, .int .i64 0, .int .i64 0, .int .i64 0, .int .i64 0, .bool false, .int .i64 0]).drew.thru0 hb9; have q0 := hkz.cell 0; have f0 := hkz.frozen 0; have q1 := hkz.cell 1; have f1 := hkz.frozen 1; have q2 := hkz.cell 2; have f2 := hkz.frozen 2; have q3 := hkz.cell 3; have f3 := hkz.frozen 3; have q4 := hkz.cell 4; have f4 := hkz.frozen 4; have q5 := hkz.cell 5; have f5 := hkz.frozen 5; have q6 := hkz.cell 6; have f6 := hkz.frozen 6; have q7 := hkz.cell 7; have f7 := hkz.frozen 7; have q8 := hkz.cell 8; have f8 := hkz.frozen 8; have q9 := hkz.cell 9; have f9 := hkz.frozen 9; simp only [List.getElem?_toArray, List.getElem?_cons_zero, List.getElem?_cons_succ] at q0 q1 q2 q3 q4 q5 q6 q7 q8 q9; (try simp only [show wr.drew.heap.size = wr.heap.size from rfl] at q0 f0 q1 f1 q2 f2 q3 f3 q4 f4 q5 f5 q6 f6 q7 f7 q8 f8 q9 f9); clear hkz) | skip)))
        all_goals
          go_wp2
          go_meet
          rename_i hS
          exact ⟨by simp, Lib.hid hS.2⟩
      case rest =>
        rename World => w5
        obtain ⟨rfl, HB5⟩ := hcut
        clear a0
        have HC1b := Lib.hid (fun W (hb : Below w5.heap.size w5 W) => HC1.out W (below_trans HB5.out hb))
        have HF2b := Lib.hid (fun W (hb : Below w5.heap.size w5 W) => (HF2.out W (below_trans HB5.out hb)).mono fun e w' h => And.intro h.1 (And.intro h.2.1 (below_trans hb h.2.1)))
        have a1 := HC1.out w5 HB5.out
        go_upto_region 5 with fail
        have HSS := Lib.hid (fun W (hb : Below w5.heap.size w5 W) => And.intro (HC1b.out W hb) hb)
        have HS0 := Lib.hid (HSS.out w5 (Below.refl _ _))
        have HS1 := Lib.hid (HSS.out w5.drew (below_drawn (Below.refl _ _) 1))
        have HS2 := Lib.hid (fun ob => HSS.out (w5.alloc ob) ((Below.refl _ _).alloc (Nat.le_refl _) _))
        have HS2b := Lib.hid (fun ob => HSS.out (w5.drew.alloc ob) ((below_drawn (Below.refl _ _) 1).alloc (Nat.le_refl _) _))
        have HS2c := Lib.hid (fun ob => HSS.out (w5.alloc ob).drew (below_drawn ((Below.refl _ _).alloc (Nat.le_refl _) _) 1))
        go_cut [6, 7] (fun s4 s5 wx => s5 = .bool b2 ∧ Hid (Below w5.heap.size w5 wx))
        case first =>
          go_region_held3 (fun w' => (w'.cell? ⟨g, o + j * 10 + 1, none⟩ = some (.int .u64 xp)) ∧ (Below w5.heap.size w5 w')) (first | with_reducible exact HS0.out | with_reducible exact HS1.out | with_reducible exact HS2.out _ | with_reducible exact HS2b.out _ | with_reducible exact HS2c.out _ | with_reducible exact HS3.out | with_reducible exact HS4.out _ | with_reducible exact HS6.out _ _ _ _ _ _ _ _ _ _) (first | (go_at_call 12; refine (HF2b.out _ (by first | exact below_drawn (Below.refl _ _) 1 | exact (below_drawn (Below.refl _ _) 1).alloc (Nat.le_refl _) _ | exact below_drawn ((Below.refl _ _).alloc (Nat.le_refl _) _) 1 | exact Below.refl _ _ | exact (Below.refl _ _).alloc (Nat.le_refl _) _)).mono ?_; rintro e w9 ⟨rfl, hb9, hbz⟩; have HS3 := Lib.hid (HSS.out w9 hbz); have HS4 := Lib.hid (fun ob => HSS.out _ (hbz.alloc hbz.size ob)); have HS6 := Lib.hid (fun y0 y1 y2 y3 y4 y5 y6 y7 y8 y9 => HSS.out _ (below_ten (g := w5.heap.size) hbz (Nat.le_refl _) y0 y1 y2 y3 y4 y5 y6 y7 y8 y9)); (first | (have hkz := (Blk.new w5 35 #[.int .u64 0, .int .u64 0, .int .i64 0, .int .i64 0, .int .i64 0, .int .i64 0, .int .i64 0, .int .i64 0, .bool false, .int .i64 0]).thru0 hb9; have q0 := hkz.cell 0; have f0 := hkz.frozen 0; have q1 := hkz.cell 1; have f1 := hkz.frozen 1; have q2 := hkz.cell 2; have f2 := hkz.frozen 2; have q3 := hkz.cell 3; have f3 := hkz.frozen 3; have q4 := hkz.cell 4; have f4 := hkz.frozen 4; have q5 := hkz.cell 5; have f5 := hkz.frozen 5; have q6 := hkz.cell 6; have f6 := hkz.frozen 6; have q7 := hkz.cell 7; have f7 := hkz.frozen 7; have q8 := hkz.cell 8; have f8 := hkz.frozen 8; have q9 := hkz.cell 9; have f9 := hkz.frozen 9; simp only [List.getElem?_toArray, List.getElem?_cons_zero, List.getElem?_cons_succ] at q0 q1 q2 q3 q4 q5 q6 q7 q8 q9; (try simp only [show w5.drew.heap.size = w5.heap.size from rfl] at q0 f0 q1 f1 q2 f2 q3 f3 q4 f4 q5 f5 q6 f6 q7 f7 q8 f8 q9 f9); clear hkz) | (have hkz := (Blk.new w5.drew 35 #[.int .u64 0, .int .u64 0, .int .i64 0, .int .i64 0, .int .i64 0, .int .i64 0, .int .i64 0, .int .i64 0, .bool false, .int .i64 0]).thru0 hb9; have q0 := hkz.cell 0; have f0 := hkz.frozen 0; have q1 := hkz.cell 1; have f1 := hkz.frozen 1; have q2 := hkz.cell 2; have f2 := hkz.frozen 2; have q3 := hkz.cell 3; have f3 := hkz.frozen 3; have q4 := hkz.cell 4; have f4 := hkz.frozen 4; have q5 := hkz.cell 5; have f5 := hkz.frozen 5; have q6 := hkz.cell 6; have f6 := hkz.frozen 6; have q7 := hkz.cell 7; have f7 := hkz.frozen 7; have q8 := hkz.cell 8; have f8 := hkz.frozen 8; have q9 := hkz.cell 9; have f9 := hkz.frozen 9; simp only [List.getElem?_toArray, List.getElem?_cons_zero, List.getElem?_cons_succ] at q0 q1 q2 q3 q4 q5 q6 q7 q8 q9; (try simp only [show w5.drew.heap.size = w5.heap.size from rfl] at q0 f0 q1 f1 q2 f2 q3 f3 q4 f4 q5 f5 q6 f6 q7 f7 q8 f8 q9 f9); clear hkz) | (have hkz := (Blk.new w5 35 #[.int .u64 0, .int .u64 0, .int .i64 0, .int .i64 0, .int .i64 0, .int .i64 0, .int .i64 0, .int .i64 0, .bool false, .int .i64 0]).drew.thru0 hb9; have q0 := hkz.cell 0; have f0 := hkz.frozen 0; have q1 := hkz.cell 1; have f1 := hkz.frozen 1; have q2 := hkz.cell 2; have f2 := hkz.frozen 2; have q3 := hkz.cell 3; have f3 := hkz.frozen 3; have q4 := hkz.cell 4; have f4 := hkz.frozen 4; have q5 := hkz.cell 5; have f5 := hkz.frozen 5; have q6 := hkz.cell 6; have f6 := hkz.frozen 6; have q7 := hkz.cell 7; have f7 := hkz.frozen 7; have q8 := hkz.cell 8; have f8 := hkz.frozen 8; have q9 := hkz.cell 9; have f9 := hkz.frozen 9; simp only [List.getElem?_toArray, List.getElem?_cons_zero, List.getElem?_cons_succ] at q0 q1 q2 q3 q4 q5 q6 q7 q8 q9; (try simp only [show w5.drew.heap.size = w5.heap.size from rfl] at q0 f0 q1 f1 q2 f2 q3 f3 q4 f4 q5 f5 q6 f6 q7 f7 q8 f8 q9 f9); clear hkz) | skip)))
          all_goals
            go_wp2
            go_meet
            rename_i hS
            exact ⟨by simp, Lib.hid hS.2⟩
        case rest =>
          rename World => w6
          obtain ⟨rfl, HB6⟩ := hcut
          have HBV := Lib.hid (below_trans HB5.out HB6.out)
          have HBW := Lib.hid (below_trans HB.out HBV.out)
          clear a1
          have a0 := HC0.out w6 HBV.out
          have a1 := HC1.out w6 HBV.out
          have a2 := HC2.out w6 HBV.out
          have a3 := HC3.out w6 HBV.out
          have a4 := HC4.out w6 HBV.out
          have a5 := HC5.out w6 HBV.out
          have a6 := HC6.out w6 HBV.out
          have a7 := HC7.out w6 HBV.out
          have a8 := HC8.out w6 HBV.out
          have a9 := HC9.out w6 HBV.out
          clear HC0 HC1 HC2 HC3 HC4 HC5 HC6 HC7 HC8 HC9
          have e0 : (((0 : Nat)) : Int) = 0 := rfl
          by_cases hx0 : xs = 0
          · subst hx0
            rw [e0] at a0
            clear e0
            have HBD : Hid (badAt P ⟨0, xp, ⟨g0, g1, g2, g3, g4, g5, g6, g7⟩⟩ = true) := Lib.hid (by rw [HBE.out]; simp)
            clear HBE HYE HLT HF1 HF2 HF2b HC1b
            go_wp2_with (go_at_call 26; refine (HRG.out _).mono ?_; rintro e w9 ⟨rfl, hb9⟩; have HB9 := Lib.hid (below_trans HBW.out hb9); clear hb9)
            go_ret
            first | exact ⟨false, rfl, ⟨(fun h => by cases h), fun h => absurd h (HNO.out HBD.out)⟩, HBW.out⟩ | exact ⟨false, rfl, ⟨(fun h => by cases h), fun h => absurd h (HNO.out HBD.out)⟩, HB9.out⟩
          · have hx1 : ¬ (xs : Int) = 0 := by omega
            have hx2 : ((xs : Int) == 0) = false := by simpa using hx0
            cases b1 with
            | true =>
              have HBD : Hid (badAt P ⟨xs, xp, ⟨g0, g1, g2, g3, g4, g5, g6, g7⟩⟩ = true) := Lib.hid (by rw [HBE.out]; simp)
              clear HBE HYE HLT HF1 HF2 HF2b HC1b
              go_wp2_with (go_at_call 26; refine (HRG.out _).mono ?_; rintro e w9 ⟨rfl, hb9⟩; have HB9 := Lib.hid (below_trans HBW.out hb9); clear hb9)
              go_ret
              first | exact ⟨false, rfl, ⟨(fun h => by cases h), fun h => absurd h (HNO.out HBD.out)⟩, HBW.out⟩ | exact ⟨false, rfl, ⟨(fun h => by cases h), fun h => absurd h (HNO.out HBD.out)⟩, HB9.out⟩
            | false =>
              by_cases hp : xp = 0
              · subst hp
                rw [e0] at a1
                clear e0
                cases b3 with
                | false =>
                  have HBD : Hid (badAt P ⟨xs, 0, ⟨g0, g1, g2, g3, g4, g5, g6, g7⟩⟩ = true) := Lib.hid (by rw [HBE.out]; simp)
                  clear HBE HYE HLT HF1 HF2 HF2b HC1b
                  go_wp2_with (go_at_call 26; refine (HRG.out _).mono ?_; rintro e w9 ⟨rfl, hb9⟩; have HB9 := Lib.hid (below_trans HBW.out hb9); clear hb9)
                  go_ret
                  first | exact ⟨false, rfl, ⟨(fun h => by cases h), fun h => absurd h (HNO.out HBD.out)⟩, HBW.out⟩ | exact ⟨false, rfl, ⟨(fun h => by cases h), fun h => absurd h (HNO.out HBD.out)⟩, HB9.out⟩
                | true =>
                  have HGD : Hid (badAt P ⟨xs, 0, ⟨g0, g1, g2, g3, g4, g5, g6, g7⟩⟩ = false) := Lib.hid (by rw [HBE.out]; simp [hx0])
                  clear HBE HNO HLT HF1 HF2 HF2b HC1b
                  go_wp2_with (go_at_call 26; refine (HRG.out _).mono ?_; rintro e w9 ⟨rfl, hb9⟩; have HB9 := Lib.hid (below_trans HBW.out hb9); clear hb9)
                  go_roundw
                  case rel => exact ⟨j + 1, by omega, by go_num, HB9, Lib.hid (HYE.out HGD.out)⟩
                  case measure => simp [intOf]; omega
              · have hp1 : (0 : Int) < (xp : Int) := by omega
                clear e0
                cases b2 with
                | false =>
                  have HBD : Hid (badAt P ⟨xs, xp, ⟨g0, g1, g2, g3, g4, g5, g6, g7⟩⟩ = true) := Lib.hid (by rw [HBE.out]; simp; omega)
                  clear HBE HYE HLT HF1 HF2 HF2b HC1b
                  go_wp2_with (go_at_call 26; refine (HRG.out _).mono ?_; rintro e w9 ⟨rfl, hb9⟩; have HB9 := Lib.hid (below_trans HBW.out hb9); clear hb9)
                  go_ret
                  first | exact ⟨false, rfl, ⟨(fun h => by cases h), fun h => absurd h (HNO.out HBD.out)⟩, HBW.out⟩ | exact ⟨false, rfl, ⟨(fun h => by cases h), fun h => absurd h (HNO.out HBD.out)⟩, HB9.out⟩
                | true =>
                  cases b3 with
                  | false =>
                    have HBD : Hid (badAt P ⟨xs, xp, ⟨g0, g1, g2, g3, g4, g5, g6, g7⟩⟩ = true) := Lib.hid (by rw [HBE.out]; simp)
                    clear HBE HYE HLT HF1 HF2 HF2b HC1b
                    go_wp2_with (go_at_call 26; refine (HRG.out _).mono ?_; rintro e w9 ⟨rfl, hb9⟩; have HB9 := Lib.hid (below_trans HBW.out hb9); clear hb9)
                    go_ret
                    first | exact ⟨false, rfl, ⟨(fun h => by cases h), fun h => absurd h (HNO.out HBD.out)⟩, HBW.out⟩ | exact ⟨false, rfl, ⟨(fun h => by cases h), fun h => absurd h (HNO.out HBD.out)⟩, HB9.out⟩
                  | true =>
                    have HGD : Hid (badAt P ⟨xs, xp, ⟨g0, g1, g2, g3, g4, g5, g6, g7⟩⟩ = false) := Lib.hid (by rw [HBE.out]; simp [hx0])
                    clear HBE HNO HLT HF1 HF2 HF2b HC1b
                    go_wp2_with (go_at_call 26; refine (HRG.out _).mono ?_; rintro e w9 ⟨rfl, hb9⟩; have HB9 := Lib.hid (below_trans HBW.out hb9); clear hb9)
                    go_roundw
                    case rel => exact ⟨j + 1, by omega, by go_num, HB9, Lib.hid (HYE.out HGD.out)⟩
                    case measure => simp [intOf]; omega
    · obtain rfl : j = n := by omega
      have HB9 := HB
      have HAL : Hid (AllB L ↔ j ≤ 8) := Lib.hid ⟨fun h => by rw [HN.out]; exact h.2, fun h => ⟨fun k hk => HO.out k hk (by rw [HN.out]; exact hk), by rw [← HN.out]; exact h⟩⟩
      go_wp2_with fail
      go_ret
      exact ⟨decide ((j : Int) ≤ 8), rfl, by rw [HAL.out]; simp; omega, HB9.out⟩
end Go.Proofs.Ytmlmndaflgfdkaa
