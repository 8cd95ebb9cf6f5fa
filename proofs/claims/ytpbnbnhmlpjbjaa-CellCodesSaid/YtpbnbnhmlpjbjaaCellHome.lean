/- cell.Home by contract. -/
import Derived.Test.YtpbnbnhmlpjbjaaCellSnap
import Derived.Test.YtpbnbnhmlpjbjaaGeomCornP
import Derived.Deep.LoopGhost
import Derived.Outline
import Derived.RegionTactic
namespace Go.Proofs.Ytpbnbnhmlpjbjaa
set_option linter.unusedVariables false
set_option linter.unusedSimpArgs false
open Go.RowKit
theorem smB_iff (a b c d : Int) (l : Nat) : smB a b c d l = true ↔ (c / 2 ^ (16 - l) = a / 2 ^ (16 - l) ∧ d / 2 ^ (16 - l) = b / 2 ^ (16 - l)) := by
  simp only [smB, decide_eq_true_eq]; exact ⟨fun h => ⟨h.1.symm, h.2.symm⟩, fun h => ⟨h.1.symm, h.2.symm⟩⟩
theorem sm_zero (a b c d : Int) (h : rightB a b c d = true) : smB a b c d 0 = true := by
  have hr := (rightB_iff _ _ _ _).1 h
  rw [smB_iff]
  have e : (2 : Int) ^ (16 - 0) = 65536 := by decide
  rw [e]; omega
theorem div_16 (a : Int) (h0 : 0 ≤ a) (h1 : a ≤ 65535) : a / 2 ^ (16 - (0 - 1)) = 0 := by
  rw [show (2 : Int) ^ (16 - (0 - 1)) = 65536 by decide]; omega
/-- What stands at the head of round k. -/
def HomeR (a b c d : Int) (w : World) (gC gH : Nat) (k : Nat) (wr : World) : Prop :=
  k ≤ 17 ∧ (∀ j, j < k → smB a b c d j = true) ∧ Below w.heap.size w wr ∧ Blk wr w.heap.size 29 #[.int .i64 a, .int .i64 b, .int .i64 c, .int .i64 d] ∧ Blk wr (w.heap.size + 1) 23 #[.int .i64 0, .int .i64 0, .int .i64 0] ∧ Blk wr gC 25 #[.int .i64 a, .int .i64 b, .int .i64 c, .int .i64 b, .int .i64 a, .int .i64 d, .int .i64 c, .int .i64 d] ∧ Blk wr gH 23 #[.int .i64 (((k - 1 : Nat) : Int)), .int .i64 (a / 2 ^ (16 - (k - 1))), .int .i64 (b / 2 ^ (16 - (k - 1)))] ∧ w.heap.size + 1 < gH
set_option maxHeartbeats 2000000 in
theorem home_yes (a b c d : Int) (h : rightB a b c d = true) (w : World) :
    Calls Try.prog 33 #[.agg #[.int .i64 a, .int .i64 b, .int .i64 c, .int .i64 d]] w fun e w' => e = .returned (.tuple #[.agg #[.int .i64 (hlv a b c d 16 : Int), .int .i64 (a / 2 ^ (16 - hlv a b c d 16)), .int .i64 (b / 2 ^ (16 - hlv a b c d 16))], .bool true]) ∧ Below w.heap.size w w' := by
  have hr := (rightB_iff _ _ _ _).1 h
  have hs0 := Lib.hid (sm_zero a b c d h)
  have fab : fitsB a b = true := (fitsB_iff _ _).2 (by omega)
  have fcb : fitsB c b = true := (fitsB_iff _ _).2 (by omega)
  have fad : fitsB a d = true := (fitsB_iff _ _).2 (by omega)
  have fcd : fitsB c d = true := (fitsB_iff _ _).2 (by omega)
  go_enter Try.func33, Try.ntmps33
  go_wp2_with fail
  go_step3
  go_wp2_with fail
  refine (right_any _ _ _ _ _).mono ?_
  rintro e w1 ⟨rfl, hb⟩
  have P : Blk w1 (w.heap.size) 29 #[.int .i64 a, .int .i64 b, .int .i64 c, .int .i64 d] := Blk.thru0 ((Blk.newAt (by simp)).alloc _) hb
  have R : Blk w1 (w.heap.size + 1) 23 #[.int .i64 0, .int .i64 0, .int .i64 0] := Blk.thru0 (Blk.newAt (by simp)) hb
  have hB : Below w.heap.size w w1 := below_trans (by go_grown) hb
  have hszw1 := hb.size
  (try simp at hszw1)
  clear hb
  have kP0 := P.cell 0
  have kP1 := P.cell 1
  have kP2 := P.cell 2
  have kP3 := P.cell 3
  have kR0 := R.cell 0
  have kR1 := R.cell 1
  have kR2 := R.cell 2
  simp only [List.getElem?_toArray, List.getElem?_cons_zero, List.getElem?_cons_succ] at kP0 kP1 kP2 kP3 kR0 kR1 kR2
  have zP := P.lt
  have zR := R.lt
  have fR0 := R.frozen 0
  have fR1 := R.frozen 1
  have fR2 := R.frozen 2
  go_wp2_with fail
  refine (corners_yes a b c d h _).mono ?_
  rintro e w2 ⟨gC, rfl, BC, hb⟩
  replace P : Blk w2 (w.heap.size) 29 #[.int .i64 a, .int .i64 b, .int .i64 c, .int .i64 d] := Blk.thru0 (P) hb
  replace R : Blk w2 (w.heap.size + 1) 23 #[.int .i64 0, .int .i64 0, .int .i64 0] := Blk.thru0 (R) hb
  have hs := hB.size
  replace hB : Below w.heap.size w w2 := below_trans (by go_grown) hb
  clear hs
  clear kP0 kP1 kP2 kP3 kR0 kR1 kR2 zP zR fR0 fR1 fR2
  have hszw2 := hb.size
  (try simp at hszw2)
  clear hb
  have kP0 := P.cell 0
  have kP1 := P.cell 1
  have kP2 := P.cell 2
  have kP3 := P.cell 3
  have kR0 := R.cell 0
  have kR1 := R.cell 1
  have kR2 := R.cell 2
  simp only [List.getElem?_toArray, List.getElem?_cons_zero, List.getElem?_cons_succ] at kP0 kP1 kP2 kP3 kR0 kR1 kR2
  have zP := P.lt
  have zR := R.lt
  have fR0 := R.frozen 0
  have fR1 := R.frozen 1
  have fR2 := R.frozen 2
  clear kP0 kP1 kP2 kP3 kR0 kR1 kR2 zP zR fR0 fR1 fR2
  have kP0 := P.cell 0
  have kP1 := P.cell 1
  have kP2 := P.cell 2
  have kP3 := P.cell 3
  have kR0 := R.cell 0
  have kR1 := R.cell 1
  have kR2 := R.cell 2
  have kBC0 := BC.cell 0
  have kBC1 := BC.cell 1
  have kBC2 := BC.cell 2
  have kBC3 := BC.cell 3
  have kBC4 := BC.cell 4
  have kBC5 := BC.cell 5
  have kBC6 := BC.cell 6
  have kBC7 := BC.cell 7
  simp only [List.getElem?_toArray, List.getElem?_cons_zero, List.getElem?_cons_succ] at kP0 kP1 kP2 kP3 kR0 kR1 kR2 kBC0 kBC1 kBC2 kBC3 kBC4 kBC5 kBC6 kBC7
  have zP := P.lt
  have zR := R.lt
  have fR0 := R.frozen 0
  have fR1 := R.frozen 1
  have fR2 := R.frozen 2
  have zBC := BC.lt
  go_wp2
  go_step3
  go_wp2
  have hs := hB.size
  go_loopg [19] 17 (fun g i wr => ∃ k : Nat, i = .int .i64 k ∧ Hid (g + k = 17) ∧ HomeR a b c d w gC w2.heap.size k wr)
  case atStart =>
    refine ⟨0, rfl, by simp [Hid], by omega, fun j hj => absurd hj (by omega), by go_grown, P.alloc _, R.alloc _, BC.alloc _, ?_, by omega⟩
    rw [div_16 a (by omega) (by omega), div_16 b (by omega) (by omega)]; exact Blk.new _ _ _
  case round =>
    clear hB hs P R BC kP0 kP1 kP2 kP3 kR0 kR1 kR2 kBC0 kBC1 kBC2 kBC3 kBC4 kBC5 kBC6 kBC7 zP zR fR0 fR1 fR2 zBC
    obtain ⟨k, rfl, hg, hk, hsm, hB, P, R, BC, H, hgH⟩ := hrel
    generalize w2.heap.size = gH at *
    have HS := Lib.hid hsm; clear hsm
    by_cases hlt : k < 17
    · have hof : ∀ x y w, fitsB x y = true → _ := fun x y w hf => cof_at k x y (by omega) hf w
      have hsm := smB_iff a b c d k
      have q0 := pow_pos' (16 - k)
      generalize hq : (2 : Int) ^ (16 - k) = q at hof hsm q0
      have HO := Lib.hid hof; clear hof
      have hk1 : k = 0 → smB a b c d k = true := fun e => by subst e; exact hs0.out
      have HK := Lib.hid hk1; have HM := Lib.hid hsm; have HQ := Lib.hid hq; clear hk1 hsm hq
      have kP0 := P.cell 0
      have kP1 := P.cell 1
      have kP2 := P.cell 2
      have kP3 := P.cell 3
      have kR0 := R.cell 0
      have kR1 := R.cell 1
      have kR2 := R.cell 2
      have kBC0 := BC.cell 0
      have kBC1 := BC.cell 1
      have kBC2 := BC.cell 2
      have kBC3 := BC.cell 3
      have kBC4 := BC.cell 4
      have kBC5 := BC.cell 5
      have kBC6 := BC.cell 6
      have kBC7 := BC.cell 7
      have kH0 := H.cell 0
      have kH1 := H.cell 1
      have kH2 := H.cell 2
      simp only [List.getElem?_toArray, List.getElem?_cons_zero, List.getElem?_cons_succ] at kP0 kP1 kP2 kP3 kR0 kR1 kR2 kBC0 kBC1 kBC2 kBC3 kBC4 kBC5 kBC6 kBC7 kH0 kH1 kH2
      have zP := P.lt
      have zR := R.lt
      have fR0 := R.frozen 0
      have fR1 := R.frozen 1
      have fR2 := R.frozen 2
      have zBC := BC.lt
      have zH := H.lt
      have fH0 := H.frozen 0
      have fH1 := H.frozen 1
      have fH2 := H.frozen 2
      go_wp2_with fail
      refine (HO.out _ _ _ fab).mono ?_
      rintro e w3 ⟨rfl, hb⟩
      replace P : Blk w3 (w.heap.size) 29 #[.int .i64 a, .int .i64 b, .int .i64 c, .int .i64 d] := Blk.thru0 (P) hb
      replace R : Blk w3 (w.heap.size + 1) 23 #[.int .i64 0, .int .i64 0, .int .i64 0] := Blk.thru0 (R) hb
      replace BC : Blk w3 (gC) 25 #[.int .i64 a, .int .i64 b, .int .i64 c, .int .i64 b, .int .i64 a, .int .i64 d, .int .i64 c, .int .i64 d] := Blk.thru0 (BC) hb
      replace H : Blk w3 (gH) 23 #[.int .i64 (((k - 1 : Nat) : Int)), .int .i64 (a / 2 ^ (16 - (k - 1))), .int .i64 (b / 2 ^ (16 - (k - 1)))] := Blk.thru0 (H) hb
      have hs := hB.size
      replace hB : Below w.heap.size w w3 := below_trans (by go_grown) hb
      clear hs
      clear kP0 kP1 kP2 kP3 kR0 kR1 kR2 kBC0 kBC1 kBC2 kBC3 kBC4 kBC5 kBC6 kBC7 kH0 kH1 kH2 zP zR fR0 fR1 fR2 zBC zH fH0 fH1 fH2
      have hszw3 := hb.size
      (try simp at hszw3)
      clear hb
      have kP0 := P.cell 0
      have kP1 := P.cell 1
      have kP2 := P.cell 2
      have kP3 := P.cell 3
      have kR0 := R.cell 0
      have kR1 := R.cell 1
      have kR2 := R.cell 2
      have kBC0 := BC.cell 0
      have kBC1 := BC.cell 1
      have kBC2 := BC.cell 2
      have kBC3 := BC.cell 3
      have kBC4 := BC.cell 4
      have kBC5 := BC.cell 5
      have kBC6 := BC.cell 6
      have kBC7 := BC.cell 7
      have kH0 := H.cell 0
      have kH1 := H.cell 1
      have kH2 := H.cell 2
      simp only [List.getElem?_toArray, List.getElem?_cons_zero, List.getElem?_cons_succ] at kP0 kP1 kP2 kP3 kR0 kR1 kR2 kBC0 kBC1 kBC2 kBC3 kBC4 kBC5 kBC6 kBC7 kH0 kH1 kH2
      have zP := P.lt
      have zR := R.lt
      have fR0 := R.frozen 0
      have fR1 := R.frozen 1
      have fR2 := R.frozen 2
      have zBC := BC.lt
      have zH := H.lt
      have fH0 := H.frozen 0
      have fH1 := H.frozen 1
      have fH2 := H.frozen 2
      go_wp2_with fail
      refine wp_loop_rounds 4 ?_
      rw [rounds_succ]
      by_cases hx : c / q = a / q
      · have h1 : ∀ w : World, Calls Try.prog 12 #[.agg #[.int .i64 c, .int .i64 b], .int .i64 (k : Int)] w fun e w' => e = .returned (.tuple #[.agg #[.int .i64 (k : Int), .int .i64 (a / q), .int .i64 (b / q)], .bool true]) ∧ Below w.heap.size w w' := fun w => by have := HO.out c b w fcb; rw [hx] at this; exact this
        have H1 := Lib.hid h1; clear h1
        by_cases hy : d / q = b / q
        · have h2 : ∀ w : World, Calls Try.prog 12 #[.agg #[.int .i64 a, .int .i64 d], .int .i64 (k : Int)] w fun e w' => e = .returned (.tuple #[.agg #[.int .i64 (k : Int), .int .i64 (a / q), .int .i64 (b / q)], .bool true]) ∧ Below w.heap.size w w' := fun w => by have := HO.out a d w fad; rw [hy] at this; exact this
          have H2 := Lib.hid h2; clear h2
          have h3 : ∀ w : World, Calls Try.prog 12 #[.agg #[.int .i64 c, .int .i64 d], .int .i64 (k : Int)] w fun e w' => e = .returned (.tuple #[.agg #[.int .i64 (k : Int), .int .i64 (a / q), .int .i64 (b / q)], .bool true]) ∧ Below w.heap.size w w' := fun w => by have := HO.out c d w fcd; rw [hx, hy] at this; exact this
          have H3 := Lib.hid h3; clear h3
          have HX := Lib.hid hx; have HY := Lib.hid hy; clear hx hy
          go_wp2_with fail
          refine (H1.out _).mono ?_
          rintro e w4 ⟨rfl, hb⟩
          replace P : Blk w4 (w.heap.size) 29 #[.int .i64 a, .int .i64 b, .int .i64 c, .int .i64 d] := Blk.thru0 (((P).alloc _).alloc _) hb
          replace R : Blk w4 (w.heap.size + 1) 23 #[.int .i64 0, .int .i64 0, .int .i64 0] := Blk.thru0 (((R).alloc _).alloc _) hb
          replace BC : Blk w4 (gC) 25 #[.int .i64 a, .int .i64 b, .int .i64 c, .int .i64 b, .int .i64 a, .int .i64 d, .int .i64 c, .int .i64 d] := Blk.thru0 (((BC).alloc _).alloc _) hb
          replace H : Blk w4 (gH) 23 #[.int .i64 (((k - 1 : Nat) : Int)), .int .i64 (a / 2 ^ (16 - (k - 1))), .int .i64 (b / 2 ^ (16 - (k - 1)))] := Blk.thru0 (((H).alloc _).alloc _) hb
          have F : Blk w4 (w3.heap.size) 23 #[.int .i64 (k : Int), .int .i64 (a / q), .int .i64 (b / q)] := Blk.thru0 ((Blk.newAt (by simp)).alloc _) hb
          have p1 : Blk w4 (w3.heap.size + 1) 25 #[.int .i64 c, .int .i64 b] := Blk.thru0 (Blk.newAt (by simp)) hb
          have hs := hB.size
          replace hB : Below w.heap.size w w4 := below_trans (by go_grown) hb
          clear hs
          clear kP0 kP1 kP2 kP3 kR0 kR1 kR2 kBC0 kBC1 kBC2 kBC3 kBC4 kBC5 kBC6 kBC7 kH0 kH1 kH2 zP zR fR0 fR1 fR2 zBC zH fH0 fH1 fH2
          have hszw4 := hb.size
          (try simp at hszw4)
          clear hb
          have kP0 := P.cell 0
          have kP1 := P.cell 1
          have kP2 := P.cell 2
          have kP3 := P.cell 3
          have kR0 := R.cell 0
          have kR1 := R.cell 1
          have kR2 := R.cell 2
          have kBC0 := BC.cell 0
          have kBC1 := BC.cell 1
          have kBC2 := BC.cell 2
          have kBC3 := BC.cell 3
          have kBC4 := BC.cell 4
          have kBC5 := BC.cell 5
          have kBC6 := BC.cell 6
          have kBC7 := BC.cell 7
          have kH0 := H.cell 0
          have kH1 := H.cell 1
          have kH2 := H.cell 2
          have kF0 := F.cell 0
          have kF1 := F.cell 1
          have kF2 := F.cell 2
          have kp10 := p1.cell 0
          have kp11 := p1.cell 1
          simp only [List.getElem?_toArray, List.getElem?_cons_zero, List.getElem?_cons_succ] at kP0 kP1 kP2 kP3 kR0 kR1 kR2 kBC0 kBC1 kBC2 kBC3 kBC4 kBC5 kBC6 kBC7 kH0 kH1 kH2 kF0 kF1 kF2 kp10 kp11
          have zP := P.lt
          have zR := R.lt
          have fR0 := R.frozen 0
          have fR1 := R.frozen 1
          have fR2 := R.frozen 2
          have zBC := BC.lt
          have zH := H.lt
          have fH0 := H.frozen 0
          have fH1 := H.frozen 1
          have fH2 := H.frozen 2
          have zF := F.lt
          have zp1 := p1.lt
          go_wp2_with fail
          rw [rounds_succ]
          go_wp2_with fail
          refine (H2.out _).mono ?_
          rintro e w5 ⟨rfl, hb⟩
          replace P : Blk w5 (w.heap.size) 29 #[.int .i64 a, .int .i64 b, .int .i64 c, .int .i64 d] := Blk.thru0 (((P).alloc _).alloc _) hb
          replace R : Blk w5 (w.heap.size + 1) 23 #[.int .i64 0, .int .i64 0, .int .i64 0] := Blk.thru0 (((R).alloc _).alloc _) hb
          replace BC : Blk w5 (gC) 25 #[.int .i64 a, .int .i64 b, .int .i64 c, .int .i64 b, .int .i64 a, .int .i64 d, .int .i64 c, .int .i64 d] := Blk.thru0 (((BC).alloc _).alloc _) hb
          replace H : Blk w5 (gH) 23 #[.int .i64 (((k - 1 : Nat) : Int)), .int .i64 (a / 2 ^ (16 - (k - 1))), .int .i64 (b / 2 ^ (16 - (k - 1)))] := Blk.thru0 (((H).alloc _).alloc _) hb
          replace F : Blk w5 (w3.heap.size) 23 #[.int .i64 (k : Int), .int .i64 (a / q), .int .i64 (b / q)] := Blk.thru0 (((F).alloc _).alloc _) hb
          replace p1 : Blk w5 (w3.heap.size + 1) 25 #[.int .i64 c, .int .i64 b] := Blk.thru0 (((p1).alloc _).alloc _) hb
          have G1 : Blk w5 (w4.heap.size) 23 #[.int .i64 (k : Int), .int .i64 (a / q), .int .i64 (b / q)] := Blk.thru0 ((Blk.newAt (by simp)).alloc _) hb
          have p2 : Blk w5 (w4.heap.size + 1) 25 #[.int .i64 a, .int .i64 d] := Blk.thru0 (Blk.newAt (by simp)) hb
          have hs := hB.size
          replace hB : Below w.heap.size w w5 := below_trans (by go_grown) hb
          clear hs
          clear kP0 kP1 kP2 kP3 kR0 kR1 kR2 kBC0 kBC1 kBC2 kBC3 kBC4 kBC5 kBC6 kBC7 kH0 kH1 kH2 kF0 kF1 kF2 kp10 kp11 zP zR fR0 fR1 fR2 zBC zH fH0 fH1 fH2 zF zp1
          have hszw5 := hb.size
          (try simp at hszw5)
          clear hb
          have kP0 := P.cell 0
          have kP1 := P.cell 1
          have kP2 := P.cell 2
          have kP3 := P.cell 3
          have kR0 := R.cell 0
          have kR1 := R.cell 1
          have kR2 := R.cell 2
          have kBC0 := BC.cell 0
          have kBC1 := BC.cell 1
          have kBC2 := BC.cell 2
          have kBC3 := BC.cell 3
          have kBC4 := BC.cell 4
          have kBC5 := BC.cell 5
          have kBC6 := BC.cell 6
          have kBC7 := BC.cell 7
          have kH0 := H.cell 0
          have kH1 := H.cell 1
          have kH2 := H.cell 2
          have kF0 := F.cell 0
          have kF1 := F.cell 1
          have kF2 := F.cell 2
          have kp10 := p1.cell 0
          have kp11 := p1.cell 1
          have kG10 := G1.cell 0
          have kG11 := G1.cell 1
          have kG12 := G1.cell 2
          have kp20 := p2.cell 0
          have kp21 := p2.cell 1
          simp only [List.getElem?_toArray, List.getElem?_cons_zero, List.getElem?_cons_succ] at kP0 kP1 kP2 kP3 kR0 kR1 kR2 kBC0 kBC1 kBC2 kBC3 kBC4 kBC5 kBC6 kBC7 kH0 kH1 kH2 kF0 kF1 kF2 kp10 kp11 kG10 kG11 kG12 kp20 kp21
          have zP := P.lt
          have zR := R.lt
          have fR0 := R.frozen 0
          have fR1 := R.frozen 1
          have fR2 := R.frozen 2
          have zBC := BC.lt
          have zH := H.lt
          have fH0 := H.frozen 0
          have fH1 := H.frozen 1
          have fH2 := H.frozen 2
          have zF := F.lt
          have zp1 := p1.lt
          have zG1 := G1.lt
          have zp2 := p2.lt
          go_wp2_with fail
          rw [rounds_succ]
          go_wp2_with fail
          refine (H3.out _).mono ?_
          rintro e w6 ⟨rfl, hb⟩
          replace P : Blk w6 (w.heap.size) 29 #[.int .i64 a, .int .i64 b, .int .i64 c, .int .i64 d] := Blk.thru0 (((P).alloc _).alloc _) hb
          replace R : Blk w6 (w.heap.size + 1) 23 #[.int .i64 0, .int .i64 0, .int .i64 0] := Blk.thru0 (((R).alloc _).alloc _) hb
          replace BC : Blk w6 (gC) 25 #[.int .i64 a, .int .i64 b, .int .i64 c, .int .i64 b, .int .i64 a, .int .i64 d, .int .i64 c, .int .i64 d] := Blk.thru0 (((BC).alloc _).alloc _) hb
          replace H : Blk w6 (gH) 23 #[.int .i64 (((k - 1 : Nat) : Int)), .int .i64 (a / 2 ^ (16 - (k - 1))), .int .i64 (b / 2 ^ (16 - (k - 1)))] := Blk.thru0 (((H).alloc _).alloc _) hb
          replace F : Blk w6 (w3.heap.size) 23 #[.int .i64 (k : Int), .int .i64 (a / q), .int .i64 (b / q)] := Blk.thru0 (((F).alloc _).alloc _) hb
          replace p1 : Blk w6 (w3.heap.size + 1) 25 #[.int .i64 c, .int .i64 b] := Blk.thru0 (((p1).alloc _).alloc _) hb
          replace G1 : Blk w6 (w4.heap.size) 23 #[.int .i64 (k : Int), .int .i64 (a / q), .int .i64 (b / q)] := Blk.thru0 (((G1).alloc _).alloc _) hb
          replace p2 : Blk w6 (w4.heap.size + 1) 25 #[.int .i64 a, .int .i64 d] := Blk.thru0 (((p2).alloc _).alloc _) hb
          have G2 : Blk w6 (w5.heap.size) 23 #[.int .i64 (k : Int), .int .i64 (a / q), .int .i64 (b / q)] := Blk.thru0 ((Blk.newAt (by simp)).alloc _) hb
          have p3 : Blk w6 (w5.heap.size + 1) 25 #[.int .i64 c, .int .i64 d] := Blk.thru0 (Blk.newAt (by simp)) hb
          have hs := hB.size
          replace hB : Below w.heap.size w w6 := below_trans (by go_grown) hb
          clear hs
          clear kP0 kP1 kP2 kP3 kR0 kR1 kR2 kBC0 kBC1 kBC2 kBC3 kBC4 kBC5 kBC6 kBC7 kH0 kH1 kH2 kF0 kF1 kF2 kp10 kp11 kG10 kG11 kG12 kp20 kp21 zP zR fR0 fR1 fR2 zBC zH fH0 fH1 fH2 zF zp1 zG1 zp2
          have hszw6 := hb.size
          (try simp at hszw6)
          clear hb
          have kP0 := P.cell 0
          have kP1 := P.cell 1
          have kP2 := P.cell 2
          have kP3 := P.cell 3
          have kR0 := R.cell 0
          have kR1 := R.cell 1
          have kR2 := R.cell 2
          have kBC0 := BC.cell 0
          have kBC1 := BC.cell 1
          have kBC2 := BC.cell 2
          have kBC3 := BC.cell 3
          have kBC4 := BC.cell 4
          have kBC5 := BC.cell 5
          have kBC6 := BC.cell 6
          have kBC7 := BC.cell 7
          have kH0 := H.cell 0
          have kH1 := H.cell 1
          have kH2 := H.cell 2
          have kF0 := F.cell 0
          have kF1 := F.cell 1
          have kF2 := F.cell 2
          have kp10 := p1.cell 0
          have kp11 := p1.cell 1
          have kG10 := G1.cell 0
          have kG11 := G1.cell 1
          have kG12 := G1.cell 2
          have kp20 := p2.cell 0
          have kp21 := p2.cell 1
          have kG20 := G2.cell 0
          have kG21 := G2.cell 1
          have kG22 := G2.cell 2
          have kp30 := p3.cell 0
          have kp31 := p3.cell 1
          simp only [List.getElem?_toArray, List.getElem?_cons_zero, List.getElem?_cons_succ] at kP0 kP1 kP2 kP3 kR0 kR1 kR2 kBC0 kBC1 kBC2 kBC3 kBC4 kBC5 kBC6 kBC7 kH0 kH1 kH2 kF0 kF1 kF2 kp10 kp11 kG10 kG11 kG12 kp20 kp21 kG20 kG21 kG22 kp30 kp31
          have zP := P.lt
          have zR := R.lt
          have fR0 := R.frozen 0
          have fR1 := R.frozen 1
          have fR2 := R.frozen 2
          have zBC := BC.lt
          have zH := H.lt
          have fH0 := H.frozen 0
          have fH1 := H.frozen 1
          have fH2 := H.frozen 2
          have zF := F.lt
          have zp1 := p1.lt
          have zG1 := G1.lt
          have zp2 := p2.lt
          have zG2 := G2.lt
          have zp3 := p3.lt
          go_wp2_with fail
          rw [rounds_succ]
          have hs9 := hB.size
          go_wp2
          go_roundg (gk - 1)
          case rel =>
            have hg' := hg.out
            refine ⟨k + 1, by go_num, (show gk - 1 + (k + 1) = 17 by omega), by omega, ?_, by go_grown, (P.far3 (show w.heap.size ≠ gH by omega) _ _ _).alloc _, (R.far3 (show w.heap.size + 1 ≠ gH by omega) _ _ _).alloc _, (BC.far3 (Blk.ne_ BC H (by decide)) _ _ _).alloc _, ?_, hgH⟩
            · intro j hj
              by_cases e : j = k
              · subst e; exact (HM.out).2 ⟨HX.out, HY.out⟩
              · exact HS.out j (by omega)
            · rw [show k + 1 - 1 = k by omega, HQ.out]; exact (H.set3 _ _ _).alloc _
          case measure => have hg' := hg.out; omega
        · have HNE := Lib.hid (show ¬ (c / q = a / q ∧ d / q = b / q) from fun h9 => hy h9.2)
          clear hx
          go_wp2_with fail
          refine (H1.out _).mono ?_
          rintro e w4 ⟨rfl, hb⟩
          replace P : Blk w4 (w.heap.size) 29 #[.int .i64 a, .int .i64 b, .int .i64 c, .int .i64 d] := Blk.thru0 (((P).alloc _).alloc _) hb
          replace R : Blk w4 (w.heap.size + 1) 23 #[.int .i64 0, .int .i64 0, .int .i64 0] := Blk.thru0 (((R).alloc _).alloc _) hb
          replace BC : Blk w4 (gC) 25 #[.int .i64 a, .int .i64 b, .int .i64 c, .int .i64 b, .int .i64 a, .int .i64 d, .int .i64 c, .int .i64 d] := Blk.thru0 (((BC).alloc _).alloc _) hb
          replace H : Blk w4 (gH) 23 #[.int .i64 (((k - 1 : Nat) : Int)), .int .i64 (a / 2 ^ (16 - (k - 1))), .int .i64 (b / 2 ^ (16 - (k - 1)))] := Blk.thru0 (((H).alloc _).alloc _) hb
          have F : Blk w4 (w3.heap.size) 23 #[.int .i64 (k : Int), .int .i64 (a / q), .int .i64 (b / q)] := Blk.thru0 ((Blk.newAt (by simp)).alloc _) hb
          have p1 : Blk w4 (w3.heap.size + 1) 25 #[.int .i64 c, .int .i64 b] := Blk.thru0 (Blk.newAt (by simp)) hb
          have hs := hB.size
          replace hB : Below w.heap.size w w4 := below_trans (by go_grown) hb
          clear hs
          clear kP0 kP1 kP2 kP3 kR0 kR1 kR2 kBC0 kBC1 kBC2 kBC3 kBC4 kBC5 kBC6 kBC7 kH0 kH1 kH2 zP zR fR0 fR1 fR2 zBC zH fH0 fH1 fH2
          have hszw4 := hb.size
          (try simp at hszw4)
          clear hb
          have kP0 := P.cell 0
          have kP1 := P.cell 1
          have kP2 := P.cell 2
          have kP3 := P.cell 3
          have kR0 := R.cell 0
          have kR1 := R.cell 1
          have kR2 := R.cell 2
          have kBC0 := BC.cell 0
          have kBC1 := BC.cell 1
          have kBC2 := BC.cell 2
          have kBC3 := BC.cell 3
          have kBC4 := BC.cell 4
          have kBC5 := BC.cell 5
          have kBC6 := BC.cell 6
          have kBC7 := BC.cell 7
          have kH0 := H.cell 0
          have kH1 := H.cell 1
          have kH2 := H.cell 2
          have kF0 := F.cell 0
          have kF1 := F.cell 1
          have kF2 := F.cell 2
          have kp10 := p1.cell 0
          have kp11 := p1.cell 1
          simp only [List.getElem?_toArray, List.getElem?_cons_zero, List.getElem?_cons_succ] at kP0 kP1 kP2 kP3 kR0 kR1 kR2 kBC0 kBC1 kBC2 kBC3 kBC4 kBC5 kBC6 kBC7 kH0 kH1 kH2 kF0 kF1 kF2 kp10 kp11
          have zP := P.lt
          have zR := R.lt
          have fR0 := R.frozen 0
          have fR1 := R.frozen 1
          have fR2 := R.frozen 2
          have zBC := BC.lt
          have zH := H.lt
          have fH0 := H.frozen 0
          have fH1 := H.frozen 1
          have fH2 := H.frozen 2
          have zF := F.lt
          have zp1 := p1.lt
          go_wp2_with fail
          rw [rounds_succ]
          go_wp2_with fail
          refine (HO.out _ _ _ fad).mono ?_
          rintro e w5 ⟨rfl, hb⟩
          replace P : Blk w5 (w.heap.size) 29 #[.int .i64 a, .int .i64 b, .int .i64 c, .int .i64 d] := Blk.thru0 (((P).alloc _).alloc _) hb
          replace R : Blk w5 (w.heap.size + 1) 23 #[.int .i64 0, .int .i64 0, .int .i64 0] := Blk.thru0 (((R).alloc _).alloc _) hb
          replace BC : Blk w5 (gC) 25 #[.int .i64 a, .int .i64 b, .int .i64 c, .int .i64 b, .int .i64 a, .int .i64 d, .int .i64 c, .int .i64 d] := Blk.thru0 (((BC).alloc _).alloc _) hb
          replace H : Blk w5 (gH) 23 #[.int .i64 (((k - 1 : Nat) : Int)), .int .i64 (a / 2 ^ (16 - (k - 1))), .int .i64 (b / 2 ^ (16 - (k - 1)))] := Blk.thru0 (((H).alloc _).alloc _) hb
          replace F : Blk w5 (w3.heap.size) 23 #[.int .i64 (k : Int), .int .i64 (a / q), .int .i64 (b / q)] := Blk.thru0 (((F).alloc _).alloc _) hb
          replace p1 : Blk w5 (w3.heap.size + 1) 25 #[.int .i64 c, .int .i64 b] := Blk.thru0 (((p1).alloc _).alloc _) hb
          have G1 : Blk w5 (w4.heap.size) 23 #[.int .i64 (k : Int), .int .i64 (a / q), .int .i64 (b / q)] := Blk.thru0 ((Blk.newAt (by simp)).alloc _) hb
          have p2 : Blk w5 (w4.heap.size + 1) 25 #[.int .i64 a, .int .i64 d] := Blk.thru0 (Blk.newAt (by simp)) hb
          have hs := hB.size
          replace hB : Below w.heap.size w w5 := below_trans (by go_grown) hb
          clear hs
          clear kP0 kP1 kP2 kP3 kR0 kR1 kR2 kBC0 kBC1 kBC2 kBC3 kBC4 kBC5 kBC6 kBC7 kH0 kH1 kH2 kF0 kF1 kF2 kp10 kp11 zP zR fR0 fR1 fR2 zBC zH fH0 fH1 fH2 zF zp1
          have hszw5 := hb.size
          (try simp at hszw5)
          clear hb
          have kP0 := P.cell 0
          have kP1 := P.cell 1
          have kP2 := P.cell 2
          have kP3 := P.cell 3
          have kR0 := R.cell 0
          have kR1 := R.cell 1
          have kR2 := R.cell 2
          have kBC0 := BC.cell 0
          have kBC1 := BC.cell 1
          have kBC2 := BC.cell 2
          have kBC3 := BC.cell 3
          have kBC4 := BC.cell 4
          have kBC5 := BC.cell 5
          have kBC6 := BC.cell 6
          have kBC7 := BC.cell 7
          have kH0 := H.cell 0
          have kH1 := H.cell 1
          have kH2 := H.cell 2
          have kF0 := F.cell 0
          have kF1 := F.cell 1
          have kF2 := F.cell 2
          have kp10 := p1.cell 0
          have kp11 := p1.cell 1
          have kG10 := G1.cell 0
          have kG11 := G1.cell 1
          have kG12 := G1.cell 2
          have kp20 := p2.cell 0
          have kp21 := p2.cell 1
          simp only [List.getElem?_toArray, List.getElem?_cons_zero, List.getElem?_cons_succ] at kP0 kP1 kP2 kP3 kR0 kR1 kR2 kBC0 kBC1 kBC2 kBC3 kBC4 kBC5 kBC6 kBC7 kH0 kH1 kH2 kF0 kF1 kF2 kp10 kp11 kG10 kG11 kG12 kp20 kp21
          have zP := P.lt
          have zR := R.lt
          have fR0 := R.frozen 0
          have fR1 := R.frozen 1
          have fR2 := R.frozen 2
          have zBC := BC.lt
          have zH := H.lt
          have fH0 := H.frozen 0
          have fH1 := H.frozen 1
          have fH2 := H.frozen 2
          have zF := F.lt
          have zp1 := p1.lt
          have zG1 := G1.lt
          have zp2 := p2.lt
          have hke : 0 < k := by
            rcases Nat.eq_zero_or_pos k with e | e
            · exact absurd ((HM.out).1 (HK.out e)) HNE.out
            · exact e
          have hh := Lib.hid (hlv_of a b c d 16 (k - 1) (by omega) (by omega) (HS.out (k - 1) (by omega)) (by rw [show k - 1 + 1 = k by omega]; exact Bool.eq_false_iff.2 (fun h9 => HNE.out ((HM.out).1 h9))))
          go_wp2
          (try rw [Exit.noGoto_ret])
          refine bodyPost_ret (v := .tuple #[.agg #[.int .i64 ((k - 1 : Nat) : Int), .int .i64 (a / 2 ^ (16 - (k - 1))), .int .i64 (b / 2 ^ (16 - (k - 1)))], .bool true]) ?_ rfl ?_
          · simp [results, Try.results33, go_sem, *]
          · exact ⟨by rw [hh.out], by go_grown⟩
      · have HNE := Lib.hid (show ¬ (c / q = a / q ∧ d / q = b / q) from fun h9 => hx h9.1)
        go_wp2_with fail
        refine (HO.out _ _ _ fcb).mono ?_
        rintro e w4 ⟨rfl, hb⟩
        replace P : Blk w4 (w.heap.size) 29 #[.int .i64 a, .int .i64 b, .int .i64 c, .int .i64 d] := Blk.thru0 (((P).alloc _).alloc _) hb
        replace R : Blk w4 (w.heap.size + 1) 23 #[.int .i64 0, .int .i64 0, .int .i64 0] := Blk.thru0 (((R).alloc _).alloc _) hb
        replace BC : Blk w4 (gC) 25 #[.int .i64 a, .int .i64 b, .int .i64 c, .int .i64 b, .int .i64 a, .int .i64 d, .int .i64 c, .int .i64 d] := Blk.thru0 (((BC).alloc _).alloc _) hb
        replace H : Blk w4 (gH) 23 #[.int .i64 (((k - 1 : Nat) : Int)), .int .i64 (a / 2 ^ (16 - (k - 1))), .int .i64 (b / 2 ^ (16 - (k - 1)))] := Blk.thru0 (((H).alloc _).alloc _) hb
        have F : Blk w4 (w3.heap.size) 23 #[.int .i64 (k : Int), .int .i64 (a / q), .int .i64 (b / q)] := Blk.thru0 ((Blk.newAt (by simp)).alloc _) hb
        have p1 : Blk w4 (w3.heap.size + 1) 25 #[.int .i64 c, .int .i64 b] := Blk.thru0 (Blk.newAt (by simp)) hb
        have hs := hB.size
        replace hB : Below w.heap.size w w4 := below_trans (by go_grown) hb
        clear hs
        clear kP0 kP1 kP2 kP3 kR0 kR1 kR2 kBC0 kBC1 kBC2 kBC3 kBC4 kBC5 kBC6 kBC7 kH0 kH1 kH2 zP zR fR0 fR1 fR2 zBC zH fH0 fH1 fH2
        have hszw4 := hb.size
        (try simp at hszw4)
        clear hb
        have kP0 := P.cell 0
        have kP1 := P.cell 1
        have kP2 := P.cell 2
        have kP3 := P.cell 3
        have kR0 := R.cell 0
        have kR1 := R.cell 1
        have kR2 := R.cell 2
        have kBC0 := BC.cell 0
        have kBC1 := BC.cell 1
        have kBC2 := BC.cell 2
        have kBC3 := BC.cell 3
        have kBC4 := BC.cell 4
        have kBC5 := BC.cell 5
        have kBC6 := BC.cell 6
        have kBC7 := BC.cell 7
        have kH0 := H.cell 0
        have kH1 := H.cell 1
        have kH2 := H.cell 2
        have kF0 := F.cell 0
        have kF1 := F.cell 1
        have kF2 := F.cell 2
        have kp10 := p1.cell 0
        have kp11 := p1.cell 1
        simp only [List.getElem?_toArray, List.getElem?_cons_zero, List.getElem?_cons_succ] at kP0 kP1 kP2 kP3 kR0 kR1 kR2 kBC0 kBC1 kBC2 kBC3 kBC4 kBC5 kBC6 kBC7 kH0 kH1 kH2 kF0 kF1 kF2 kp10 kp11
        have zP := P.lt
        have zR := R.lt
        have fR0 := R.frozen 0
        have fR1 := R.frozen 1
        have fR2 := R.frozen 2
        have zBC := BC.lt
        have zH := H.lt
        have fH0 := H.frozen 0
        have fH1 := H.frozen 1
        have fH2 := H.frozen 2
        have zF := F.lt
        have zp1 := p1.lt
        have hke : 0 < k := by
          rcases Nat.eq_zero_or_pos k with e | e
          · exact absurd ((HM.out).1 (HK.out e)) HNE.out
          · exact e
        have hh := Lib.hid (hlv_of a b c d 16 (k - 1) (by omega) (by omega) (HS.out (k - 1) (by omega)) (by rw [show k - 1 + 1 = k by omega]; exact Bool.eq_false_iff.2 (fun h9 => HNE.out ((HM.out).1 h9))))
        go_wp2
        (try rw [Exit.noGoto_ret])
        refine bodyPost_ret (v := .tuple #[.agg #[.int .i64 ((k - 1 : Nat) : Int), .int .i64 (a / 2 ^ (16 - (k - 1))), .int .i64 (b / 2 ^ (16 - (k - 1)))], .bool true]) ?_ rfl ?_
        · simp [results, Try.results33, go_sem, *]
        · exact ⟨by rw [hh.out], by go_grown⟩
    · obtain rfl : k = 17 := by omega
      have hh := Lib.hid (hlv_top a b c d (HS.out 16 (by omega)))
      have kP0 := P.cell 0
      have kP1 := P.cell 1
      have kP2 := P.cell 2
      have kP3 := P.cell 3
      have kR0 := R.cell 0
      have kR1 := R.cell 1
      have kR2 := R.cell 2
      have kBC0 := BC.cell 0
      have kBC1 := BC.cell 1
      have kBC2 := BC.cell 2
      have kBC3 := BC.cell 3
      have kBC4 := BC.cell 4
      have kBC5 := BC.cell 5
      have kBC6 := BC.cell 6
      have kBC7 := BC.cell 7
      have kH0 := H.cell 0
      have kH1 := H.cell 1
      have kH2 := H.cell 2
      simp only [List.getElem?_toArray, List.getElem?_cons_zero, List.getElem?_cons_succ] at kP0 kP1 kP2 kP3 kR0 kR1 kR2 kBC0 kBC1 kBC2 kBC3 kBC4 kBC5 kBC6 kBC7 kH0 kH1 kH2
      have zP := P.lt
      have zR := R.lt
      have fR0 := R.frozen 0
      have fR1 := R.frozen 1
      have fR2 := R.frozen 2
      have zBC := BC.lt
      have zH := H.lt
      have fH0 := H.frozen 0
      have fH1 := H.frozen 1
      have fH2 := H.frozen 2
      go_wp2
      (try rw [Exit.noGoto_ret])
      refine bodyPost_ret (v := .tuple #[.agg #[.int .i64 ((17 - 1 : Nat) : Int), .int .i64 (a / 2 ^ (16 - (17 - 1))), .int .i64 (b / 2 ^ (16 - (17 - 1)))], .bool true]) ?_ rfl ?_
      · simp [results, Try.results33, go_sem, *]
      · exact ⟨by rw [hh.out], by go_grown⟩
set_option maxHeartbeats 1000000 in
theorem home_no (a b c d : Int) (h : rightB a b c d = false) (w : World) :
    Calls Try.prog 33 #[.agg #[.int .i64 a, .int .i64 b, .int .i64 c, .int .i64 d]] w fun e w' => e = .returned (.tuple #[.agg #[.int .i64 0, .int .i64 0, .int .i64 0], .bool false]) ∧ Below w.heap.size w w' := by
  go_enter Try.func33, Try.ntmps33
  go_wp2_with fail
  go_step3
  go_wp2_with fail
  refine (right_any _ _ _ _ _).mono ?_
  rintro e w1 ⟨rfl, hb⟩
  have hB : Below w.heap.size w w1 := below_trans (by go_grown) hb; have hz := hb.size; (try simp at hz); obtain ⟨hc, hf⟩ := bcell hb; have hz1 : w.heap.size + 1 < w1.heap.size := (by omega)
  go_wp2
  (try rw [Exit.noGoto_ret])
  refine bodyPost_ret (v := .tuple #[.agg #[.int .i64 0, .int .i64 0, .int .i64 0], .bool false]) ?_ rfl ⟨rfl, ?_⟩
  · simp [results, Try.results33, go_sem, *]
  · go_grown
def h0 (a b c d : Int) : Int := if rightB a b c d = true then (hlv a b c d 16 : Int) else 0
def h1 (a b c d : Int) : Int := if rightB a b c d = true then a / 2 ^ (16 - hlv a b c d 16) else 0
def h2 (a b c d : Int) : Int := if rightB a b c d = true then b / 2 ^ (16 - hlv a b c d 16) else 0
theorem home_u (a b c d : Int) (w : World) : Calls Try.prog 33 #[.agg #[.int .i64 a, .int .i64 b, .int .i64 c, .int .i64 d]] w fun e w' => e = .returned (.tuple #[.agg #[.int .i64 (h0 a b c d), .int .i64 (h1 a b c d), .int .i64 (h2 a b c d)], .bool (rightB a b c d)]) ∧ Below w.heap.size w w' := by
  rcases Bool.eq_false_or_eq_true (rightB a b c d) with h | h
  · have := home_yes a b c d h w
    simpa [h0, h1, h2, h] using this
  · have := home_no a b c d h w
    simpa [h0, h1, h2, h] using this
end Go.Proofs.Ytpbnbnhmlpjbjaa
