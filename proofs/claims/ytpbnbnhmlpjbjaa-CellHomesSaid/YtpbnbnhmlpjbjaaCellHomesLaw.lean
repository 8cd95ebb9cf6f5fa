/- CellHomes: (P3.7) a home has its rectangle, and no child of it does. Conditions: none. -/
import Derived.Test.YtpbnbnhmlpjbjaaCellKnown
import Derived.Test.YtpbnbnhmlpjbjaaFrame
import Derived.Lib.SmallJoins
import Derived.Test.YtpbnbnhmlpjbjaaCellMath3
import Derived.Deep.LoopGhost
namespace Go.Proofs.Ytpbnbnhmlpjbjaa.cellHomes
set_option linter.unusedVariables false
set_option linter.unusedSimpArgs false
open Go.ChangeShapes Go.WideShapes Go.ChangeAt Go.RowKit
open Go.ChangeMaps (open_string shut_string)
set_option maxHeartbeats 4000000 in
theorem walk (a b c d : Int) (w : World) (_ha : -9223372036854775808 ≤ a ∧ a ≤ 9223372036854775807) (_hb : -9223372036854775808 ≤ b ∧ b ≤ 9223372036854775807) (_hc : -9223372036854775808 ≤ c ∧ c ≤ 9223372036854775807) (_hd : -9223372036854775808 ≤ d ∧ d ≤ 9223372036854775807)  :
    Calls Try.prog 10 #[.agg #[.int .i64 a, .int .i64 b, .int .i64 c, .int .i64 d]] w fun e w' => e = .returned (.bool true) ∧ Below w.heap.size w w' := by
  rcases Bool.eq_false_or_eq_true (rightB a b c d) with hr | hr
  · obtain ⟨k, hk⟩ : ∃ k, hlv a b c d 16 = k := ⟨_, rfl⟩
    have hk16 : k ≤ 16 := by rw [← hk]; exact hlv_le a b c d 16
    have hsm : smB a b c d k = true := by rw [← hk]; exact hlv_sm a b c d 16 (sm_zero a b c d hr)
    have hrr := (rightB_iff _ _ _ _).1 hr
    have fab : fitsB a b = true := (fitsB_iff _ _).2 (by omega)
    have hok := of_okC k a b hk16 fab
    have hin := in_sm k a b c d _ hk16 hr rfl
    rw [hsm] at hin
    have hho := fun w => home_yes a b c d hr w
    rw [hk] at hho
    have hbx := cbox_yes k _ _ _ hk16 hok rfl
    have hch : ∀ i : Int, k < 16 → 0 ≤ i → i ≤ 3 → _ := fun i h16 h0 h3 => home_child a b c d k _ _ i h16 hr (hlv_next a b c d 16 k hk h16) hok h0 h3
    have hkk : ∀ i : Int, k < 16 → 0 ≤ i → i ≤ 3 → _ := fun i h16 h0 h3 => (child_box k _ _ i h16 hok h0 h3).1
    have hno : ∀ i : Int, ¬ k < 16 → okK (k : Int) (a / 2 ^ (16 - k)) (b / 2 ^ (16 - k)) i = false := fun i h16 => by
      obtain rfl : k = 16 := by omega
      rw [okK, show decide (((16 : Nat) : Int) ≠ 16 ∧ 0 ≤ i ∧ i ≤ 3) = false from decide_eq_false (by simp), Bool.and_false]
    generalize a / 2 ^ (16 - k) = u at *
    generalize b / 2 ^ (16 - k) = v at *
    generalize (2 : Int) ^ (16 - k) = s at *
    have HHO := Lib.hid hho; have HBX := Lib.hid hbx; have HCH := Lib.hid hch; have HKK := Lib.hid hkk; have HNO := Lib.hid hno; have HIN := Lib.hid hin
    clear hho hbx hch hkk hno hin hsm hk hok hrr fab
    go_enter Try.func10, Try.ntmps10
    go_wp2_with fail
    refine (HHO.out _).mono ?_
    rintro e w1 ⟨rfl, hb⟩
    have P : Blk w1 (w.heap.size) 29 #[.int .i64 a, .int .i64 b, .int .i64 c, .int .i64 d] := Blk.thru0 (Blk.newAt (by simp)) hb
    have hB : Below w.heap.size w w1 := below_trans (by go_grown) hb
    have hszw1 := hb.size
    (try simp at hszw1)
    clear hb
    have kP0 := P.cell 0
    have kP1 := P.cell 1
    have kP2 := P.cell 2
    have kP3 := P.cell 3
    simp only [List.getElem?_toArray, List.getElem?_cons_zero, List.getElem?_cons_succ] at kP0 kP1 kP2 kP3
    have zP := P.lt
    go_wp2_with fail
    refine (right_any _ _ _ _ _).mono ?_
    rintro e w2 ⟨rfl, hb⟩
    replace P : Blk w2 (w.heap.size) 29 #[.int .i64 a, .int .i64 b, .int .i64 c, .int .i64 d] := Blk.thru0 ((P).alloc _) hb
    have C : Blk w2 (w1.heap.size) 23 #[.int .i64 (k : Int), .int .i64 u, .int .i64 v] := Blk.thru0 (Blk.newAt (by simp)) hb
    have hs := hB.size
    replace hB : Below w.heap.size w w2 := below_trans (by go_grown) hb
    clear hs
    clear kP0 kP1 kP2 kP3 zP
    have hszw2 := hb.size
    (try simp at hszw2)
    clear hb
    have kP0 := P.cell 0
    have kP1 := P.cell 1
    have kP2 := P.cell 2
    have kP3 := P.cell 3
    have kC0 := C.cell 0
    have kC1 := C.cell 1
    have kC2 := C.cell 2
    simp only [List.getElem?_toArray, List.getElem?_cons_zero, List.getElem?_cons_succ] at kP0 kP1 kP2 kP3 kC0 kC1 kC2
    have zP := P.lt
    have zC := C.lt
    go_wp2_with fail
    refine (HBX.out _).mono ?_
    rintro e w3 ⟨rfl, hb⟩
    replace P : Blk w3 (w.heap.size) 29 #[.int .i64 a, .int .i64 b, .int .i64 c, .int .i64 d] := Blk.thru0 (P) hb
    replace C : Blk w3 (w1.heap.size) 23 #[.int .i64 (k : Int), .int .i64 u, .int .i64 v] := Blk.thru0 (C) hb
    have hs := hB.size
    replace hB : Below w.heap.size w w3 := below_trans (by go_grown) hb
    clear hs
    clear kP0 kP1 kP2 kP3 kC0 kC1 kC2 zP zC
    have hszw3 := hb.size
    (try simp at hszw3)
    clear hb
    have kP0 := P.cell 0
    have kP1 := P.cell 1
    have kP2 := P.cell 2
    have kP3 := P.cell 3
    have kC0 := C.cell 0
    have kC1 := C.cell 1
    have kC2 := C.cell 2
    simp only [List.getElem?_toArray, List.getElem?_cons_zero, List.getElem?_cons_succ] at kP0 kP1 kP2 kP3 kC0 kC1 kC2
    have zP := P.lt
    have zC := C.lt
    have hi := HIN.out
    go_wp2_with fail
    refine (in_any _ _ _ _ _ _ _ _ _).mono ?_
    rintro e w4 ⟨rfl, hb⟩
    replace P : Blk w4 (w.heap.size) 29 #[.int .i64 a, .int .i64 b, .int .i64 c, .int .i64 d] := Blk.thru0 ((P).alloc _) hb
    replace C : Blk w4 (w1.heap.size) 23 #[.int .i64 (k : Int), .int .i64 u, .int .i64 v] := Blk.thru0 ((C).alloc _) hb
    have B : Blk w4 (w3.heap.size) 29 #[.int .i64 (u * s), .int .i64 (v * s), .int .i64 (u * s + s - 1), .int .i64 (v * s + s - 1)] := Blk.thru0 (Blk.newAt (by simp)) hb
    have hs := hB.size
    replace hB : Below w.heap.size w w4 := below_trans (by go_grown) hb
    clear hs
    clear kP0 kP1 kP2 kP3 kC0 kC1 kC2 zP zC
    have hszw4 := hb.size
    (try simp at hszw4)
    clear hb
    have kP0 := P.cell 0
    have kP1 := P.cell 1
    have kP2 := P.cell 2
    have kP3 := P.cell 3
    have kC0 := C.cell 0
    have kC1 := C.cell 1
    have kC2 := C.cell 2
    have kB0 := B.cell 0
    have kB1 := B.cell 1
    have kB2 := B.cell 2
    have kB3 := B.cell 3
    simp only [List.getElem?_toArray, List.getElem?_cons_zero, List.getElem?_cons_succ] at kP0 kP1 kP2 kP3 kC0 kC1 kC2 kB0 kB1 kB2 kB3
    have zP := P.lt
    have zC := C.lt
    have zB := B.lt
    go_wp2
    clear hi kP0 kP1 kP2 kP3 kC0 kC1 kC2 kB0 kB1 kB2 kB3 zP zC zB
    go_loopg [7] 4 (fun g i wr => ∃ j : Nat, i = .int .i64 j ∧ Hid (g + j = 4) ∧ j ≤ 4 ∧ Below w.heap.size w wr ∧ Blk wr w.heap.size 29 #[.int .i64 a, .int .i64 b, .int .i64 c, .int .i64 d] ∧ Blk wr w1.heap.size 23 #[.int .i64 (k : Int), .int .i64 u, .int .i64 v] ∧ w.heap.size < w1.heap.size)
    case atStart => exact ⟨0, rfl, rfl, by omega, hB, P, C, by omega⟩
    case round =>
      clear hB P C B
      obtain ⟨j, rfl, hg, hj, hB, P, C, hw1⟩ := hrel
      by_cases hlt : j < 4
      · by_cases h16 : k < 16
        · have hki := HKK.out (j : Int) h16 (by omega) (by omega); have hci := HCH.out (j : Int) h16 (by omega) (by omega)
          have kP0 := P.cell 0
          have kP1 := P.cell 1
          have kP2 := P.cell 2
          have kP3 := P.cell 3
          have kC0 := C.cell 0
          have kC1 := C.cell 1
          have kC2 := C.cell 2
          simp only [List.getElem?_toArray, List.getElem?_cons_zero, List.getElem?_cons_succ] at kP0 kP1 kP2 kP3 kC0 kC1 kC2
          have zP := P.lt
          have zC := C.lt
          go_wp2_with fail
          refine (cchild_u (k : Int) u v (j : Int) _).mono ?_
          rintro e w10 ⟨rfl, hb⟩
          replace P : Blk w10 (w.heap.size) 29 #[.int .i64 a, .int .i64 b, .int .i64 c, .int .i64 d] := Blk.thru0 (P) hb
          replace C : Blk w10 (w1.heap.size) 23 #[.int .i64 (k : Int), .int .i64 u, .int .i64 v] := Blk.thru0 (C) hb
          have hs := hB.size
          replace hB : Below w.heap.size w w10 := below_trans (by go_grown) hb
          clear hs
          clear kP0 kP1 kP2 kP3 kC0 kC1 kC2 zP zC
          have hszw10 := hb.size
          (try simp at hszw10)
          clear hb
          have kP0 := P.cell 0
          have kP1 := P.cell 1
          have kP2 := P.cell 2
          have kP3 := P.cell 3
          have kC0 := C.cell 0
          have kC1 := C.cell 1
          have kC2 := C.cell 2
          simp only [List.getElem?_toArray, List.getElem?_cons_zero, List.getElem?_cons_succ] at kP0 kP1 kP2 kP3 kC0 kC1 kC2
          have zP := P.lt
          have zC := C.lt
          go_wp2_with fail
          refine (cbox_u _ _ _ _).mono ?_
          rintro e w11 ⟨rfl, hb⟩
          replace P : Blk w11 (w.heap.size) 29 #[.int .i64 a, .int .i64 b, .int .i64 c, .int .i64 d] := Blk.thru0 ((P).alloc _) hb
          replace C : Blk w11 (w1.heap.size) 23 #[.int .i64 (k : Int), .int .i64 u, .int .i64 v] := Blk.thru0 ((C).alloc _) hb
          have D : Blk w11 (w10.heap.size) 23 #[.int .i64 (c0 (k : Int) u v (j : Int)), .int .i64 (c1 (k : Int) u v (j : Int)), .int .i64 (c2 (k : Int) u v (j : Int))] := Blk.thru0 (Blk.newAt (by simp)) hb
          have hs := hB.size
          replace hB : Below w.heap.size w w11 := below_trans (by go_grown) hb
          clear hs
          clear kP0 kP1 kP2 kP3 kC0 kC1 kC2 zP zC
          have hszw11 := hb.size
          (try simp at hszw11)
          clear hb
          have kP0 := P.cell 0
          have kP1 := P.cell 1
          have kP2 := P.cell 2
          have kP3 := P.cell 3
          have kC0 := C.cell 0
          have kC1 := C.cell 1
          have kC2 := C.cell 2
          have kD0 := D.cell 0
          have kD1 := D.cell 1
          have kD2 := D.cell 2
          simp only [List.getElem?_toArray, List.getElem?_cons_zero, List.getElem?_cons_succ] at kP0 kP1 kP2 kP3 kC0 kC1 kC2 kD0 kD1 kD2
          have zP := P.lt
          have zC := C.lt
          have zD := D.lt
          go_wp2_with fail
          refine (in_any _ _ _ _ _ _ _ _ _).mono ?_
          rintro e w12 ⟨rfl, hb⟩
          replace P : Blk w12 (w.heap.size) 29 #[.int .i64 a, .int .i64 b, .int .i64 c, .int .i64 d] := Blk.thru0 ((P).alloc _) hb
          replace C : Blk w12 (w1.heap.size) 23 #[.int .i64 (k : Int), .int .i64 u, .int .i64 v] := Blk.thru0 ((C).alloc _) hb
          replace D : Blk w12 (w10.heap.size) 23 #[.int .i64 (c0 (k : Int) u v (j : Int)), .int .i64 (c1 (k : Int) u v (j : Int)), .int .i64 (c2 (k : Int) u v (j : Int))] := Blk.thru0 ((D).alloc _) hb
          have E : Blk w12 (w11.heap.size) 29 #[.int .i64 (b0 (c0 (k : Int) u v (j : Int)) (c1 (k : Int) u v (j : Int)) (c2 (k : Int) u v (j : Int))), .int .i64 (b1 (c0 (k : Int) u v (j : Int)) (c1 (k : Int) u v (j : Int)) (c2 (k : Int) u v (j : Int))), .int .i64 (b2 (c0 (k : Int) u v (j : Int)) (c1 (k : Int) u v (j : Int)) (c2 (k : Int) u v (j : Int))), .int .i64 (b3 (c0 (k : Int) u v (j : Int)) (c1 (k : Int) u v (j : Int)) (c2 (k : Int) u v (j : Int)))] := Blk.thru0 (Blk.newAt (by simp)) hb
          have hs := hB.size
          replace hB : Below w.heap.size w w12 := below_trans (by go_grown) hb
          clear hs
          clear kP0 kP1 kP2 kP3 kC0 kC1 kC2 kD0 kD1 kD2 zP zC zD
          have hszw12 := hb.size
          (try simp at hszw12)
          clear hb
          have kP0 := P.cell 0
          have kP1 := P.cell 1
          have kP2 := P.cell 2
          have kP3 := P.cell 3
          have kC0 := C.cell 0
          have kC1 := C.cell 1
          have kC2 := C.cell 2
          have kD0 := D.cell 0
          have kD1 := D.cell 1
          have kD2 := D.cell 2
          have kE0 := E.cell 0
          have kE1 := E.cell 1
          have kE2 := E.cell 2
          have kE3 := E.cell 3
          simp only [List.getElem?_toArray, List.getElem?_cons_zero, List.getElem?_cons_succ] at kP0 kP1 kP2 kP3 kC0 kC1 kC2 kD0 kD1 kD2 kE0 kE1 kE2 kE3
          have zP := P.lt
          have zC := C.lt
          have zD := D.lt
          have zE := E.lt
          go_wp2
          go_roundg (gk - 1)
          case rel => exact ⟨j + 1, by go_num, (show gk - 1 + (j + 1) = 4 by have h9 := hg.out; omega), by omega, by first | exact hB | go_grown, by first | exact P | exact P.alloc _, by first | exact C | exact C.alloc _, hw1⟩
          case measure => have h9 := hg.out; omega
        · have hni := HNO.out (j : Int) h16
          have kP0 := P.cell 0
          have kP1 := P.cell 1
          have kP2 := P.cell 2
          have kP3 := P.cell 3
          have kC0 := C.cell 0
          have kC1 := C.cell 1
          have kC2 := C.cell 2
          simp only [List.getElem?_toArray, List.getElem?_cons_zero, List.getElem?_cons_succ] at kP0 kP1 kP2 kP3 kC0 kC1 kC2
          have zP := P.lt
          have zC := C.lt
          go_wp2_with fail
          refine (cchild_u (k : Int) u v (j : Int) _).mono ?_
          rintro e w10 ⟨rfl, hb⟩
          replace P : Blk w10 (w.heap.size) 29 #[.int .i64 a, .int .i64 b, .int .i64 c, .int .i64 d] := Blk.thru0 (P) hb
          replace C : Blk w10 (w1.heap.size) 23 #[.int .i64 (k : Int), .int .i64 u, .int .i64 v] := Blk.thru0 (C) hb
          have hs := hB.size
          replace hB : Below w.heap.size w w10 := below_trans (by go_grown) hb
          clear hs
          clear kP0 kP1 kP2 kP3 kC0 kC1 kC2 zP zC
          have hszw10 := hb.size
          (try simp at hszw10)
          clear hb
          have kP0 := P.cell 0
          have kP1 := P.cell 1
          have kP2 := P.cell 2
          have kP3 := P.cell 3
          have kC0 := C.cell 0
          have kC1 := C.cell 1
          have kC2 := C.cell 2
          simp only [List.getElem?_toArray, List.getElem?_cons_zero, List.getElem?_cons_succ] at kP0 kP1 kP2 kP3 kC0 kC1 kC2
          have zP := P.lt
          have zC := C.lt
          go_wp2_with fail
          refine (cbox_u _ _ _ _).mono ?_
          rintro e w11 ⟨rfl, hb⟩
          replace P : Blk w11 (w.heap.size) 29 #[.int .i64 a, .int .i64 b, .int .i64 c, .int .i64 d] := Blk.thru0 ((P).alloc _) hb
          replace C : Blk w11 (w1.heap.size) 23 #[.int .i64 (k : Int), .int .i64 u, .int .i64 v] := Blk.thru0 ((C).alloc _) hb
          have D : Blk w11 (w10.heap.size) 23 #[.int .i64 (c0 (k : Int) u v (j : Int)), .int .i64 (c1 (k : Int) u v (j : Int)), .int .i64 (c2 (k : Int) u v (j : Int))] := Blk.thru0 (Blk.newAt (by simp)) hb
          have hs := hB.size
          replace hB : Below w.heap.size w w11 := below_trans (by go_grown) hb
          clear hs
          clear kP0 kP1 kP2 kP3 kC0 kC1 kC2 zP zC
          have hszw11 := hb.size
          (try simp at hszw11)
          clear hb
          have kP0 := P.cell 0
          have kP1 := P.cell 1
          have kP2 := P.cell 2
          have kP3 := P.cell 3
          have kC0 := C.cell 0
          have kC1 := C.cell 1
          have kC2 := C.cell 2
          have kD0 := D.cell 0
          have kD1 := D.cell 1
          have kD2 := D.cell 2
          simp only [List.getElem?_toArray, List.getElem?_cons_zero, List.getElem?_cons_succ] at kP0 kP1 kP2 kP3 kC0 kC1 kC2 kD0 kD1 kD2
          have zP := P.lt
          have zC := C.lt
          have zD := D.lt
          go_wp2
          go_roundg (gk - 1)
          case rel => exact ⟨j + 1, by go_num, (show gk - 1 + (j + 1) = 4 by have h9 := hg.out; omega), by omega, by first | exact hB | go_grown, by first | exact P | exact P.alloc _, by first | exact C | exact C.alloc _, hw1⟩
          case measure => have h9 := hg.out; omega
      · obtain rfl : j = 4 := by omega
        have kP0 := P.cell 0
        have kP1 := P.cell 1
        have kP2 := P.cell 2
        have kP3 := P.cell 3
        have kC0 := C.cell 0
        have kC1 := C.cell 1
        have kC2 := C.cell 2
        simp only [List.getElem?_toArray, List.getElem?_cons_zero, List.getElem?_cons_succ] at kP0 kP1 kP2 kP3 kC0 kC1 kC2
        have zP := P.lt
        have zC := C.lt
        go_wp2_with fail
        refine (known_any _).mono ?_
        rintro e w10 ⟨rfl, hb⟩
        replace P : Blk w10 (w.heap.size) 29 #[.int .i64 a, .int .i64 b, .int .i64 c, .int .i64 d] := Blk.thru0 (P) hb
        replace C : Blk w10 (w1.heap.size) 23 #[.int .i64 (k : Int), .int .i64 u, .int .i64 v] := Blk.thru0 (C) hb
        have hs := hB.size
        replace hB : Below w.heap.size w w10 := below_trans (by go_grown) hb
        clear hs
        clear kP0 kP1 kP2 kP3 kC0 kC1 kC2 zP zC
        have hszw10 := hb.size
        (try simp at hszw10)
        clear hb
        have kP0 := P.cell 0
        have kP1 := P.cell 1
        have kP2 := P.cell 2
        have kP3 := P.cell 3
        have kC0 := C.cell 0
        have kC1 := C.cell 1
        have kC2 := C.cell 2
        simp only [List.getElem?_toArray, List.getElem?_cons_zero, List.getElem?_cons_succ] at kP0 kP1 kP2 kP3 kC0 kC1 kC2
        have zP := P.lt
        have zC := C.lt
        go_wp2
        go_ret
        exact ⟨rfl, by first | exact hB | go_grown⟩
  · go_enter Try.func10, Try.ntmps10
    go_wp2_with fail
    refine (home_u a b c d _).mono ?_
    rintro e w1 ⟨rfl, hb⟩
    have P : Blk w1 (w.heap.size) 29 #[.int .i64 a, .int .i64 b, .int .i64 c, .int .i64 d] := Blk.thru0 (Blk.newAt (by simp)) hb
    have hB : Below w.heap.size w w1 := below_trans (by go_grown) hb
    have hszw1 := hb.size
    (try simp at hszw1)
    clear hb
    have kP0 := P.cell 0
    have kP1 := P.cell 1
    have kP2 := P.cell 2
    have kP3 := P.cell 3
    simp only [List.getElem?_toArray, List.getElem?_cons_zero, List.getElem?_cons_succ] at kP0 kP1 kP2 kP3
    have zP := P.lt
    go_wp2_with fail
    refine (right_any _ _ _ _ _).mono ?_
    rintro e w2 ⟨rfl, hb⟩
    replace P : Blk w2 (w.heap.size) 29 #[.int .i64 a, .int .i64 b, .int .i64 c, .int .i64 d] := Blk.thru0 ((P).alloc _) hb
    have C : Blk w2 (w1.heap.size) 23 #[.int .i64 (h0 a b c d), .int .i64 (h1 a b c d), .int .i64 (h2 a b c d)] := Blk.thru0 (Blk.newAt (by simp)) hb
    have hs := hB.size
    replace hB : Below w.heap.size w w2 := below_trans (by go_grown) hb
    clear hs
    clear kP0 kP1 kP2 kP3 zP
    have hszw2 := hb.size
    (try simp at hszw2)
    clear hb
    have kP0 := P.cell 0
    have kP1 := P.cell 1
    have kP2 := P.cell 2
    have kP3 := P.cell 3
    have kC0 := C.cell 0
    have kC1 := C.cell 1
    have kC2 := C.cell 2
    simp only [List.getElem?_toArray, List.getElem?_cons_zero, List.getElem?_cons_succ] at kP0 kP1 kP2 kP3 kC0 kC1 kC2
    have zP := P.lt
    have zC := C.lt
    go_wp2_with fail
    refine (known_any _).mono ?_
    rintro e w3 ⟨rfl, hb⟩
    replace P : Blk w3 (w.heap.size) 29 #[.int .i64 a, .int .i64 b, .int .i64 c, .int .i64 d] := Blk.thru0 (P) hb
    replace C : Blk w3 (w1.heap.size) 23 #[.int .i64 (h0 a b c d), .int .i64 (h1 a b c d), .int .i64 (h2 a b c d)] := Blk.thru0 (C) hb
    have hs := hB.size
    replace hB : Below w.heap.size w w3 := below_trans (by go_grown) hb
    clear hs
    clear kP0 kP1 kP2 kP3 kC0 kC1 kC2 zP zC
    have hszw3 := hb.size
    (try simp at hszw3)
    clear hb
    have kP0 := P.cell 0
    have kP1 := P.cell 1
    have kP2 := P.cell 2
    have kP3 := P.cell 3
    have kC0 := C.cell 0
    have kC1 := C.cell 1
    have kC2 := C.cell 2
    simp only [List.getElem?_toArray, List.getElem?_cons_zero, List.getElem?_cons_succ] at kP0 kP1 kP2 kP3 kC0 kC1 kC2
    have zP := P.lt
    have zC := C.lt
    go_wp2
    go_ret
    exact ⟨rfl, by first | exact hB | go_grown⟩

theorem own : ownKnob Try.prog.godebug = none := by kernel_rfl
theorem laidOut : laidOutB Try.prog = true := by kernel_rfl
set_option maxRecDepth 100000 in
theorem lifted (os : Os) (started : os.Started) (H : Type) (enc : TypeId × Value → H) :
    ReturnsInHanded {} Try.checked os 10 .any (Rows.cellHomesSpec.pre6 enc Try.prog Try.f10 Rows.cellHomesRow.domain false) (Rows.cellHomesSpec.post enc Try.prog Try.f10 false true false false) := by
  refine returnsInHanded_of_change (C := Try.checked) own started (by kernel_rfl) Try.func10
    (ChangeSpec.witness6 (enc := enc) (C := Try.checked) false ⟨#[], #[.agg #[.int .i64 0, .int .i64 0, .int .i64 0, .int .i64 0]], []⟩ 8 (by kernel_rfl) (by kernel_rfl) (by kernel_rfl) (by kernel_rfl)) ?_
  intro W base args ds gs before hval0 hW hcnd _
  have hval : ∀ (j : Nat) t v, Try.f10.params[j]? = some t → args[j]? = some v → Value.okWide Try.prog W .any base t v := hval0
  have hW' := hW
  obtain ⟨p, q, hA0, hV, rfl, hfz, hnd⟩ := hW
  have hA : DataW.TrodAll enc Try.prog W 0 (fun _ => true) true Try.f10.params.toList args.toList ds p := hA0
  rw [Try.params10] at hA hval
  obtain ⟨v0, vs0, d0, ds0, p0, q0, hargs, rfl, rfl, h0, r0⟩ := trodAll_cons hA
  obtain ⟨rfl, rfl, rfl⟩ := trodAll_nil r0
  obtain rfl : args = #[v0] := by cases args; simp_all
  obtain ⟨rfl, rfl⟩ := trodVars_none hV
  have k0 := h0
  have lt0 : ∀ x ∈ p0, x.block < W.heap.size := by obtain ⟨m, hm⟩ := k0; exact DataW.trod_lt m _ _ _ hm
  obtain ⟨c0_0, c0_1, c0_2, c0_3, y0_0, y0_1, y0_2, y0_3, m0, rfl, rfl, rfl, hy0_0, hy0_1, hy0_2, hy0_3⟩ := Joins.open_agg4 Try.underlying29 (by kernel_rfl) (by kernel_rfl) (hval 0 29 v0 rfl rfl) h0
  obtain ⟨a0_0, e0_0, rfl, w0_0⟩ := DataW.trod_int Try.underlying3 hy0_0
  simp only [List.cons.injEq, and_true] at e0_0
  subst e0_0
  obtain ⟨a0_1, e0_1, rfl, w0_1⟩ := DataW.trod_int Try.underlying3 hy0_1
  simp only [List.cons.injEq, and_true] at e0_1
  subst e0_1
  obtain ⟨a0_2, e0_2, rfl, w0_2⟩ := DataW.trod_int Try.underlying3 hy0_2
  simp only [List.cons.injEq, and_true] at e0_2
  subst e0_2
  obtain ⟨a0_3, e0_3, rfl, w0_3⟩ := DataW.trod_int Try.underlying3 hy0_3
  simp only [List.cons.injEq, and_true] at e0_3
  subst e0_3
  clear hA0 hval0
  refine (walk a0_0 a0_1 a0_2 a0_3 W (bounds_i64 w0_0) (bounds_i64 w0_1) (bounds_i64 w0_2) (bounds_i64 w0_3)).mono fun e W' ⟨he, bel⟩ => ?_
  subst he
  exact ⟨_, rfl, _, _, _, [], _, [], hW', trodAll_mk1 (shut_bool Try.underlying4 _), (trodAll_cons_mk (Below.trod laidOut (by kernel_rfl) (of_decide_eq_true (by kernel_rfl)) k0 bel lt0) trodAll_mk0), rfl, bel.frame _, fun h => by cases h⟩
theorem over : Rows.cellHomesRow.holds Try.pinned (OpenSpec.ofChange Rows.cellHomesSpec) :=
  OpenClaim.holds_of_wide 10 Try.f10 rfl rfl rfl rfl rfl rfl rfl ⟨rfl, rfl, rfl, rfl, rfl⟩ rfl rfl rfl rfl rfl (by kernel_rfl) Try.func10 (by kernel_rfl)
    (of_decide_eq_true (by kernel_rfl)) (by unfold Func.isWrapper; first | (rw [if_pos (by decide +kernel)]; kernel_rfl) | (rw [if_neg (by decide +kernel)]; exact ⟨rfl, rfl⟩))
    (fun os started H enc _ => lifted os started H enc)
/-- The statement. -/
theorem proved : Rows.CellHomesSaid := over
#print axioms proved
end Go.Proofs.Ytpbnbnhmlpjbjaa.cellHomes
