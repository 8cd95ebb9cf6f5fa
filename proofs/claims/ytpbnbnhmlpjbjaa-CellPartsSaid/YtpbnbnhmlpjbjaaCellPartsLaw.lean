/- CellParts: (P3.5) the children of a cell part its box: each point of it is in just one of theirs. Conditions: none. -/
import Derived.Test.YtpbnbnhmlpjbjaaCellKnown
import Derived.Test.YtpbnbnhmlpjbjaaFrame
import Derived.Lib.SmallJoins
import Derived.Test.YtpbnbnhmlpjbjaaCellParts
import Derived.Deep.LoopGhost
namespace Go.Proofs.Ytpbnbnhmlpjbjaa.cellParts
set_option linter.unusedVariables false
set_option linter.unusedSimpArgs false
open Go.ChangeShapes Go.WideShapes Go.ChangeAt Go.RowKit
open Go.ChangeMaps (open_string shut_string)
set_option maxHeartbeats 4000000 in
theorem walk (L x y px py : Int) (w : World) (_hL : -9223372036854775808 ≤ L ∧ L ≤ 9223372036854775807) (_hx : -9223372036854775808 ≤ x ∧ x ≤ 9223372036854775807) (_hy : -9223372036854775808 ≤ y ∧ y ≤ 9223372036854775807) (_hpx : -9223372036854775808 ≤ px ∧ px ≤ 9223372036854775807) (_hpy : -9223372036854775808 ≤ py ∧ py ≤ 9223372036854775807)  :
    Calls Try.prog 6 #[.agg #[.int .i64 L, .int .i64 x, .int .i64 y], .agg #[.int .i64 px, .int .i64 py]] w fun e w' => e = .returned (.bool true) ∧ Below w.heap.size w w' := by
  rcases Bool.eq_false_or_eq_true (okC L x y) with hC | hC
  · by_cases h16 : L = 16
    · subst h16
      have hk0 : okK 16 x y 0 = false := by rw [okK, show decide ((16 : Int) ≠ 16 ∧ (0 : Int) ≤ 0 ∧ (0 : Int) ≤ 3) = false from by decide, Bool.and_false]
      go_enter Try.func6, Try.ntmps6
      go_wp2_with fail
      refine (cright_any _ _ _ _).mono ?_
      rintro e w1 ⟨rfl, hb⟩
      have P : Blk w1 (w.heap.size) 23 #[.int .i64 16, .int .i64 x, .int .i64 y] := Blk.thru0 ((Blk.newAt (by simp)).alloc _) hb
      have Q : Blk w1 (w.heap.size + 1) 25 #[.int .i64 px, .int .i64 py] := Blk.thru0 (Blk.newAt (by simp)) hb
      have hB : Below w.heap.size w w1 := below_trans (by go_grown) hb
      have hszw1 := hb.size
      (try simp at hszw1)
      clear hb
      have kP0 := P.cell 0
      have kP1 := P.cell 1
      have kP2 := P.cell 2
      have kQ0 := Q.cell 0
      have kQ1 := Q.cell 1
      simp only [List.getElem?_toArray, List.getElem?_cons_zero, List.getElem?_cons_succ] at kP0 kP1 kP2 kQ0 kQ1
      have zP := P.lt
      have zQ := Q.lt
      go_wp2_with fail
      refine (cchild_u 16 x y 0 _).mono ?_
      rintro e w2 ⟨rfl, hb⟩
      replace P : Blk w2 (w.heap.size) 23 #[.int .i64 16, .int .i64 x, .int .i64 y] := Blk.thru0 (P) hb
      replace Q : Blk w2 (w.heap.size + 1) 25 #[.int .i64 px, .int .i64 py] := Blk.thru0 (Q) hb
      have hs := hB.size
      replace hB : Below w.heap.size w w2 := below_trans (by go_grown) hb
      clear hs
      clear kP0 kP1 kP2 kQ0 kQ1 zP zQ
      have hszw2 := hb.size
      (try simp at hszw2)
      clear hb
      have kP0 := P.cell 0
      have kP1 := P.cell 1
      have kP2 := P.cell 2
      have kQ0 := Q.cell 0
      have kQ1 := Q.cell 1
      simp only [List.getElem?_toArray, List.getElem?_cons_zero, List.getElem?_cons_succ] at kP0 kP1 kP2 kQ0 kQ1
      have zP := P.lt
      have zQ := Q.lt
      go_wp2_with fail
      refine (known_any _).mono ?_
      rintro e w3 ⟨rfl, hb⟩
      replace P : Blk w3 (w.heap.size) 23 #[.int .i64 16, .int .i64 x, .int .i64 y] := Blk.thru0 ((P).alloc _) hb
      replace Q : Blk w3 (w.heap.size + 1) 25 #[.int .i64 px, .int .i64 py] := Blk.thru0 ((Q).alloc _) hb
      have D : Blk w3 (w2.heap.size) 23 #[.int .i64 (c0 16 x y 0), .int .i64 (c1 16 x y 0), .int .i64 (c2 16 x y 0)] := Blk.thru0 (Blk.newAt (by simp)) hb
      have hs := hB.size
      replace hB : Below w.heap.size w w3 := below_trans (by go_grown) hb
      clear hs
      clear kP0 kP1 kP2 kQ0 kQ1 zP zQ
      have hszw3 := hb.size
      (try simp at hszw3)
      clear hb
      have kP0 := P.cell 0
      have kP1 := P.cell 1
      have kP2 := P.cell 2
      have kQ0 := Q.cell 0
      have kQ1 := Q.cell 1
      have kD0 := D.cell 0
      have kD1 := D.cell 1
      have kD2 := D.cell 2
      simp only [List.getElem?_toArray, List.getElem?_cons_zero, List.getElem?_cons_succ] at kP0 kP1 kP2 kQ0 kQ1 kD0 kD1 kD2
      have zP := P.lt
      have zQ := Q.lt
      have zD := D.lt
      go_wp2
      go_ret
      exact ⟨rfl, by first | exact hB | go_grown⟩
    · have g := okC_16 _ _ _ hC
      obtain ⟨l, rfl⟩ := Int.eq_ofNat_of_zero_le g.1
      have hl : l < 16 := by omega
      obtain ⟨s, hs⟩ : ∃ s, (2 : Int) ^ (16 - l) = s := ⟨_, rfl⟩
      obtain ⟨t, ht⟩ : ∃ t, (2 : Int) ^ (16 - (l + 1)) = t := ⟨_, rfl⟩
      obtain ⟨tp, tl, tt0, tt1, hpart, harea, hhas, hle⟩ := part_all l x y s t px py hl hC hs ht
      have hbox := cbox_yes l x y s (by omega) hC hs
      have hch : ∀ j : Int, 0 ≤ j → j ≤ 3 → ∀ w : World, Calls Try.prog 21 #[.agg #[.int .i64 (l : Int), .int .i64 x, .int .i64 y], .int .i64 j] w fun e w' => e = .returned (.tuple #[.agg #[.int .i64 ((l : Int) + 1), .int .i64 (2 * x + j % 2), .int .i64 (2 * y + j / 2)], .bool true]) ∧ Below w.heap.size w w' := fun j h0 h3 w => cchild_yes (l : Int) x y j hC (by omega) h0 h3 w
      have hbj : ∀ j : Int, 0 ≤ j → j ≤ 3 → ∀ w : World, Calls Try.prog 14 #[.agg #[.int .i64 ((l : Int) + 1), .int .i64 (2 * x + j % 2), .int .i64 (2 * y + j / 2)]] w fun e w' => e = .returned (.tuple #[.agg #[.int .i64 (kx x t j), .int .i64 (ky y t j), .int .i64 (kx x t j + t - 1), .int .i64 (ky y t j + t - 1)], .bool true]) ∧ Below w.heap.size w w' := by
        intro j h0 h3 w
        obtain ⟨_, hK, _, _, _⟩ := child_box l x y j hl hC h0 h3
        have := cbox_yes (l + 1) (2 * x + j % 2) (2 * y + j / 2) t (by omega) hK ht w
        rwa [show ((l + 1 : Nat) : Int) = (l : Int) + 1 by push_cast; rfl] at this
      have hpa : ∀ j : Int, 0 ≤ j → j ≤ 3 → ∀ w : World, Calls Try.prog 19 #[.agg #[.int .i64 ((l : Int) + 1), .int .i64 (2 * x + j % 2), .int .i64 (2 * y + j / 2)]] w fun e w' => e = .returned (.tuple #[.agg #[.int .i64 (l : Int), .int .i64 x, .int .i64 y], .bool true]) ∧ Below w.heap.size w w' := by
        intro j h0 h3 w
        obtain ⟨q0, q1, q2, q3⟩ := parent_child l x y j hl hC h0 h3
        have := cparent_any ((l : Int) + 1) (2 * x + j % 2) (2 * y + j / 2) w
        rwa [q0, q1, q2, q3] at this
      have hne : ((l : Int) == 16) = false := by simp; omega
      have HBOX := Lib.hid hbox; have HCHI := Lib.hid hch; have HBJ := Lib.hid hbj; have HPA := Lib.hid hpa; have HPART := Lib.hid hpart; have HAREA := Lib.hid harea; have HHAS := Lib.hid hhas
      clear hbox hch hbj hpa hpart harea hhas hs ht
      generalize hQ : t * t = aq at tt0 tt1 HPART HAREA
      have HQ := Lib.hid hQ; clear hQ
      go_enter Try.func6, Try.ntmps6
      go_wp2_with fail
      refine (cright_any _ _ _ _).mono ?_
      rintro e w1 ⟨rfl, hb⟩
      have P : Blk w1 (w.heap.size) 23 #[.int .i64 (l : Int), .int .i64 x, .int .i64 y] := Blk.thru0 ((Blk.newAt (by simp)).alloc _) hb
      have Q : Blk w1 (w.heap.size + 1) 25 #[.int .i64 px, .int .i64 py] := Blk.thru0 (Blk.newAt (by simp)) hb
      have hB : Below w.heap.size w w1 := below_trans (by go_grown) hb
      have hszw1 := hb.size
      (try simp at hszw1)
      clear hb
      have kP0 := P.cell 0
      have kP1 := P.cell 1
      have kP2 := P.cell 2
      have kQ0 := Q.cell 0
      have kQ1 := Q.cell 1
      simp only [List.getElem?_toArray, List.getElem?_cons_zero, List.getElem?_cons_succ] at kP0 kP1 kP2 kQ0 kQ1
      have zP := P.lt
      have zQ := Q.lt
      go_wp2_with fail
      refine (HBOX.out _).mono ?_
      rintro e w2 ⟨rfl, hb⟩
      replace P : Blk w2 (w.heap.size) 23 #[.int .i64 (l : Int), .int .i64 x, .int .i64 y] := Blk.thru0 (P) hb
      replace Q : Blk w2 (w.heap.size + 1) 25 #[.int .i64 px, .int .i64 py] := Blk.thru0 (Q) hb
      have hs := hB.size
      replace hB : Below w.heap.size w w2 := below_trans (by go_grown) hb
      clear hs
      clear kP0 kP1 kP2 kQ0 kQ1 zP zQ
      have hszw2 := hb.size
      (try simp at hszw2)
      clear hb
      have kP0 := P.cell 0
      have kP1 := P.cell 1
      have kP2 := P.cell 2
      have kQ0 := Q.cell 0
      have kQ1 := Q.cell 1
      simp only [List.getElem?_toArray, List.getElem?_cons_zero, List.getElem?_cons_succ] at kP0 kP1 kP2 kQ0 kQ1
      have zP := P.lt
      have zQ := Q.lt
      go_wp2
      go_loopg [9, 10, 11] 4 (fun g n ar i wr => ∃ j : Nat, i = .int .i64 j ∧ n = .int .i64 (pcnt x y t px py j) ∧ ar = .int .u64 (qsum aq j) ∧ Hid (g + j = 4) ∧ j ≤ 4 ∧ Below w.heap.size w wr ∧ Blk wr w.heap.size 23 #[.int .i64 (l : Int), .int .i64 x, .int .i64 y] ∧ Blk wr (w.heap.size + 1) 25 #[.int .i64 px, .int .i64 py] ∧ Blk wr w2.heap.size 29 #[.int .i64 (x * s), .int .i64 (y * s), .int .i64 (x * s + s - 1), .int .i64 (y * s + s - 1)] ∧ w.heap.size + 1 < w2.heap.size)
      case atStart => exact ⟨0, rfl, rfl, rfl, rfl, by omega, by have hs := hB.size; go_grown, P.alloc _, Q.alloc _, Blk.new _ _ _, by omega⟩
      case round =>
        clear hB P Q kP0 kP1 kP2 kQ0 kQ1 zP zQ
        obtain ⟨j, rfl, rfl, rfl, hg, hj, hB, P, Q, B, hw2⟩ := hrel
        have hcn := pcnt_bd x y t px py j
        obtain ⟨hcn0, hcn1⟩ := hcn
        have hqs := qsum_bd _ tt0 tt1 j hj
        obtain ⟨hqs0, hqs1⟩ := hqs
        by_cases hlt : j < 4
        · have hj0 : (0 : Int) ≤ (j : Int) := by omega
          have hj3 : (j : Int) ≤ 3 := by omega
          have hin := (HPART.out (j : Int) hj0 hj3).1
          have hai := (HPART.out (j : Int) hj0 hj3).2
          have hps : Hid (pcnt x y t px py (j + 1) = pcnt x y t px py j + if hk x y t px py (j : Int) = true then 1 else 0) := rfl
          have hqq : Hid (qsum aq (j + 1) = qsum aq j + aq) := rfl
          have hcn2 : pcnt x y t px py j ≤ 4 := by omega
          have hhk : hasB (kx x t (j : Int)) (ky y t (j : Int)) (kx x t (j : Int) + t - 1) (ky y t (j : Int) + t - 1) px py = hk x y t px py (j : Int) := rfl
          generalize hk x y t px py (j : Int) = q at hhk hps
          have kP0 := P.cell 0
          have kP1 := P.cell 1
          have kP2 := P.cell 2
          have kQ0 := Q.cell 0
          have kQ1 := Q.cell 1
          have kB0 := B.cell 0
          have kB1 := B.cell 1
          have kB2 := B.cell 2
          have kB3 := B.cell 3
          simp only [List.getElem?_toArray, List.getElem?_cons_zero, List.getElem?_cons_succ] at kP0 kP1 kP2 kQ0 kQ1 kB0 kB1 kB2 kB3
          have zP := P.lt
          have zQ := Q.lt
          have zB := B.lt
          rcases Bool.eq_false_or_eq_true q with hq | hq
          all_goals
            subst hq
            go_wp2_with fail
            refine (HCHI.out _ hj0 hj3 _).mono ?_
            rintro e w10 ⟨rfl, hb⟩
            replace P : Blk w10 (w.heap.size) 23 #[.int .i64 (l : Int), .int .i64 x, .int .i64 y] := Blk.thru0 (P) hb
            replace Q : Blk w10 (w.heap.size + 1) 25 #[.int .i64 px, .int .i64 py] := Blk.thru0 (Q) hb
            replace B : Blk w10 (w2.heap.size) 29 #[.int .i64 (x * s), .int .i64 (y * s), .int .i64 (x * s + s - 1), .int .i64 (y * s + s - 1)] := Blk.thru0 (B) hb
            have hs := hB.size
            replace hB : Below w.heap.size w w10 := below_trans (by go_grown) hb
            clear hs
            clear kP0 kP1 kP2 kQ0 kQ1 kB0 kB1 kB2 kB3 zP zQ zB
            have hszw10 := hb.size
            (try simp at hszw10)
            clear hb
            have kP0 := P.cell 0
            have kP1 := P.cell 1
            have kP2 := P.cell 2
            have kQ0 := Q.cell 0
            have kQ1 := Q.cell 1
            have kB0 := B.cell 0
            have kB1 := B.cell 1
            have kB2 := B.cell 2
            have kB3 := B.cell 3
            simp only [List.getElem?_toArray, List.getElem?_cons_zero, List.getElem?_cons_succ] at kP0 kP1 kP2 kQ0 kQ1 kB0 kB1 kB2 kB3
            have zP := P.lt
            have zQ := Q.lt
            have zB := B.lt
            go_wp2_with fail
            refine (HBJ.out _ hj0 hj3 _).mono ?_
            rintro e w11 ⟨rfl, hb⟩
            replace P : Blk w11 (w.heap.size) 23 #[.int .i64 (l : Int), .int .i64 x, .int .i64 y] := Blk.thru0 ((P).alloc _) hb
            replace Q : Blk w11 (w.heap.size + 1) 25 #[.int .i64 px, .int .i64 py] := Blk.thru0 ((Q).alloc _) hb
            replace B : Blk w11 (w2.heap.size) 29 #[.int .i64 (x * s), .int .i64 (y * s), .int .i64 (x * s + s - 1), .int .i64 (y * s + s - 1)] := Blk.thru0 ((B).alloc _) hb
            have D : Blk w11 (w10.heap.size) 23 #[.int .i64 ((l : Int) + 1), .int .i64 (2 * x + (j : Int) % 2), .int .i64 (2 * y + (j : Int) / 2)] := Blk.thru0 (Blk.newAt (by simp)) hb
            have hs := hB.size
            replace hB : Below w.heap.size w w11 := below_trans (by go_grown) hb
            clear hs
            clear kP0 kP1 kP2 kQ0 kQ1 kB0 kB1 kB2 kB3 zP zQ zB
            have hszw11 := hb.size
            (try simp at hszw11)
            clear hb
            have kP0 := P.cell 0
            have kP1 := P.cell 1
            have kP2 := P.cell 2
            have kQ0 := Q.cell 0
            have kQ1 := Q.cell 1
            have kB0 := B.cell 0
            have kB1 := B.cell 1
            have kB2 := B.cell 2
            have kB3 := B.cell 3
            have kD0 := D.cell 0
            have kD1 := D.cell 1
            have kD2 := D.cell 2
            simp only [List.getElem?_toArray, List.getElem?_cons_zero, List.getElem?_cons_succ] at kP0 kP1 kP2 kQ0 kQ1 kB0 kB1 kB2 kB3 kD0 kD1 kD2
            have zP := P.lt
            have zQ := Q.lt
            have zB := B.lt
            have zD := D.lt
            go_wp2_with fail
            refine (HPA.out _ hj0 hj3 _).mono ?_
            rintro e w12 ⟨rfl, hb⟩
            replace P : Blk w12 (w.heap.size) 23 #[.int .i64 (l : Int), .int .i64 x, .int .i64 y] := Blk.thru0 ((P).alloc _) hb
            replace Q : Blk w12 (w.heap.size + 1) 25 #[.int .i64 px, .int .i64 py] := Blk.thru0 ((Q).alloc _) hb
            replace B : Blk w12 (w2.heap.size) 29 #[.int .i64 (x * s), .int .i64 (y * s), .int .i64 (x * s + s - 1), .int .i64 (y * s + s - 1)] := Blk.thru0 ((B).alloc _) hb
            replace D : Blk w12 (w10.heap.size) 23 #[.int .i64 ((l : Int) + 1), .int .i64 (2 * x + (j : Int) % 2), .int .i64 (2 * y + (j : Int) / 2)] := Blk.thru0 ((D).alloc _) hb
            have E : Blk w12 (w11.heap.size) 29 #[.int .i64 (kx x t (j : Int)), .int .i64 (ky y t (j : Int)), .int .i64 (kx x t (j : Int) + t - 1), .int .i64 (ky y t (j : Int) + t - 1)] := Blk.thru0 (Blk.newAt (by simp)) hb
            have hs := hB.size
            replace hB : Below w.heap.size w w12 := below_trans (by go_grown) hb
            clear hs
            clear kP0 kP1 kP2 kQ0 kQ1 kB0 kB1 kB2 kB3 kD0 kD1 kD2 zP zQ zB zD
            have hszw12 := hb.size
            (try simp at hszw12)
            clear hb
            have kP0 := P.cell 0
            have kP1 := P.cell 1
            have kP2 := P.cell 2
            have kQ0 := Q.cell 0
            have kQ1 := Q.cell 1
            have kB0 := B.cell 0
            have kB1 := B.cell 1
            have kB2 := B.cell 2
            have kB3 := B.cell 3
            have kD0 := D.cell 0
            have kD1 := D.cell 1
            have kD2 := D.cell 2
            have kE0 := E.cell 0
            have kE1 := E.cell 1
            have kE2 := E.cell 2
            have kE3 := E.cell 3
            simp only [List.getElem?_toArray, List.getElem?_cons_zero, List.getElem?_cons_succ] at kP0 kP1 kP2 kQ0 kQ1 kB0 kB1 kB2 kB3 kD0 kD1 kD2 kE0 kE1 kE2 kE3
            have zP := P.lt
            have zQ := Q.lt
            have zB := B.lt
            have zD := D.lt
            have zE := E.lt
            go_wp2_with fail
            refine (in_any _ _ _ _ _ _ _ _ _).mono ?_
            rintro e w13 ⟨rfl, hb⟩
            replace P : Blk w13 (w.heap.size) 23 #[.int .i64 (l : Int), .int .i64 x, .int .i64 y] := Blk.thru0 ((P).alloc _) hb
            replace Q : Blk w13 (w.heap.size + 1) 25 #[.int .i64 px, .int .i64 py] := Blk.thru0 ((Q).alloc _) hb
            replace B : Blk w13 (w2.heap.size) 29 #[.int .i64 (x * s), .int .i64 (y * s), .int .i64 (x * s + s - 1), .int .i64 (y * s + s - 1)] := Blk.thru0 ((B).alloc _) hb
            replace D : Blk w13 (w10.heap.size) 23 #[.int .i64 ((l : Int) + 1), .int .i64 (2 * x + (j : Int) % 2), .int .i64 (2 * y + (j : Int) / 2)] := Blk.thru0 ((D).alloc _) hb
            replace E : Blk w13 (w11.heap.size) 29 #[.int .i64 (kx x t (j : Int)), .int .i64 (ky y t (j : Int)), .int .i64 (kx x t (j : Int) + t - 1), .int .i64 (ky y t (j : Int) + t - 1)] := Blk.thru0 ((E).alloc _) hb
            have F : Blk w13 (w12.heap.size) 23 #[.int .i64 (l : Int), .int .i64 x, .int .i64 y] := Blk.thru0 (Blk.newAt (by simp)) hb
            have hs := hB.size
            replace hB : Below w.heap.size w w13 := below_trans (by go_grown) hb
            clear hs
            clear kP0 kP1 kP2 kQ0 kQ1 kB0 kB1 kB2 kB3 kD0 kD1 kD2 kE0 kE1 kE2 kE3 zP zQ zB zD zE
            have hszw13 := hb.size
            (try simp at hszw13)
            clear hb
            have kP0 := P.cell 0
            have kP1 := P.cell 1
            have kP2 := P.cell 2
            have kQ0 := Q.cell 0
            have kQ1 := Q.cell 1
            have kB0 := B.cell 0
            have kB1 := B.cell 1
            have kB2 := B.cell 2
            have kB3 := B.cell 3
            have kD0 := D.cell 0
            have kD1 := D.cell 1
            have kD2 := D.cell 2
            have kE0 := E.cell 0
            have kE1 := E.cell 1
            have kE2 := E.cell 2
            have kE3 := E.cell 3
            have kF0 := F.cell 0
            have kF1 := F.cell 1
            have kF2 := F.cell 2
            simp only [List.getElem?_toArray, List.getElem?_cons_zero, List.getElem?_cons_succ] at kP0 kP1 kP2 kQ0 kQ1 kB0 kB1 kB2 kB3 kD0 kD1 kD2 kE0 kE1 kE2 kE3 kF0 kF1 kF2
            have zP := P.lt
            have zQ := Q.lt
            have zB := B.lt
            have zD := D.lt
            have zE := E.lt
            have zF := F.lt
            go_wp2_with fail
            refine (area_u _ _ _ _ _).mono ?_
            rintro e w14 ⟨rfl, hb⟩
            replace P : Blk w14 (w.heap.size) 23 #[.int .i64 (l : Int), .int .i64 x, .int .i64 y] := Blk.thru0 (P) hb
            replace Q : Blk w14 (w.heap.size + 1) 25 #[.int .i64 px, .int .i64 py] := Blk.thru0 (Q) hb
            replace B : Blk w14 (w2.heap.size) 29 #[.int .i64 (x * s), .int .i64 (y * s), .int .i64 (x * s + s - 1), .int .i64 (y * s + s - 1)] := Blk.thru0 (B) hb
            replace D : Blk w14 (w10.heap.size) 23 #[.int .i64 ((l : Int) + 1), .int .i64 (2 * x + (j : Int) % 2), .int .i64 (2 * y + (j : Int) / 2)] := Blk.thru0 (D) hb
            replace E : Blk w14 (w11.heap.size) 29 #[.int .i64 (kx x t (j : Int)), .int .i64 (ky y t (j : Int)), .int .i64 (kx x t (j : Int) + t - 1), .int .i64 (ky y t (j : Int) + t - 1)] := Blk.thru0 (E) hb
            replace F : Blk w14 (w12.heap.size) 23 #[.int .i64 (l : Int), .int .i64 x, .int .i64 y] := Blk.thru0 (F) hb
            have hs := hB.size
            replace hB : Below w.heap.size w w14 := below_trans (by go_grown) hb
            clear hs
            clear kP0 kP1 kP2 kQ0 kQ1 kB0 kB1 kB2 kB3 kD0 kD1 kD2 kE0 kE1 kE2 kE3 kF0 kF1 kF2 zP zQ zB zD zE zF
            have hszw14 := hb.size
            (try simp at hszw14)
            clear hb
            have kP0 := P.cell 0
            have kP1 := P.cell 1
            have kP2 := P.cell 2
            have kQ0 := Q.cell 0
            have kQ1 := Q.cell 1
            have kB0 := B.cell 0
            have kB1 := B.cell 1
            have kB2 := B.cell 2
            have kB3 := B.cell 3
            have kD0 := D.cell 0
            have kD1 := D.cell 1
            have kD2 := D.cell 2
            have kE0 := E.cell 0
            have kE1 := E.cell 1
            have kE2 := E.cell 2
            have kE3 := E.cell 3
            have kF0 := F.cell 0
            have kF1 := F.cell 1
            have kF2 := F.cell 2
            simp only [List.getElem?_toArray, List.getElem?_cons_zero, List.getElem?_cons_succ] at kP0 kP1 kP2 kQ0 kQ1 kB0 kB1 kB2 kB3 kD0 kD1 kD2 kE0 kE1 kE2 kE3 kF0 kF1 kF2
            have zP := P.lt
            have zQ := Q.lt
            have zB := B.lt
            have zD := D.lt
            have zE := E.lt
            have zF := F.lt
            go_wp2_with fail
            refine (has_any _ _ _ _ _ _ _).mono ?_
            rintro e w15 ⟨rfl, hb⟩
            replace P : Blk w15 (w.heap.size) 23 #[.int .i64 (l : Int), .int .i64 x, .int .i64 y] := Blk.thru0 (P) hb
            replace Q : Blk w15 (w.heap.size + 1) 25 #[.int .i64 px, .int .i64 py] := Blk.thru0 (Q) hb
            replace B : Blk w15 (w2.heap.size) 29 #[.int .i64 (x * s), .int .i64 (y * s), .int .i64 (x * s + s - 1), .int .i64 (y * s + s - 1)] := Blk.thru0 (B) hb
            replace D : Blk w15 (w10.heap.size) 23 #[.int .i64 ((l : Int) + 1), .int .i64 (2 * x + (j : Int) % 2), .int .i64 (2 * y + (j : Int) / 2)] := Blk.thru0 (D) hb
            replace E : Blk w15 (w11.heap.size) 29 #[.int .i64 (kx x t (j : Int)), .int .i64 (ky y t (j : Int)), .int .i64 (kx x t (j : Int) + t - 1), .int .i64 (ky y t (j : Int) + t - 1)] := Blk.thru0 (E) hb
            replace F : Blk w15 (w12.heap.size) 23 #[.int .i64 (l : Int), .int .i64 x, .int .i64 y] := Blk.thru0 (F) hb
            have hs := hB.size
            replace hB : Below w.heap.size w w15 := below_trans (by go_grown) hb
            clear hs
            clear kP0 kP1 kP2 kQ0 kQ1 kB0 kB1 kB2 kB3 kD0 kD1 kD2 kE0 kE1 kE2 kE3 kF0 kF1 kF2 zP zQ zB zD zE zF
            have hszw15 := hb.size
            (try simp at hszw15)
            clear hb
            have kP0 := P.cell 0
            have kP1 := P.cell 1
            have kP2 := P.cell 2
            have kQ0 := Q.cell 0
            have kQ1 := Q.cell 1
            have kB0 := B.cell 0
            have kB1 := B.cell 1
            have kB2 := B.cell 2
            have kB3 := B.cell 3
            have kD0 := D.cell 0
            have kD1 := D.cell 1
            have kD2 := D.cell 2
            have kE0 := E.cell 0
            have kE1 := E.cell 1
            have kE2 := E.cell 2
            have kE3 := E.cell 3
            have kF0 := F.cell 0
            have kF1 := F.cell 1
            have kF2 := F.cell 2
            simp only [List.getElem?_toArray, List.getElem?_cons_zero, List.getElem?_cons_succ] at kP0 kP1 kP2 kQ0 kQ1 kB0 kB1 kB2 kB3 kD0 kD1 kD2 kE0 kE1 kE2 kE3 kF0 kF1 kF2
            have zP := P.lt
            have zQ := Q.lt
            have zB := B.lt
            have zD := D.lt
            have zE := E.lt
            have zF := F.lt
            go_wp2
            go_roundg (gk - 1)
            case rel => exact ⟨j + 1, by go_num, by rw [hps.out]; simp, by rw [hqq.out], (show gk - 1 + (j + 1) = 4 by have h9 := hg.out; omega), by omega, by first | exact hB | go_grown, P, Q, B, hw2⟩
            case measure => have h9 := hg.out; omega
        · obtain rfl : j = 4 := by omega
          have har := HAREA.out
          have hha := HHAS.out
          generalize hgc : (pcnt x y t px py 4 == 1) = q at hha
          have kP0 := P.cell 0
          have kP1 := P.cell 1
          have kP2 := P.cell 2
          have kQ0 := Q.cell 0
          have kQ1 := Q.cell 1
          have kB0 := B.cell 0
          have kB1 := B.cell 1
          have kB2 := B.cell 2
          have kB3 := B.cell 3
          simp only [List.getElem?_toArray, List.getElem?_cons_zero, List.getElem?_cons_succ] at kP0 kP1 kP2 kQ0 kQ1 kB0 kB1 kB2 kB3
          have zP := P.lt
          have zQ := Q.lt
          have zB := B.lt
          go_wp2_with fail
          refine (area_u _ _ _ _ _).mono ?_
          rintro e w10 ⟨rfl, hb⟩
          replace P : Blk w10 (w.heap.size) 23 #[.int .i64 (l : Int), .int .i64 x, .int .i64 y] := Blk.thru0 (P) hb
          replace Q : Blk w10 (w.heap.size + 1) 25 #[.int .i64 px, .int .i64 py] := Blk.thru0 (Q) hb
          replace B : Blk w10 (w2.heap.size) 29 #[.int .i64 (x * s), .int .i64 (y * s), .int .i64 (x * s + s - 1), .int .i64 (y * s + s - 1)] := Blk.thru0 (B) hb
          have hs := hB.size
          replace hB : Below w.heap.size w w10 := below_trans (by go_grown) hb
          clear hs
          clear kP0 kP1 kP2 kQ0 kQ1 kB0 kB1 kB2 kB3 zP zQ zB
          have hszw10 := hb.size
          (try simp at hszw10)
          clear hb
          have kP0 := P.cell 0
          have kP1 := P.cell 1
          have kP2 := P.cell 2
          have kQ0 := Q.cell 0
          have kQ1 := Q.cell 1
          have kB0 := B.cell 0
          have kB1 := B.cell 1
          have kB2 := B.cell 2
          have kB3 := B.cell 3
          simp only [List.getElem?_toArray, List.getElem?_cons_zero, List.getElem?_cons_succ] at kP0 kP1 kP2 kQ0 kQ1 kB0 kB1 kB2 kB3
          have zP := P.lt
          have zQ := Q.lt
          have zB := B.lt
          go_wp2_with fail
          refine (has_any _ _ _ _ _ _ _).mono ?_
          rintro e w11 ⟨rfl, hb⟩
          replace P : Blk w11 (w.heap.size) 23 #[.int .i64 (l : Int), .int .i64 x, .int .i64 y] := Blk.thru0 (P) hb
          replace Q : Blk w11 (w.heap.size + 1) 25 #[.int .i64 px, .int .i64 py] := Blk.thru0 (Q) hb
          replace B : Blk w11 (w2.heap.size) 29 #[.int .i64 (x * s), .int .i64 (y * s), .int .i64 (x * s + s - 1), .int .i64 (y * s + s - 1)] := Blk.thru0 (B) hb
          have hs := hB.size
          replace hB : Below w.heap.size w w11 := below_trans (by go_grown) hb
          clear hs
          clear kP0 kP1 kP2 kQ0 kQ1 kB0 kB1 kB2 kB3 zP zQ zB
          have hszw11 := hb.size
          (try simp at hszw11)
          clear hb
          have kP0 := P.cell 0
          have kP1 := P.cell 1
          have kP2 := P.cell 2
          have kQ0 := Q.cell 0
          have kQ1 := Q.cell 1
          have kB0 := B.cell 0
          have kB1 := B.cell 1
          have kB2 := B.cell 2
          have kB3 := B.cell 3
          simp only [List.getElem?_toArray, List.getElem?_cons_zero, List.getElem?_cons_succ] at kP0 kP1 kP2 kQ0 kQ1 kB0 kB1 kB2 kB3
          have zP := P.lt
          have zQ := Q.lt
          have zB := B.lt
          go_wp2_with fail
          refine (known_any _).mono ?_
          rintro e w12 ⟨rfl, hb⟩
          replace P : Blk w12 (w.heap.size) 23 #[.int .i64 (l : Int), .int .i64 x, .int .i64 y] := Blk.thru0 (P) hb
          replace Q : Blk w12 (w.heap.size + 1) 25 #[.int .i64 px, .int .i64 py] := Blk.thru0 (Q) hb
          replace B : Blk w12 (w2.heap.size) 29 #[.int .i64 (x * s), .int .i64 (y * s), .int .i64 (x * s + s - 1), .int .i64 (y * s + s - 1)] := Blk.thru0 (B) hb
          have hs := hB.size
          replace hB : Below w.heap.size w w12 := below_trans (by go_grown) hb
          clear hs
          clear kP0 kP1 kP2 kQ0 kQ1 kB0 kB1 kB2 kB3 zP zQ zB
          have hszw12 := hb.size
          (try simp at hszw12)
          clear hb
          have kP0 := P.cell 0
          have kP1 := P.cell 1
          have kP2 := P.cell 2
          have kQ0 := Q.cell 0
          have kQ1 := Q.cell 1
          have kB0 := B.cell 0
          have kB1 := B.cell 1
          have kB2 := B.cell 2
          have kB3 := B.cell 3
          simp only [List.getElem?_toArray, List.getElem?_cons_zero, List.getElem?_cons_succ] at kP0 kP1 kP2 kQ0 kQ1 kB0 kB1 kB2 kB3
          have zP := P.lt
          have zQ := Q.lt
          have zB := B.lt
          go_wp2
          go_ret
          exact ⟨rfl, by first | exact hB | go_grown⟩
  · have hk0 : okK L x y 0 = false := by rw [okK, hC]; rfl
    go_enter Try.func6, Try.ntmps6
    go_wp2_with fail
    refine (cright_any _ _ _ _).mono ?_
    rintro e w1 ⟨rfl, hb⟩
    have P : Blk w1 (w.heap.size) 23 #[.int .i64 L, .int .i64 x, .int .i64 y] := Blk.thru0 ((Blk.newAt (by simp)).alloc _) hb
    have Q : Blk w1 (w.heap.size + 1) 25 #[.int .i64 px, .int .i64 py] := Blk.thru0 (Blk.newAt (by simp)) hb
    have hB : Below w.heap.size w w1 := below_trans (by go_grown) hb
    have hszw1 := hb.size
    (try simp at hszw1)
    clear hb
    have kP0 := P.cell 0
    have kP1 := P.cell 1
    have kP2 := P.cell 2
    have kQ0 := Q.cell 0
    have kQ1 := Q.cell 1
    simp only [List.getElem?_toArray, List.getElem?_cons_zero, List.getElem?_cons_succ] at kP0 kP1 kP2 kQ0 kQ1
    have zP := P.lt
    have zQ := Q.lt
    go_wp2_with fail
    refine (cchild_u L x y 0 _).mono ?_
    rintro e w2 ⟨rfl, hb⟩
    replace P : Blk w2 (w.heap.size) 23 #[.int .i64 L, .int .i64 x, .int .i64 y] := Blk.thru0 (P) hb
    replace Q : Blk w2 (w.heap.size + 1) 25 #[.int .i64 px, .int .i64 py] := Blk.thru0 (Q) hb
    have hs := hB.size
    replace hB : Below w.heap.size w w2 := below_trans (by go_grown) hb
    clear hs
    clear kP0 kP1 kP2 kQ0 kQ1 zP zQ
    have hszw2 := hb.size
    (try simp at hszw2)
    clear hb
    have kP0 := P.cell 0
    have kP1 := P.cell 1
    have kP2 := P.cell 2
    have kQ0 := Q.cell 0
    have kQ1 := Q.cell 1
    simp only [List.getElem?_toArray, List.getElem?_cons_zero, List.getElem?_cons_succ] at kP0 kP1 kP2 kQ0 kQ1
    have zP := P.lt
    have zQ := Q.lt
    go_wp2_with fail
    refine (known_any _).mono ?_
    rintro e w3 ⟨rfl, hb⟩
    replace P : Blk w3 (w.heap.size) 23 #[.int .i64 L, .int .i64 x, .int .i64 y] := Blk.thru0 ((P).alloc _) hb
    replace Q : Blk w3 (w.heap.size + 1) 25 #[.int .i64 px, .int .i64 py] := Blk.thru0 ((Q).alloc _) hb
    have D : Blk w3 (w2.heap.size) 23 #[.int .i64 (c0 L x y 0), .int .i64 (c1 L x y 0), .int .i64 (c2 L x y 0)] := Blk.thru0 (Blk.newAt (by simp)) hb
    have hs := hB.size
    replace hB : Below w.heap.size w w3 := below_trans (by go_grown) hb
    clear hs
    clear kP0 kP1 kP2 kQ0 kQ1 zP zQ
    have hszw3 := hb.size
    (try simp at hszw3)
    clear hb
    have kP0 := P.cell 0
    have kP1 := P.cell 1
    have kP2 := P.cell 2
    have kQ0 := Q.cell 0
    have kQ1 := Q.cell 1
    have kD0 := D.cell 0
    have kD1 := D.cell 1
    have kD2 := D.cell 2
    simp only [List.getElem?_toArray, List.getElem?_cons_zero, List.getElem?_cons_succ] at kP0 kP1 kP2 kQ0 kQ1 kD0 kD1 kD2
    have zP := P.lt
    have zQ := Q.lt
    have zD := D.lt
    go_wp2
    go_ret
    exact ⟨rfl, by first | exact hB | go_grown⟩

theorem own : ownKnob Try.prog.godebug = none := by kernel_rfl
theorem laidOut : laidOutB Try.prog = true := by kernel_rfl
set_option maxRecDepth 100000 in
theorem lifted (os : Os) (started : os.Started) (H : Type) (enc : TypeId × Value → H) :
    ReturnsInHanded {} Try.checked os 6 .any (Rows.cellPartsSpec.pre6 enc Try.prog Try.f6 Rows.cellPartsRow.domain false) (Rows.cellPartsSpec.post enc Try.prog Try.f6 false true false false) := by
  refine returnsInHanded_of_change (C := Try.checked) own started (by kernel_rfl) Try.func6
    (ChangeSpec.witness6 (enc := enc) (C := Try.checked) false ⟨#[], #[.agg #[.int .i64 0, .int .i64 0, .int .i64 0], .agg #[.int .i64 0, .int .i64 0]], []⟩ 8 (by kernel_rfl) (by kernel_rfl) (by kernel_rfl) (by kernel_rfl)) ?_
  intro W base args ds gs before hval0 hW hcnd _
  have hval : ∀ (j : Nat) t v, Try.f6.params[j]? = some t → args[j]? = some v → Value.okWide Try.prog W .any base t v := hval0
  have hW' := hW
  obtain ⟨p, q, hA0, hV, rfl, hfz, hnd⟩ := hW
  have hA : DataW.TrodAll enc Try.prog W 0 (fun _ => true) true Try.f6.params.toList args.toList ds p := hA0
  rw [Try.params6] at hA hval
  obtain ⟨v0, vs0, d0, ds0, p0, q0, hargs, rfl, rfl, h0, r0⟩ := trodAll_cons hA
  obtain ⟨v1, vs1, d1, ds1, p1, q1, rfl, rfl, rfl, h1, r1⟩ := trodAll_cons r0
  obtain ⟨rfl, rfl, rfl⟩ := trodAll_nil r1
  obtain rfl : args = #[v0, v1] := by cases args; simp_all
  obtain ⟨rfl, rfl⟩ := trodVars_none hV
  have k0 := h0
  have lt0 : ∀ x ∈ p0, x.block < W.heap.size := by obtain ⟨m, hm⟩ := k0; exact DataW.trod_lt m _ _ _ hm
  obtain ⟨c0_0, c0_1, c0_2, y0_0, y0_1, y0_2, m0, rfl, rfl, rfl, hy0_0, hy0_1, hy0_2⟩ := Joins.open_agg3 Try.underlying23 (by kernel_rfl) (by kernel_rfl) (hval 0 23 v0 rfl rfl) h0
  obtain ⟨a0_0, e0_0, rfl, w0_0⟩ := DataW.trod_int Try.underlying3 hy0_0
  simp only [List.cons.injEq, and_true] at e0_0
  subst e0_0
  obtain ⟨a0_1, e0_1, rfl, w0_1⟩ := DataW.trod_int Try.underlying3 hy0_1
  simp only [List.cons.injEq, and_true] at e0_1
  subst e0_1
  obtain ⟨a0_2, e0_2, rfl, w0_2⟩ := DataW.trod_int Try.underlying3 hy0_2
  simp only [List.cons.injEq, and_true] at e0_2
  subst e0_2
  have k1 := h1
  have lt1 : ∀ x ∈ p1, x.block < W.heap.size := by obtain ⟨m, hm⟩ := k1; exact DataW.trod_lt m _ _ _ hm
  obtain ⟨c1_0, c1_1, y1_0, y1_1, m1, rfl, rfl, rfl, hy1_0, hy1_1⟩ := Joins.open_agg2 Try.underlying25 (by kernel_rfl) (by kernel_rfl) (hval 1 25 v1 rfl rfl) h1
  obtain ⟨a1_0, e1_0, rfl, w1_0⟩ := DataW.trod_int Try.underlying3 hy1_0
  simp only [List.cons.injEq, and_true] at e1_0
  subst e1_0
  obtain ⟨a1_1, e1_1, rfl, w1_1⟩ := DataW.trod_int Try.underlying3 hy1_1
  simp only [List.cons.injEq, and_true] at e1_1
  subst e1_1
  clear hA0 hval0
  refine (walk a0_0 a0_1 a0_2 a1_0 a1_1 W (bounds_i64 w0_0) (bounds_i64 w0_1) (bounds_i64 w0_2) (bounds_i64 w1_0) (bounds_i64 w1_1)).mono fun e W' ⟨he, bel⟩ => ?_
  subst he
  exact ⟨_, rfl, _, _, _, [], _, [], hW', trodAll_mk1 (shut_bool Try.underlying4 _), (trodAll_cons_mk (Below.trod laidOut (by kernel_rfl) (of_decide_eq_true (by kernel_rfl)) k0 bel lt0) (trodAll_cons_mk (Below.trod laidOut (by kernel_rfl) (of_decide_eq_true (by kernel_rfl)) k1 bel lt1) trodAll_mk0)), rfl, bel.frame _, fun h => by cases h⟩
theorem over : Rows.cellPartsRow.holds Try.pinned (OpenSpec.ofChange Rows.cellPartsSpec) :=
  OpenClaim.holds_of_wide 6 Try.f6 rfl rfl rfl rfl rfl rfl rfl ⟨rfl, rfl, rfl, rfl, rfl⟩ rfl rfl rfl rfl rfl (by kernel_rfl) Try.func6 (by kernel_rfl)
    (of_decide_eq_true (by kernel_rfl)) (by unfold Func.isWrapper; first | (rw [if_pos (by decide +kernel)]; kernel_rfl) | (rw [if_neg (by decide +kernel)]; exact ⟨rfl, rfl⟩))
    (fun os started H enc _ => lifted os started H enc)
/-- The statement. -/
theorem proved : Rows.CellPartsSaid := over
#print axioms proved
end Go.Proofs.Ytpbnbnhmlpjbjaa.cellParts
