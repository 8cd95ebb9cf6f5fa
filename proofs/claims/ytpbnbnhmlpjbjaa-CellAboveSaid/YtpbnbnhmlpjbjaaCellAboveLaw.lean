/- CellAbove: (P3.1, P3.2) a cell stands under one cell of each lower level, whose box has its own; of its points it is the cell, too. Conditions: none. -/
import Derived.Test.YtpbnbnhmlpjbjaaCellKnown
import Derived.Test.YtpbnbnhmlpjbjaaFrame
import Derived.Lib.SmallJoins
import Derived.Test.YtpbnbnhmlpjbjaaCellMath3
namespace Go.Proofs.Ytpbnbnhmlpjbjaa.cellAbove
set_option linter.unusedVariables false
set_option linter.unusedSimpArgs false
open Go.ChangeShapes Go.WideShapes Go.ChangeAt Go.RowKit
open Go.ChangeMaps (open_string shut_string)
set_option maxHeartbeats 4000000 in
theorem walk (L X Y l x y : Int) (w : World) (_hL : -9223372036854775808 ≤ L ∧ L ≤ 9223372036854775807) (_hX : -9223372036854775808 ≤ X ∧ X ≤ 9223372036854775807) (_hY : -9223372036854775808 ≤ Y ∧ Y ≤ 9223372036854775807) (_hl : -9223372036854775808 ≤ l ∧ l ≤ 9223372036854775807) (_hx : -9223372036854775808 ≤ x ∧ x ≤ 9223372036854775807) (_hy : -9223372036854775808 ≤ y ∧ y ≤ 9223372036854775807)  :
    Calls Try.prog 5 #[.agg #[.int .i64 L, .int .i64 X, .int .i64 Y], .int .i64 l, .agg #[.int .i64 x, .int .i64 y]] w fun e w' => e = .returned (.bool true) ∧ Below w.heap.size w w' := by
  rcases Bool.eq_false_or_eq_true (okA L X Y l) with h1 | h1
  · obtain ⟨m1, m2⟩ := above_math L X Y l x y h1
    have M2 := Lib.hid m2; clear m2
    rcases Bool.eq_false_or_eq_true (hasB (b0 L X Y) (b1 L X Y) (b2 L X Y) (b3 L X Y) x y) with h2 | h2
    · obtain ⟨n0, n1, n2, n3⟩ := M2.out h2
      have hof : ∀ w : World, Calls Try.prog 12 #[.agg #[.int .i64 x, .int .i64 y], .int .i64 l] w fun e w' => e = .returned (.tuple #[.agg #[.int .i64 (a0 L X Y l), .int .i64 (a1 L X Y l), .int .i64 (a2 L X Y l)], .bool true]) ∧ Below w.heap.size w w' := by
        intro w; have := cof_u x y l w; rw [n0, n1, n2, n3] at this; exact this
      have HO := Lib.hid hof; clear hof n0 n1 n2 n3
      go_enter Try.func5, Try.ntmps5
      go_wp2_with fail
      refine (cabove_u L X Y l _).mono ?_
      rintro e w1 ⟨rfl, hb⟩
      have P : Blk w1 (w.heap.size) 23 #[.int .i64 L, .int .i64 X, .int .i64 Y] := Blk.thru0 ((Blk.newAt (by simp)).alloc _) hb
      have Q : Blk w1 (w.heap.size + 1) 25 #[.int .i64 x, .int .i64 y] := Blk.thru0 (Blk.newAt (by simp)) hb
      have hB : Below w.heap.size w w1 := below_trans (by go_grown) hb
      have hszw1 := hb.size
      (try simp at hszw1)
      clear hb
      have kP0 := P.cell 0
      have kP1 := P.cell 1
      have kP2 := P.cell 2
      have kQ0 := Q.cell 0
      have kQ1 := Q.cell 1
      simp only [List.getElem?_toArray, List.getElem?_cons_zero, List.getElem?_cons_succ] at kP0 kP1 kP2 kQ0 kQ1
      have zP := P.lt
      have zQ := Q.lt
      go_wp2_with fail
      refine (rabove_u L X Y l _).mono ?_
      rintro e w2 ⟨rfl, hb⟩
      replace P : Blk w2 (w.heap.size) 23 #[.int .i64 L, .int .i64 X, .int .i64 Y] := Blk.thru0 ((P).alloc _) hb
      replace Q : Blk w2 (w.heap.size + 1) 25 #[.int .i64 x, .int .i64 y] := Blk.thru0 ((Q).alloc _) hb
      have A : Blk w2 (w1.heap.size) 23 #[.int .i64 (a0 L X Y l), .int .i64 (a1 L X Y l), .int .i64 (a2 L X Y l)] := Blk.thru0 (Blk.newAt (by simp)) hb
      have hs := hB.size
      replace hB : Below w.heap.size w w2 := below_trans (by go_grown) hb
      clear hs
      clear kP0 kP1 kP2 kQ0 kQ1 zP zQ
      have hszw2 := hb.size
      (try simp at hszw2)
      clear hb
      have kP0 := P.cell 0
      have kP1 := P.cell 1
      have kP2 := P.cell 2
      have kQ0 := Q.cell 0
      have kQ1 := Q.cell 1
      have kA0 := A.cell 0
      have kA1 := A.cell 1
      have kA2 := A.cell 2
      simp only [List.getElem?_toArray, List.getElem?_cons_zero, List.getElem?_cons_succ] at kP0 kP1 kP2 kQ0 kQ1 kA0 kA1 kA2
      have zP := P.lt
      have zQ := Q.lt
      have zA := A.lt
      go_wp2_with fail
      refine (cbox_u _ _ _ _).mono ?_
      rintro e w3 ⟨rfl, hb⟩
      replace P : Blk w3 (w.heap.size) 23 #[.int .i64 L, .int .i64 X, .int .i64 Y] := Blk.thru0 ((P).alloc _) hb
      replace Q : Blk w3 (w.heap.size + 1) 25 #[.int .i64 x, .int .i64 y] := Blk.thru0 ((Q).alloc _) hb
      replace A : Blk w3 (w1.heap.size) 23 #[.int .i64 (a0 L X Y l), .int .i64 (a1 L X Y l), .int .i64 (a2 L X Y l)] := Blk.thru0 ((A).alloc _) hb
      have B : Blk w3 (w2.heap.size) 23 #[.int .i64 (a0 L X Y l), .int .i64 (a1 L X Y l), .int .i64 (a2 L X Y l)] := Blk.thru0 (Blk.newAt (by simp)) hb
      have hs := hB.size
      replace hB : Below w.heap.size w w3 := below_trans (by go_grown) hb
      clear hs
      clear kP0 kP1 kP2 kQ0 kQ1 kA0 kA1 kA2 zP zQ zA
      have hszw3 := hb.size
      (try simp at hszw3)
      clear hb
      have kP0 := P.cell 0
      have kP1 := P.cell 1
      have kP2 := P.cell 2
      have kQ0 := Q.cell 0
      have kQ1 := Q.cell 1
      have kA0 := A.cell 0
      have kA1 := A.cell 1
      have kA2 := A.cell 2
      have kB0 := B.cell 0
      have kB1 := B.cell 1
      have kB2 := B.cell 2
      simp only [List.getElem?_toArray, List.getElem?_cons_zero, List.getElem?_cons_succ] at kP0 kP1 kP2 kQ0 kQ1 kA0 kA1 kA2 kB0 kB1 kB2
      have zP := P.lt
      have zQ := Q.lt
      have zA := A.lt
      have zB := B.lt
      go_wp2_with fail
      refine (cbox_u L X Y _).mono ?_
      rintro e w4 ⟨rfl, hb⟩
      replace P : Blk w4 (w.heap.size) 23 #[.int .i64 L, .int .i64 X, .int .i64 Y] := Blk.thru0 ((P).alloc _) hb
      replace Q : Blk w4 (w.heap.size + 1) 25 #[.int .i64 x, .int .i64 y] := Blk.thru0 ((Q).alloc _) hb
      replace A : Blk w4 (w1.heap.size) 23 #[.int .i64 (a0 L X Y l), .int .i64 (a1 L X Y l), .int .i64 (a2 L X Y l)] := Blk.thru0 ((A).alloc _) hb
      replace B : Blk w4 (w2.heap.size) 23 #[.int .i64 (a0 L X Y l), .int .i64 (a1 L X Y l), .int .i64 (a2 L X Y l)] := Blk.thru0 ((B).alloc _) hb
      have C : Blk w4 (w3.heap.size) 29 #[.int .i64 (b0 (a0 L X Y l) (a1 L X Y l) (a2 L X Y l)), .int .i64 (b1 (a0 L X Y l) (a1 L X Y l) (a2 L X Y l)), .int .i64 (b2 (a0 L X Y l) (a1 L X Y l) (a2 L X Y l)), .int .i64 (b3 (a0 L X Y l) (a1 L X Y l) (a2 L X Y l))] := Blk.thru0 (Blk.newAt (by simp)) hb
      have hs := hB.size
      replace hB : Below w.heap.size w w4 := below_trans (by go_grown) hb
      clear hs
      clear kP0 kP1 kP2 kQ0 kQ1 kA0 kA1 kA2 kB0 kB1 kB2 zP zQ zA zB
      have hszw4 := hb.size
      (try simp at hszw4)
      clear hb
      have kP0 := P.cell 0
      have kP1 := P.cell 1
      have kP2 := P.cell 2
      have kQ0 := Q.cell 0
      have kQ1 := Q.cell 1
      have kA0 := A.cell 0
      have kA1 := A.cell 1
      have kA2 := A.cell 2
      have kB0 := B.cell 0
      have kB1 := B.cell 1
      have kB2 := B.cell 2
      have kC0 := C.cell 0
      have kC1 := C.cell 1
      have kC2 := C.cell 2
      have kC3 := C.cell 3
      simp only [List.getElem?_toArray, List.getElem?_cons_zero, List.getElem?_cons_succ] at kP0 kP1 kP2 kQ0 kQ1 kA0 kA1 kA2 kB0 kB1 kB2 kC0 kC1 kC2 kC3
      have zP := P.lt
      have zQ := Q.lt
      have zA := A.lt
      have zB := B.lt
      have zC := C.lt
      go_wp2_with fail
      refine (in_any _ _ _ _ _ _ _ _ _).mono ?_
      rintro e w5 ⟨rfl, hb⟩
      replace P : Blk w5 (w.heap.size) 23 #[.int .i64 L, .int .i64 X, .int .i64 Y] := Blk.thru0 ((P).alloc _) hb
      replace Q : Blk w5 (w.heap.size + 1) 25 #[.int .i64 x, .int .i64 y] := Blk.thru0 ((Q).alloc _) hb
      replace A : Blk w5 (w1.heap.size) 23 #[.int .i64 (a0 L X Y l), .int .i64 (a1 L X Y l), .int .i64 (a2 L X Y l)] := Blk.thru0 ((A).alloc _) hb
      replace B : Blk w5 (w2.heap.size) 23 #[.int .i64 (a0 L X Y l), .int .i64 (a1 L X Y l), .int .i64 (a2 L X Y l)] := Blk.thru0 ((B).alloc _) hb
      replace C : Blk w5 (w3.heap.size) 29 #[.int .i64 (b0 (a0 L X Y l) (a1 L X Y l) (a2 L X Y l)), .int .i64 (b1 (a0 L X Y l) (a1 L X Y l) (a2 L X Y l)), .int .i64 (b2 (a0 L X Y l) (a1 L X Y l) (a2 L X Y l)), .int .i64 (b3 (a0 L X Y l) (a1 L X Y l) (a2 L X Y l))] := Blk.thru0 ((C).alloc _) hb
      have D : Blk w5 (w4.heap.size) 29 #[.int .i64 (b0 L X Y), .int .i64 (b1 L X Y), .int .i64 (b2 L X Y), .int .i64 (b3 L X Y)] := Blk.thru0 (Blk.newAt (by simp)) hb
      have hs := hB.size
      replace hB : Below w.heap.size w w5 := below_trans (by go_grown) hb
      clear hs
      clear kP0 kP1 kP2 kQ0 kQ1 kA0 kA1 kA2 kB0 kB1 kB2 kC0 kC1 kC2 kC3 zP zQ zA zB zC
      have hszw5 := hb.size
      (try simp at hszw5)
      clear hb
      have kP0 := P.cell 0
      have kP1 := P.cell 1
      have kP2 := P.cell 2
      have kQ0 := Q.cell 0
      have kQ1 := Q.cell 1
      have kA0 := A.cell 0
      have kA1 := A.cell 1
      have kA2 := A.cell 2
      have kB0 := B.cell 0
      have kB1 := B.cell 1
      have kB2 := B.cell 2
      have kC0 := C.cell 0
      have kC1 := C.cell 1
      have kC2 := C.cell 2
      have kC3 := C.cell 3
      have kD0 := D.cell 0
      have kD1 := D.cell 1
      have kD2 := D.cell 2
      have kD3 := D.cell 3
      simp only [List.getElem?_toArray, List.getElem?_cons_zero, List.getElem?_cons_succ] at kP0 kP1 kP2 kQ0 kQ1 kA0 kA1 kA2 kB0 kB1 kB2 kC0 kC1 kC2 kC3 kD0 kD1 kD2 kD3
      have zP := P.lt
      have zQ := Q.lt
      have zA := A.lt
      have zB := B.lt
      have zC := C.lt
      have zD := D.lt
      go_wp2_with fail
      refine (has_any _ _ _ _ _ _ _).mono ?_
      rintro e w6 ⟨rfl, hb⟩
      replace P : Blk w6 (w.heap.size) 23 #[.int .i64 L, .int .i64 X, .int .i64 Y] := Blk.thru0 (P) hb
      replace Q : Blk w6 (w.heap.size + 1) 25 #[.int .i64 x, .int .i64 y] := Blk.thru0 (Q) hb
      replace A : Blk w6 (w1.heap.size) 23 #[.int .i64 (a0 L X Y l), .int .i64 (a1 L X Y l), .int .i64 (a2 L X Y l)] := Blk.thru0 (A) hb
      replace B : Blk w6 (w2.heap.size) 23 #[.int .i64 (a0 L X Y l), .int .i64 (a1 L X Y l), .int .i64 (a2 L X Y l)] := Blk.thru0 (B) hb
      replace C : Blk w6 (w3.heap.size) 29 #[.int .i64 (b0 (a0 L X Y l) (a1 L X Y l) (a2 L X Y l)), .int .i64 (b1 (a0 L X Y l) (a1 L X Y l) (a2 L X Y l)), .int .i64 (b2 (a0 L X Y l) (a1 L X Y l) (a2 L X Y l)), .int .i64 (b3 (a0 L X Y l) (a1 L X Y l) (a2 L X Y l))] := Blk.thru0 (C) hb
      replace D : Blk w6 (w4.heap.size) 29 #[.int .i64 (b0 L X Y), .int .i64 (b1 L X Y), .int .i64 (b2 L X Y), .int .i64 (b3 L X Y)] := Blk.thru0 (D) hb
      have hs := hB.size
      replace hB : Below w.heap.size w w6 := below_trans (by go_grown) hb
      clear hs
      clear kP0 kP1 kP2 kQ0 kQ1 kA0 kA1 kA2 kB0 kB1 kB2 kC0 kC1 kC2 kC3 kD0 kD1 kD2 kD3 zP zQ zA zB zC zD
      have hszw6 := hb.size
      (try simp at hszw6)
      clear hb
      have kP0 := P.cell 0
      have kP1 := P.cell 1
      have kP2 := P.cell 2
      have kQ0 := Q.cell 0
      have kQ1 := Q.cell 1
      have kA0 := A.cell 0
      have kA1 := A.cell 1
      have kA2 := A.cell 2
      have kB0 := B.cell 0
      have kB1 := B.cell 1
      have kB2 := B.cell 2
      have kC0 := C.cell 0
      have kC1 := C.cell 1
      have kC2 := C.cell 2
      have kC3 := C.cell 3
      have kD0 := D.cell 0
      have kD1 := D.cell 1
      have kD2 := D.cell 2
      have kD3 := D.cell 3
      simp only [List.getElem?_toArray, List.getElem?_cons_zero, List.getElem?_cons_succ] at kP0 kP1 kP2 kQ0 kQ1 kA0 kA1 kA2 kB0 kB1 kB2 kC0 kC1 kC2 kC3 kD0 kD1 kD2 kD3
      have zP := P.lt
      have zQ := Q.lt
      have zA := A.lt
      have zB := B.lt
      have zC := C.lt
      have zD := D.lt
      go_wp2_with fail
      refine (HO.out _).mono ?_
      rintro e w7 ⟨rfl, hb⟩
      replace P : Blk w7 (w.heap.size) 23 #[.int .i64 L, .int .i64 X, .int .i64 Y] := Blk.thru0 (P) hb
      replace Q : Blk w7 (w.heap.size + 1) 25 #[.int .i64 x, .int .i64 y] := Blk.thru0 (Q) hb
      replace A : Blk w7 (w1.heap.size) 23 #[.int .i64 (a0 L X Y l), .int .i64 (a1 L X Y l), .int .i64 (a2 L X Y l)] := Blk.thru0 (A) hb
      replace B : Blk w7 (w2.heap.size) 23 #[.int .i64 (a0 L X Y l), .int .i64 (a1 L X Y l), .int .i64 (a2 L X Y l)] := Blk.thru0 (B) hb
      replace C : Blk w7 (w3.heap.size) 29 #[.int .i64 (b0 (a0 L X Y l) (a1 L X Y l) (a2 L X Y l)), .int .i64 (b1 (a0 L X Y l) (a1 L X Y l) (a2 L X Y l)), .int .i64 (b2 (a0 L X Y l) (a1 L X Y l) (a2 L X Y l)), .int .i64 (b3 (a0 L X Y l) (a1 L X Y l) (a2 L X Y l))] := Blk.thru0 (C) hb
      replace D : Blk w7 (w4.heap.size) 29 #[.int .i64 (b0 L X Y), .int .i64 (b1 L X Y), .int .i64 (b2 L X Y), .int .i64 (b3 L X Y)] := Blk.thru0 (D) hb
      have hs := hB.size
      replace hB : Below w.heap.size w w7 := below_trans (by go_grown) hb
      clear hs
      clear kP0 kP1 kP2 kQ0 kQ1 kA0 kA1 kA2 kB0 kB1 kB2 kC0 kC1 kC2 kC3 kD0 kD1 kD2 kD3 zP zQ zA zB zC zD
      have hszw7 := hb.size
      (try simp at hszw7)
      clear hb
      have kP0 := P.cell 0
      have kP1 := P.cell 1
      have kP2 := P.cell 2
      have kQ0 := Q.cell 0
      have kQ1 := Q.cell 1
      have kA0 := A.cell 0
      have kA1 := A.cell 1
      have kA2 := A.cell 2
      have kB0 := B.cell 0
      have kB1 := B.cell 1
      have kB2 := B.cell 2
      have kC0 := C.cell 0
      have kC1 := C.cell 1
      have kC2 := C.cell 2
      have kC3 := C.cell 3
      have kD0 := D.cell 0
      have kD1 := D.cell 1
      have kD2 := D.cell 2
      have kD3 := D.cell 3
      simp only [List.getElem?_toArray, List.getElem?_cons_zero, List.getElem?_cons_succ] at kP0 kP1 kP2 kQ0 kQ1 kA0 kA1 kA2 kB0 kB1 kB2 kC0 kC1 kC2 kC3 kD0 kD1 kD2 kD3
      have zP := P.lt
      have zQ := Q.lt
      have zA := A.lt
      have zB := B.lt
      have zC := C.lt
      have zD := D.lt
      go_wp2_with fail
      refine (known_any _).mono ?_
      rintro e w8 ⟨rfl, hb⟩
      replace P : Blk w8 (w.heap.size) 23 #[.int .i64 L, .int .i64 X, .int .i64 Y] := Blk.thru0 ((P).alloc _) hb
      replace Q : Blk w8 (w.heap.size + 1) 25 #[.int .i64 x, .int .i64 y] := Blk.thru0 ((Q).alloc _) hb
      replace A : Blk w8 (w1.heap.size) 23 #[.int .i64 (a0 L X Y l), .int .i64 (a1 L X Y l), .int .i64 (a2 L X Y l)] := Blk.thru0 ((A).alloc _) hb
      replace B : Blk w8 (w2.heap.size) 23 #[.int .i64 (a0 L X Y l), .int .i64 (a1 L X Y l), .int .i64 (a2 L X Y l)] := Blk.thru0 ((B).alloc _) hb
      replace C : Blk w8 (w3.heap.size) 29 #[.int .i64 (b0 (a0 L X Y l) (a1 L X Y l) (a2 L X Y l)), .int .i64 (b1 (a0 L X Y l) (a1 L X Y l) (a2 L X Y l)), .int .i64 (b2 (a0 L X Y l) (a1 L X Y l) (a2 L X Y l)), .int .i64 (b3 (a0 L X Y l) (a1 L X Y l) (a2 L X Y l))] := Blk.thru0 ((C).alloc _) hb
      replace D : Blk w8 (w4.heap.size) 29 #[.int .i64 (b0 L X Y), .int .i64 (b1 L X Y), .int .i64 (b2 L X Y), .int .i64 (b3 L X Y)] := Blk.thru0 ((D).alloc _) hb
      have E : Blk w8 (w7.heap.size) 23 #[.int .i64 (a0 L X Y l), .int .i64 (a1 L X Y l), .int .i64 (a2 L X Y l)] := Blk.thru0 (Blk.newAt (by simp)) hb
      have hs := hB.size
      replace hB : Below w.heap.size w w8 := below_trans (by go_grown) hb
      clear hs
      clear kP0 kP1 kP2 kQ0 kQ1 kA0 kA1 kA2 kB0 kB1 kB2 kC0 kC1 kC2 kC3 kD0 kD1 kD2 kD3 zP zQ zA zB zC zD
      have hszw8 := hb.size
      (try simp at hszw8)
      clear hb
      have kP0 := P.cell 0
      have kP1 := P.cell 1
      have kP2 := P.cell 2
      have kQ0 := Q.cell 0
      have kQ1 := Q.cell 1
      have kA0 := A.cell 0
      have kA1 := A.cell 1
      have kA2 := A.cell 2
      have kB0 := B.cell 0
      have kB1 := B.cell 1
      have kB2 := B.cell 2
      have kC0 := C.cell 0
      have kC1 := C.cell 1
      have kC2 := C.cell 2
      have kC3 := C.cell 3
      have kD0 := D.cell 0
      have kD1 := D.cell 1
      have kD2 := D.cell 2
      have kD3 := D.cell 3
      have kE0 := E.cell 0
      have kE1 := E.cell 1
      have kE2 := E.cell 2
      simp only [List.getElem?_toArray, List.getElem?_cons_zero, List.getElem?_cons_succ] at kP0 kP1 kP2 kQ0 kQ1 kA0 kA1 kA2 kB0 kB1 kB2 kC0 kC1 kC2 kC3 kD0 kD1 kD2 kD3 kE0 kE1 kE2
      have zP := P.lt
      have zQ := Q.lt
      have zA := A.lt
      have zB := B.lt
      have zC := C.lt
      have zD := D.lt
      have zE := E.lt
      go_wp2
      go_ret
      exact ⟨rfl, by first | exact hB | go_grown⟩
    · go_enter Try.func5, Try.ntmps5
      go_wp2_with fail
      refine (cabove_u L X Y l _).mono ?_
      rintro e w1 ⟨rfl, hb⟩
      have P : Blk w1 (w.heap.size) 23 #[.int .i64 L, .int .i64 X, .int .i64 Y] := Blk.thru0 ((Blk.newAt (by simp)).alloc _) hb
      have Q : Blk w1 (w.heap.size + 1) 25 #[.int .i64 x, .int .i64 y] := Blk.thru0 (Blk.newAt (by simp)) hb
      have hB : Below w.heap.size w w1 := below_trans (by go_grown) hb
      have hszw1 := hb.size
      (try simp at hszw1)
      clear hb
      have kP0 := P.cell 0
      have kP1 := P.cell 1
      have kP2 := P.cell 2
      have kQ0 := Q.cell 0
      have kQ1 := Q.cell 1
      simp only [List.getElem?_toArray, List.getElem?_cons_zero, List.getElem?_cons_succ] at kP0 kP1 kP2 kQ0 kQ1
      have zP := P.lt
      have zQ := Q.lt
      go_wp2_with fail
      refine (rabove_u L X Y l _).mono ?_
      rintro e w2 ⟨rfl, hb⟩
      replace P : Blk w2 (w.heap.size) 23 #[.int .i64 L, .int .i64 X, .int .i64 Y] := Blk.thru0 ((P).alloc _) hb
      replace Q : Blk w2 (w.heap.size + 1) 25 #[.int .i64 x, .int .i64 y] := Blk.thru0 ((Q).alloc _) hb
      have A : Blk w2 (w1.heap.size) 23 #[.int .i64 (a0 L X Y l), .int .i64 (a1 L X Y l), .int .i64 (a2 L X Y l)] := Blk.thru0 (Blk.newAt (by simp)) hb
      have hs := hB.size
      replace hB : Below w.heap.size w w2 := below_trans (by go_grown) hb
      clear hs
      clear kP0 kP1 kP2 kQ0 kQ1 zP zQ
      have hszw2 := hb.size
      (try simp at hszw2)
      clear hb
      have kP0 := P.cell 0
      have kP1 := P.cell 1
      have kP2 := P.cell 2
      have kQ0 := Q.cell 0
      have kQ1 := Q.cell 1
      have kA0 := A.cell 0
      have kA1 := A.cell 1
      have kA2 := A.cell 2
      simp only [List.getElem?_toArray, List.getElem?_cons_zero, List.getElem?_cons_succ] at kP0 kP1 kP2 kQ0 kQ1 kA0 kA1 kA2
      have zP := P.lt
      have zQ := Q.lt
      have zA := A.lt
      go_wp2_with fail
      refine (cbox_u _ _ _ _).mono ?_
      rintro e w3 ⟨rfl, hb⟩
      replace P : Blk w3 (w.heap.size) 23 #[.int .i64 L, .int .i64 X, .int .i64 Y] := Blk.thru0 ((P).alloc _) hb
      replace Q : Blk w3 (w.heap.size + 1) 25 #[.int .i64 x, .int .i64 y] := Blk.thru0 ((Q).alloc _) hb
      replace A : Blk w3 (w1.heap.size) 23 #[.int .i64 (a0 L X Y l), .int .i64 (a1 L X Y l), .int .i64 (a2 L X Y l)] := Blk.thru0 ((A).alloc _) hb
      have B : Blk w3 (w2.heap.size) 23 #[.int .i64 (a0 L X Y l), .int .i64 (a1 L X Y l), .int .i64 (a2 L X Y l)] := Blk.thru0 (Blk.newAt (by simp)) hb
      have hs := hB.size
      replace hB : Below w.heap.size w w3 := below_trans (by go_grown) hb
      clear hs
      clear kP0 kP1 kP2 kQ0 kQ1 kA0 kA1 kA2 zP zQ zA
      have hszw3 := hb.size
      (try simp at hszw3)
      clear hb
      have kP0 := P.cell 0
      have kP1 := P.cell 1
      have kP2 := P.cell 2
      have kQ0 := Q.cell 0
      have kQ1 := Q.cell 1
      have kA0 := A.cell 0
      have kA1 := A.cell 1
      have kA2 := A.cell 2
      have kB0 := B.cell 0
      have kB1 := B.cell 1
      have kB2 := B.cell 2
      simp only [List.getElem?_toArray, List.getElem?_cons_zero, List.getElem?_cons_succ] at kP0 kP1 kP2 kQ0 kQ1 kA0 kA1 kA2 kB0 kB1 kB2
      have zP := P.lt
      have zQ := Q.lt
      have zA := A.lt
      have zB := B.lt
      go_wp2_with fail
      refine (cbox_u L X Y _).mono ?_
      rintro e w4 ⟨rfl, hb⟩
      replace P : Blk w4 (w.heap.size) 23 #[.int .i64 L, .int .i64 X, .int .i64 Y] := Blk.thru0 ((P).alloc _) hb
      replace Q : Blk w4 (w.heap.size + 1) 25 #[.int .i64 x, .int .i64 y] := Blk.thru0 ((Q).alloc _) hb
      replace A : Blk w4 (w1.heap.size) 23 #[.int .i64 (a0 L X Y l), .int .i64 (a1 L X Y l), .int .i64 (a2 L X Y l)] := Blk.thru0 ((A).alloc _) hb
      replace B : Blk w4 (w2.heap.size) 23 #[.int .i64 (a0 L X Y l), .int .i64 (a1 L X Y l), .int .i64 (a2 L X Y l)] := Blk.thru0 ((B).alloc _) hb
      have C : Blk w4 (w3.heap.size) 29 #[.int .i64 (b0 (a0 L X Y l) (a1 L X Y l) (a2 L X Y l)), .int .i64 (b1 (a0 L X Y l) (a1 L X Y l) (a2 L X Y l)), .int .i64 (b2 (a0 L X Y l) (a1 L X Y l) (a2 L X Y l)), .int .i64 (b3 (a0 L X Y l) (a1 L X Y l) (a2 L X Y l))] := Blk.thru0 (Blk.newAt (by simp)) hb
      have hs := hB.size
      replace hB : Below w.heap.size w w4 := below_trans (by go_grown) hb
      clear hs
      clear kP0 kP1 kP2 kQ0 kQ1 kA0 kA1 kA2 kB0 kB1 kB2 zP zQ zA zB
      have hszw4 := hb.size
      (try simp at hszw4)
      clear hb
      have kP0 := P.cell 0
      have kP1 := P.cell 1
      have kP2 := P.cell 2
      have kQ0 := Q.cell 0
      have kQ1 := Q.cell 1
      have kA0 := A.cell 0
      have kA1 := A.cell 1
      have kA2 := A.cell 2
      have kB0 := B.cell 0
      have kB1 := B.cell 1
      have kB2 := B.cell 2
      have kC0 := C.cell 0
      have kC1 := C.cell 1
      have kC2 := C.cell 2
      have kC3 := C.cell 3
      simp only [List.getElem?_toArray, List.getElem?_cons_zero, List.getElem?_cons_succ] at kP0 kP1 kP2 kQ0 kQ1 kA0 kA1 kA2 kB0 kB1 kB2 kC0 kC1 kC2 kC3
      have zP := P.lt
      have zQ := Q.lt
      have zA := A.lt
      have zB := B.lt
      have zC := C.lt
      go_wp2_with fail
      refine (in_any _ _ _ _ _ _ _ _ _).mono ?_
      rintro e w5 ⟨rfl, hb⟩
      replace P : Blk w5 (w.heap.size) 23 #[.int .i64 L, .int .i64 X, .int .i64 Y] := Blk.thru0 ((P).alloc _) hb
      replace Q : Blk w5 (w.heap.size + 1) 25 #[.int .i64 x, .int .i64 y] := Blk.thru0 ((Q).alloc _) hb
      replace A : Blk w5 (w1.heap.size) 23 #[.int .i64 (a0 L X Y l), .int .i64 (a1 L X Y l), .int .i64 (a2 L X Y l)] := Blk.thru0 ((A).alloc _) hb
      replace B : Blk w5 (w2.heap.size) 23 #[.int .i64 (a0 L X Y l), .int .i64 (a1 L X Y l), .int .i64 (a2 L X Y l)] := Blk.thru0 ((B).alloc _) hb
      replace C : Blk w5 (w3.heap.size) 29 #[.int .i64 (b0 (a0 L X Y l) (a1 L X Y l) (a2 L X Y l)), .int .i64 (b1 (a0 L X Y l) (a1 L X Y l) (a2 L X Y l)), .int .i64 (b2 (a0 L X Y l) (a1 L X Y l) (a2 L X Y l)), .int .i64 (b3 (a0 L X Y l) (a1 L X Y l) (a2 L X Y l))] := Blk.thru0 ((C).alloc _) hb
      have D : Blk w5 (w4.heap.size) 29 #[.int .i64 (b0 L X Y), .int .i64 (b1 L X Y), .int .i64 (b2 L X Y), .int .i64 (b3 L X Y)] := Blk.thru0 (Blk.newAt (by simp)) hb
      have hs := hB.size
      replace hB : Below w.heap.size w w5 := below_trans (by go_grown) hb
      clear hs
      clear kP0 kP1 kP2 kQ0 kQ1 kA0 kA1 kA2 kB0 kB1 kB2 kC0 kC1 kC2 kC3 zP zQ zA zB zC
      have hszw5 := hb.size
      (try simp at hszw5)
      clear hb
      have kP0 := P.cell 0
      have kP1 := P.cell 1
      have kP2 := P.cell 2
      have kQ0 := Q.cell 0
      have kQ1 := Q.cell 1
      have kA0 := A.cell 0
      have kA1 := A.cell 1
      have kA2 := A.cell 2
      have kB0 := B.cell 0
      have kB1 := B.cell 1
      have kB2 := B.cell 2
      have kC0 := C.cell 0
      have kC1 := C.cell 1
      have kC2 := C.cell 2
      have kC3 := C.cell 3
      have kD0 := D.cell 0
      have kD1 := D.cell 1
      have kD2 := D.cell 2
      have kD3 := D.cell 3
      simp only [List.getElem?_toArray, List.getElem?_cons_zero, List.getElem?_cons_succ] at kP0 kP1 kP2 kQ0 kQ1 kA0 kA1 kA2 kB0 kB1 kB2 kC0 kC1 kC2 kC3 kD0 kD1 kD2 kD3
      have zP := P.lt
      have zQ := Q.lt
      have zA := A.lt
      have zB := B.lt
      have zC := C.lt
      have zD := D.lt
      go_wp2_with fail
      refine (has_any _ _ _ _ _ _ _).mono ?_
      rintro e w6 ⟨rfl, hb⟩
      replace P : Blk w6 (w.heap.size) 23 #[.int .i64 L, .int .i64 X, .int .i64 Y] := Blk.thru0 (P) hb
      replace Q : Blk w6 (w.heap.size + 1) 25 #[.int .i64 x, .int .i64 y] := Blk.thru0 (Q) hb
      replace A : Blk w6 (w1.heap.size) 23 #[.int .i64 (a0 L X Y l), .int .i64 (a1 L X Y l), .int .i64 (a2 L X Y l)] := Blk.thru0 (A) hb
      replace B : Blk w6 (w2.heap.size) 23 #[.int .i64 (a0 L X Y l), .int .i64 (a1 L X Y l), .int .i64 (a2 L X Y l)] := Blk.thru0 (B) hb
      replace C : Blk w6 (w3.heap.size) 29 #[.int .i64 (b0 (a0 L X Y l) (a1 L X Y l) (a2 L X Y l)), .int .i64 (b1 (a0 L X Y l) (a1 L X Y l) (a2 L X Y l)), .int .i64 (b2 (a0 L X Y l) (a1 L X Y l) (a2 L X Y l)), .int .i64 (b3 (a0 L X Y l) (a1 L X Y l) (a2 L X Y l))] := Blk.thru0 (C) hb
      replace D : Blk w6 (w4.heap.size) 29 #[.int .i64 (b0 L X Y), .int .i64 (b1 L X Y), .int .i64 (b2 L X Y), .int .i64 (b3 L X Y)] := Blk.thru0 (D) hb
      have hs := hB.size
      replace hB : Below w.heap.size w w6 := below_trans (by go_grown) hb
      clear hs
      clear kP0 kP1 kP2 kQ0 kQ1 kA0 kA1 kA2 kB0 kB1 kB2 kC0 kC1 kC2 kC3 kD0 kD1 kD2 kD3 zP zQ zA zB zC zD
      have hszw6 := hb.size
      (try simp at hszw6)
      clear hb
      have kP0 := P.cell 0
      have kP1 := P.cell 1
      have kP2 := P.cell 2
      have kQ0 := Q.cell 0
      have kQ1 := Q.cell 1
      have kA0 := A.cell 0
      have kA1 := A.cell 1
      have kA2 := A.cell 2
      have kB0 := B.cell 0
      have kB1 := B.cell 1
      have kB2 := B.cell 2
      have kC0 := C.cell 0
      have kC1 := C.cell 1
      have kC2 := C.cell 2
      have kC3 := C.cell 3
      have kD0 := D.cell 0
      have kD1 := D.cell 1
      have kD2 := D.cell 2
      have kD3 := D.cell 3
      simp only [List.getElem?_toArray, List.getElem?_cons_zero, List.getElem?_cons_succ] at kP0 kP1 kP2 kQ0 kQ1 kA0 kA1 kA2 kB0 kB1 kB2 kC0 kC1 kC2 kC3 kD0 kD1 kD2 kD3
      have zP := P.lt
      have zQ := Q.lt
      have zA := A.lt
      have zB := B.lt
      have zC := C.lt
      have zD := D.lt
      go_wp2_with fail
      refine (known_any _).mono ?_
      rintro e w7 ⟨rfl, hb⟩
      replace P : Blk w7 (w.heap.size) 23 #[.int .i64 L, .int .i64 X, .int .i64 Y] := Blk.thru0 (P) hb
      replace Q : Blk w7 (w.heap.size + 1) 25 #[.int .i64 x, .int .i64 y] := Blk.thru0 (Q) hb
      replace A : Blk w7 (w1.heap.size) 23 #[.int .i64 (a0 L X Y l), .int .i64 (a1 L X Y l), .int .i64 (a2 L X Y l)] := Blk.thru0 (A) hb
      replace B : Blk w7 (w2.heap.size) 23 #[.int .i64 (a0 L X Y l), .int .i64 (a1 L X Y l), .int .i64 (a2 L X Y l)] := Blk.thru0 (B) hb
      replace C : Blk w7 (w3.heap.size) 29 #[.int .i64 (b0 (a0 L X Y l) (a1 L X Y l) (a2 L X Y l)), .int .i64 (b1 (a0 L X Y l) (a1 L X Y l) (a2 L X Y l)), .int .i64 (b2 (a0 L X Y l) (a1 L X Y l) (a2 L X Y l)), .int .i64 (b3 (a0 L X Y l) (a1 L X Y l) (a2 L X Y l))] := Blk.thru0 (C) hb
      replace D : Blk w7 (w4.heap.size) 29 #[.int .i64 (b0 L X Y), .int .i64 (b1 L X Y), .int .i64 (b2 L X Y), .int .i64 (b3 L X Y)] := Blk.thru0 (D) hb
      have hs := hB.size
      replace hB : Below w.heap.size w w7 := below_trans (by go_grown) hb
      clear hs
      clear kP0 kP1 kP2 kQ0 kQ1 kA0 kA1 kA2 kB0 kB1 kB2 kC0 kC1 kC2 kC3 kD0 kD1 kD2 kD3 zP zQ zA zB zC zD
      have hszw7 := hb.size
      (try simp at hszw7)
      clear hb
      have kP0 := P.cell 0
      have kP1 := P.cell 1
      have kP2 := P.cell 2
      have kQ0 := Q.cell 0
      have kQ1 := Q.cell 1
      have kA0 := A.cell 0
      have kA1 := A.cell 1
      have kA2 := A.cell 2
      have kB0 := B.cell 0
      have kB1 := B.cell 1
      have kB2 := B.cell 2
      have kC0 := C.cell 0
      have kC1 := C.cell 1
      have kC2 := C.cell 2
      have kC3 := C.cell 3
      have kD0 := D.cell 0
      have kD1 := D.cell 1
      have kD2 := D.cell 2
      have kD3 := D.cell 3
      simp only [List.getElem?_toArray, List.getElem?_cons_zero, List.getElem?_cons_succ] at kP0 kP1 kP2 kQ0 kQ1 kA0 kA1 kA2 kB0 kB1 kB2 kC0 kC1 kC2 kC3 kD0 kD1 kD2 kD3
      have zP := P.lt
      have zQ := Q.lt
      have zA := A.lt
      have zB := B.lt
      have zC := C.lt
      have zD := D.lt
      go_wp2
      go_ret
      exact ⟨rfl, by first | exact hB | go_grown⟩
  · go_enter Try.func5, Try.ntmps5
    go_wp2_with fail
    refine (cabove_u L X Y l _).mono ?_
    rintro e w1 ⟨rfl, hb⟩
    have P : Blk w1 (w.heap.size) 23 #[.int .i64 L, .int .i64 X, .int .i64 Y] := Blk.thru0 ((Blk.newAt (by simp)).alloc _) hb
    have Q : Blk w1 (w.heap.size + 1) 25 #[.int .i64 x, .int .i64 y] := Blk.thru0 (Blk.newAt (by simp)) hb
    have hB : Below w.heap.size w w1 := below_trans (by go_grown) hb
    have hszw1 := hb.size
    (try simp at hszw1)
    clear hb
    have kP0 := P.cell 0
    have kP1 := P.cell 1
    have kP2 := P.cell 2
    have kQ0 := Q.cell 0
    have kQ1 := Q.cell 1
    simp only [List.getElem?_toArray, List.getElem?_cons_zero, List.getElem?_cons_succ] at kP0 kP1 kP2 kQ0 kQ1
    have zP := P.lt
    have zQ := Q.lt
    go_wp2_with fail
    refine (rabove_u L X Y l _).mono ?_
    rintro e w2 ⟨rfl, hb⟩
    replace P : Blk w2 (w.heap.size) 23 #[.int .i64 L, .int .i64 X, .int .i64 Y] := Blk.thru0 ((P).alloc _) hb
    replace Q : Blk w2 (w.heap.size + 1) 25 #[.int .i64 x, .int .i64 y] := Blk.thru0 ((Q).alloc _) hb
    have A : Blk w2 (w1.heap.size) 23 #[.int .i64 (a0 L X Y l), .int .i64 (a1 L X Y l), .int .i64 (a2 L X Y l)] := Blk.thru0 (Blk.newAt (by simp)) hb
    have hs := hB.size
    replace hB : Below w.heap.size w w2 := below_trans (by go_grown) hb
    clear hs
    clear kP0 kP1 kP2 kQ0 kQ1 zP zQ
    have hszw2 := hb.size
    (try simp at hszw2)
    clear hb
    have kP0 := P.cell 0
    have kP1 := P.cell 1
    have kP2 := P.cell 2
    have kQ0 := Q.cell 0
    have kQ1 := Q.cell 1
    have kA0 := A.cell 0
    have kA1 := A.cell 1
    have kA2 := A.cell 2
    simp only [List.getElem?_toArray, List.getElem?_cons_zero, List.getElem?_cons_succ] at kP0 kP1 kP2 kQ0 kQ1 kA0 kA1 kA2
    have zP := P.lt
    have zQ := Q.lt
    have zA := A.lt
    go_wp2_with fail
    refine (known_any _).mono ?_
    rintro e w3 ⟨rfl, hb⟩
    replace P : Blk w3 (w.heap.size) 23 #[.int .i64 L, .int .i64 X, .int .i64 Y] := Blk.thru0 ((P).alloc _) hb
    replace Q : Blk w3 (w.heap.size + 1) 25 #[.int .i64 x, .int .i64 y] := Blk.thru0 ((Q).alloc _) hb
    replace A : Blk w3 (w1.heap.size) 23 #[.int .i64 (a0 L X Y l), .int .i64 (a1 L X Y l), .int .i64 (a2 L X Y l)] := Blk.thru0 ((A).alloc _) hb
    have B : Blk w3 (w2.heap.size) 23 #[.int .i64 (a0 L X Y l), .int .i64 (a1 L X Y l), .int .i64 (a2 L X Y l)] := Blk.thru0 (Blk.newAt (by simp)) hb
    have hs := hB.size
    replace hB : Below w.heap.size w w3 := below_trans (by go_grown) hb
    clear hs
    clear kP0 kP1 kP2 kQ0 kQ1 kA0 kA1 kA2 zP zQ zA
    have hszw3 := hb.size
    (try simp at hszw3)
    clear hb
    have kP0 := P.cell 0
    have kP1 := P.cell 1
    have kP2 := P.cell 2
    have kQ0 := Q.cell 0
    have kQ1 := Q.cell 1
    have kA0 := A.cell 0
    have kA1 := A.cell 1
    have kA2 := A.cell 2
    have kB0 := B.cell 0
    have kB1 := B.cell 1
    have kB2 := B.cell 2
    simp only [List.getElem?_toArray, List.getElem?_cons_zero, List.getElem?_cons_succ] at kP0 kP1 kP2 kQ0 kQ1 kA0 kA1 kA2 kB0 kB1 kB2
    have zP := P.lt
    have zQ := Q.lt
    have zA := A.lt
    have zB := B.lt
    go_wp2
    go_ret
    exact ⟨rfl, by first | exact hB | go_grown⟩

theorem own : ownKnob Try.prog.godebug = none := by kernel_rfl
theorem laidOut : laidOutB Try.prog = true := by kernel_rfl
set_option maxRecDepth 100000 in
theorem lifted (os : Os) (started : os.Started) (H : Type) (enc : TypeId × Value → H) :
    ReturnsInHanded {} Try.checked os 5 .any (Rows.cellAboveSpec.pre6 enc Try.prog Try.f5 Rows.cellAboveRow.domain false) (Rows.cellAboveSpec.post enc Try.prog Try.f5 false true false false) := by
  refine returnsInHanded_of_change (C := Try.checked) own started (by kernel_rfl) Try.func5
    (ChangeSpec.witness6 (enc := enc) (C := Try.checked) false ⟨#[], #[.agg #[.int .i64 0, .int .i64 0, .int .i64 0], .int .i64 0, .agg #[.int .i64 0, .int .i64 0]], []⟩ 8 (by kernel_rfl) (by kernel_rfl) (by kernel_rfl) (by kernel_rfl)) ?_
  intro W base args ds gs before hval0 hW hcnd _
  have hval : ∀ (j : Nat) t v, Try.f5.params[j]? = some t → args[j]? = some v → Value.okWide Try.prog W .any base t v := hval0
  have hW' := hW
  obtain ⟨p, q, hA0, hV, rfl, hfz, hnd⟩ := hW
  have hA : DataW.TrodAll enc Try.prog W 0 (fun _ => true) true Try.f5.params.toList args.toList ds p := hA0
  rw [Try.params5] at hA hval
  obtain ⟨v0, vs0, d0, ds0, p0, q0, hargs, rfl, rfl, h0, r0⟩ := trodAll_cons hA
  obtain ⟨v1, vs1, d1, ds1, p1, q1, rfl, rfl, rfl, h1, r1⟩ := trodAll_cons r0
  obtain ⟨v2, vs2, d2, ds2, p2, q2, rfl, rfl, rfl, h2, r2⟩ := trodAll_cons r1
  obtain ⟨rfl, rfl, rfl⟩ := trodAll_nil r2
  obtain rfl : args = #[v0, v1, v2] := by cases args; simp_all
  obtain ⟨rfl, rfl⟩ := trodVars_none hV
  have k0 := h0
  have lt0 : ∀ x ∈ p0, x.block < W.heap.size := by obtain ⟨m, hm⟩ := k0; exact DataW.trod_lt m _ _ _ hm
  obtain ⟨c0_0, c0_1, c0_2, y0_0, y0_1, y0_2, m0, rfl, rfl, rfl, hy0_0, hy0_1, hy0_2⟩ := Joins.open_agg3 Try.underlying23 (by kernel_rfl) (by kernel_rfl) (hval 0 23 v0 rfl rfl) h0
  obtain ⟨a0_0, e0_0, rfl, w0_0⟩ := DataW.trod_int Try.underlying3 hy0_0
  simp only [List.cons.injEq, and_true] at e0_0
  subst e0_0
  obtain ⟨a0_1, e0_1, rfl, w0_1⟩ := DataW.trod_int Try.underlying3 hy0_1
  simp only [List.cons.injEq, and_true] at e0_1
  subst e0_1
  obtain ⟨a0_2, e0_2, rfl, w0_2⟩ := DataW.trod_int Try.underlying3 hy0_2
  simp only [List.cons.injEq, and_true] at e0_2
  subst e0_2
  have k1 := h1
  have lt1 : ∀ x ∈ p1, x.block < W.heap.size := by obtain ⟨m, hm⟩ := k1; exact DataW.trod_lt m _ _ _ hm
  obtain ⟨a1, rfl, rfl, rfl, w1⟩ := open_int Try.underlying3 (hval 1 3 v1 rfl rfl) h1
  have k2 := h2
  have lt2 : ∀ x ∈ p2, x.block < W.heap.size := by obtain ⟨m, hm⟩ := k2; exact DataW.trod_lt m _ _ _ hm
  obtain ⟨c2_0, c2_1, y2_0, y2_1, m2, rfl, rfl, rfl, hy2_0, hy2_1⟩ := Joins.open_agg2 Try.underlying25 (by kernel_rfl) (by kernel_rfl) (hval 2 25 v2 rfl rfl) h2
  obtain ⟨a2_0, e2_0, rfl, w2_0⟩ := DataW.trod_int Try.underlying3 hy2_0
  simp only [List.cons.injEq, and_true] at e2_0
  subst e2_0
  obtain ⟨a2_1, e2_1, rfl, w2_1⟩ := DataW.trod_int Try.underlying3 hy2_1
  simp only [List.cons.injEq, and_true] at e2_1
  subst e2_1
  clear hA0 hval0
  refine (walk a0_0 a0_1 a0_2 a1 a2_0 a2_1 W (bounds_i64 w0_0) (bounds_i64 w0_1) (bounds_i64 w0_2) (bounds_i64 w1) (bounds_i64 w2_0) (bounds_i64 w2_1)).mono fun e W' ⟨he, bel⟩ => ?_
  subst he
  exact ⟨_, rfl, _, _, _, [], _, [], hW', trodAll_mk1 (shut_bool Try.underlying4 _), (trodAll_cons_mk (Below.trod laidOut (by kernel_rfl) (of_decide_eq_true (by kernel_rfl)) k0 bel lt0) (trodAll_cons_mk (Below.trod laidOut (by kernel_rfl) (of_decide_eq_true (by kernel_rfl)) k1 bel lt1) (trodAll_cons_mk (Below.trod laidOut (by kernel_rfl) (of_decide_eq_true (by kernel_rfl)) k2 bel lt2) trodAll_mk0))), rfl, bel.frame _, fun h => by cases h⟩
theorem over : Rows.cellAboveRow.holds Try.pinned (OpenSpec.ofChange Rows.cellAboveSpec) :=
  OpenClaim.holds_of_wide 5 Try.f5 rfl rfl rfl rfl rfl rfl rfl ⟨rfl, rfl, rfl, rfl, rfl⟩ rfl rfl rfl rfl rfl (by kernel_rfl) Try.func5 (by kernel_rfl)
    (of_decide_eq_true (by kernel_rfl)) (by unfold Func.isWrapper; first | (rw [if_pos (by decide +kernel)]; kernel_rfl) | (rw [if_neg (by decide +kernel)]; exact ⟨rfl, rfl⟩))
    (fun os started H enc _ => lifted os started H enc)
/-- The statement. -/
theorem proved : Rows.CellAboveSaid := over
#print axioms proved
end Go.Proofs.Ytpbnbnhmlpjbjaa.cellAbove
