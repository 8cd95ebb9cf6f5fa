/- CellKin: (P3.2) every cell has its parent, its children, and those beside and over it, as the document says. Conditions: none. -/
import Derived.Test.YtpbnbnhmlpjbjaaCellKnown
import Derived.Test.YtpbnbnhmlpjbjaaFrame
import Derived.Lib.SmallJoins
namespace Go.Proofs.Ytpbnbnhmlpjbjaa.cellKin
set_option linter.unusedVariables false
set_option linter.unusedSimpArgs false
open Go.ChangeShapes Go.WideShapes Go.ChangeAt Go.RowKit
open Go.ChangeMaps (open_string shut_string)
set_option maxHeartbeats 2000000 in
theorem walk (L X Y i : Int) (w : World) (_hL : -9223372036854775808 ≤ L ∧ L ≤ 9223372036854775807) (_hX : -9223372036854775808 ≤ X ∧ X ≤ 9223372036854775807) (_hY : -9223372036854775808 ≤ Y ∧ Y ≤ 9223372036854775807) (_hi : -9223372036854775808 ≤ i ∧ i ≤ 9223372036854775807)  :
    Calls Try.prog 4 #[.agg #[.int .i64 L, .int .i64 X, .int .i64 Y], .int .i64 i] w fun e w' => e = .returned (.bool true) ∧ Below w.heap.size w w' := by
  by_cases hL : 0 < L
  · go_enter Try.func4, Try.ntmps4
    go_wp2_with fail
    refine (cparent_any L X Y _).mono ?_
    rintro e w1 ⟨rfl, hb⟩
    have P : Blk w1 (w.heap.size) 23 #[.int .i64 L, .int .i64 X, .int .i64 Y] := Blk.thru0 (Blk.newAt (by simp)) hb
    have hB : Below w.heap.size w w1 := below_trans (by go_grown) hb
    have hszw1 := hb.size
    (try simp at hszw1)
    clear hb
    have kP0 := P.cell 0
    have kP1 := P.cell 1
    have kP2 := P.cell 2
    simp only [List.getElem?_toArray, List.getElem?_cons_zero, List.getElem?_cons_succ] at kP0 kP1 kP2
    have zP := P.lt
    go_wp2_with fail
    refine (rabove_u L X Y (L - 1) _).mono ?_
    rintro e w2 ⟨rfl, hb⟩
    replace P : Blk w2 (w.heap.size) 23 #[.int .i64 L, .int .i64 X, .int .i64 Y] := Blk.thru0 (((P).alloc _).alloc _) hb
    have A : Blk w2 (w1.heap.size) 23 #[.int .i64 (a0 L X Y (L - 1)), .int .i64 (a1 L X Y (L - 1)), .int .i64 (a2 L X Y (L - 1))] := Blk.thru0 ((Blk.newAt (by simp)).alloc _) hb
    have N : Blk w2 (w1.heap.size + 1) 23 #[.int .i64 0, .int .i64 0, .int .i64 0] := Blk.thru0 (Blk.newAt (by simp)) hb
    have hs := hB.size
    replace hB : Below w.heap.size w w2 := below_trans (by go_grown) hb
    clear hs
    clear kP0 kP1 kP2 zP
    have hszw2 := hb.size
    (try simp at hszw2)
    clear hb
    have kP0 := P.cell 0
    have kP1 := P.cell 1
    have kP2 := P.cell 2
    have kA0 := A.cell 0
    have kA1 := A.cell 1
    have kA2 := A.cell 2
    have kN0 := N.cell 0
    have kN1 := N.cell 1
    have kN2 := N.cell 2
    simp only [List.getElem?_toArray, List.getElem?_cons_zero, List.getElem?_cons_succ] at kP0 kP1 kP2 kA0 kA1 kA2 kN0 kN1 kN2
    have zP := P.lt
    have zA := A.lt
    have zN := N.lt
    have fN0 := N.frozen 0
    have fN1 := N.frozen 1
    have fN2 := N.frozen 2
    go_wp2_with fail
    refine (cchild_u L X Y i _).mono ?_
    rintro e w3 ⟨rfl, hb⟩
    replace P : Blk w3 (w.heap.size) 23 #[.int .i64 L, .int .i64 X, .int .i64 Y] := Blk.thru0 ((P).far3 (g' := w1.heap.size + 1) (by first | omega | exact Blk.ne_ P N (by decide)) (.int .i64 (a0 L X Y (L - 1))) (.int .i64 (a1 L X Y (L - 1))) (.int .i64 (a2 L X Y (L - 1)))) hb
    replace A : Blk w3 (w1.heap.size) 23 #[.int .i64 (a0 L X Y (L - 1)), .int .i64 (a1 L X Y (L - 1)), .int .i64 (a2 L X Y (L - 1))] := Blk.thru0 ((A).far3 (g' := w1.heap.size + 1) (by first | omega | exact Blk.ne_ A N (by decide)) (.int .i64 (a0 L X Y (L - 1))) (.int .i64 (a1 L X Y (L - 1))) (.int .i64 (a2 L X Y (L - 1)))) hb
    replace N : Blk w3 (w1.heap.size + 1) 23 #[.int .i64 (a0 L X Y (L - 1)), .int .i64 (a1 L X Y (L - 1)), .int .i64 (a2 L X Y (L - 1))] := Blk.thru0 ((N).set3 (.int .i64 (a0 L X Y (L - 1))) (.int .i64 (a1 L X Y (L - 1))) (.int .i64 (a2 L X Y (L - 1)))) hb
    have hs := hB.size
    replace hB : Below w.heap.size w w3 := below_trans (by go_grown) hb
    clear hs
    clear kP0 kP1 kP2 kA0 kA1 kA2 kN0 kN1 kN2 zP zA zN fN0 fN1 fN2
    have hszw3 := hb.size
    (try simp at hszw3)
    clear hb
    have kP0 := P.cell 0
    have kP1 := P.cell 1
    have kP2 := P.cell 2
    have kA0 := A.cell 0
    have kA1 := A.cell 1
    have kA2 := A.cell 2
    have kN0 := N.cell 0
    have kN1 := N.cell 1
    have kN2 := N.cell 2
    simp only [List.getElem?_toArray, List.getElem?_cons_zero, List.getElem?_cons_succ] at kP0 kP1 kP2 kA0 kA1 kA2 kN0 kN1 kN2
    have zP := P.lt
    have zA := A.lt
    have zN := N.lt
    have fN0 := N.frozen 0
    have fN1 := N.frozen 1
    have fN2 := N.frozen 2
    go_wp2_with fail
    refine (rchild_u L X Y i _).mono ?_
    rintro e w4 ⟨rfl, hb⟩
    replace P : Blk w4 (w.heap.size) 23 #[.int .i64 L, .int .i64 X, .int .i64 Y] := Blk.thru0 ((P).alloc _) hb
    replace A : Blk w4 (w1.heap.size) 23 #[.int .i64 (a0 L X Y (L - 1)), .int .i64 (a1 L X Y (L - 1)), .int .i64 (a2 L X Y (L - 1))] := Blk.thru0 ((A).alloc _) hb
    replace N : Blk w4 (w1.heap.size + 1) 23 #[.int .i64 (a0 L X Y (L - 1)), .int .i64 (a1 L X Y (L - 1)), .int .i64 (a2 L X Y (L - 1))] := Blk.thru0 ((N).alloc _) hb
    have B : Blk w4 (w3.heap.size) 23 #[.int .i64 (c0 L X Y i), .int .i64 (c1 L X Y i), .int .i64 (c2 L X Y i)] := Blk.thru0 (Blk.newAt (by simp)) hb
    have hs := hB.size
    replace hB : Below w.heap.size w w4 := below_trans (by go_grown) hb
    clear hs
    clear kP0 kP1 kP2 kA0 kA1 kA2 kN0 kN1 kN2 zP zA zN fN0 fN1 fN2
    have hszw4 := hb.size
    (try simp at hszw4)
    clear hb
    have kP0 := P.cell 0
    have kP1 := P.cell 1
    have kP2 := P.cell 2
    have kA0 := A.cell 0
    have kA1 := A.cell 1
    have kA2 := A.cell 2
    have kN0 := N.cell 0
    have kN1 := N.cell 1
    have kN2 := N.cell 2
    have kB0 := B.cell 0
    have kB1 := B.cell 1
    have kB2 := B.cell 2
    simp only [List.getElem?_toArray, List.getElem?_cons_zero, List.getElem?_cons_succ] at kP0 kP1 kP2 kA0 kA1 kA2 kN0 kN1 kN2 kB0 kB1 kB2
    have zP := P.lt
    have zA := A.lt
    have zN := N.lt
    have fN0 := N.frozen 0
    have fN1 := N.frozen 1
    have fN2 := N.frozen 2
    have zB := B.lt
    go_wp2_with fail
    refine (cbeside_u L X Y _).mono ?_
    rintro e w5 ⟨rfl, hb⟩
    replace P : Blk w5 (w.heap.size) 23 #[.int .i64 L, .int .i64 X, .int .i64 Y] := Blk.thru0 ((P).far3 (g' := w1.heap.size + 1) (by first | omega | exact Blk.ne_ P N (by decide)) (.int .i64 (c0 L X Y i)) (.int .i64 (c1 L X Y i)) (.int .i64 (c2 L X Y i))) hb
    replace A : Blk w5 (w1.heap.size) 23 #[.int .i64 (a0 L X Y (L - 1)), .int .i64 (a1 L X Y (L - 1)), .int .i64 (a2 L X Y (L - 1))] := Blk.thru0 ((A).far3 (g' := w1.heap.size + 1) (by first | omega | exact Blk.ne_ A N (by decide)) (.int .i64 (c0 L X Y i)) (.int .i64 (c1 L X Y i)) (.int .i64 (c2 L X Y i))) hb
    replace N : Blk w5 (w1.heap.size + 1) 23 #[.int .i64 (c0 L X Y i), .int .i64 (c1 L X Y i), .int .i64 (c2 L X Y i)] := Blk.thru0 ((N).set3 (.int .i64 (c0 L X Y i)) (.int .i64 (c1 L X Y i)) (.int .i64 (c2 L X Y i))) hb
    replace B : Blk w5 (w3.heap.size) 23 #[.int .i64 (c0 L X Y i), .int .i64 (c1 L X Y i), .int .i64 (c2 L X Y i)] := Blk.thru0 ((B).far3 (g' := w1.heap.size + 1) (by first | omega | exact Blk.ne_ B N (by decide)) (.int .i64 (c0 L X Y i)) (.int .i64 (c1 L X Y i)) (.int .i64 (c2 L X Y i))) hb
    have hs := hB.size
    replace hB : Below w.heap.size w w5 := below_trans (by go_grown) hb
    clear hs
    clear kP0 kP1 kP2 kA0 kA1 kA2 kN0 kN1 kN2 kB0 kB1 kB2 zP zA zN fN0 fN1 fN2 zB
    have hszw5 := hb.size
    (try simp at hszw5)
    clear hb
    have kP0 := P.cell 0
    have kP1 := P.cell 1
    have kP2 := P.cell 2
    have kA0 := A.cell 0
    have kA1 := A.cell 1
    have kA2 := A.cell 2
    have kN0 := N.cell 0
    have kN1 := N.cell 1
    have kN2 := N.cell 2
    have kB0 := B.cell 0
    have kB1 := B.cell 1
    have kB2 := B.cell 2
    simp only [List.getElem?_toArray, List.getElem?_cons_zero, List.getElem?_cons_succ] at kP0 kP1 kP2 kA0 kA1 kA2 kN0 kN1 kN2 kB0 kB1 kB2
    have zP := P.lt
    have zA := A.lt
    have zN := N.lt
    have fN0 := N.frozen 0
    have fN1 := N.frozen 1
    have fN2 := N.frozen 2
    have zB := B.lt
    go_wp2_with fail
    refine (rbeside_u L X Y _).mono ?_
    rintro e w6 ⟨rfl, hb⟩
    replace P : Blk w6 (w.heap.size) 23 #[.int .i64 L, .int .i64 X, .int .i64 Y] := Blk.thru0 ((P).alloc _) hb
    replace A : Blk w6 (w1.heap.size) 23 #[.int .i64 (a0 L X Y (L - 1)), .int .i64 (a1 L X Y (L - 1)), .int .i64 (a2 L X Y (L - 1))] := Blk.thru0 ((A).alloc _) hb
    replace N : Blk w6 (w1.heap.size + 1) 23 #[.int .i64 (c0 L X Y i), .int .i64 (c1 L X Y i), .int .i64 (c2 L X Y i)] := Blk.thru0 ((N).alloc _) hb
    replace B : Blk w6 (w3.heap.size) 23 #[.int .i64 (c0 L X Y i), .int .i64 (c1 L X Y i), .int .i64 (c2 L X Y i)] := Blk.thru0 ((B).alloc _) hb
    have C : Blk w6 (w5.heap.size) 23 #[.int .i64 (d0 L X Y), .int .i64 (d1 L X Y), .int .i64 (d2 L X Y)] := Blk.thru0 (Blk.newAt (by simp)) hb
    have hs := hB.size
    replace hB : Below w.heap.size w w6 := below_trans (by go_grown) hb
    clear hs
    clear kP0 kP1 kP2 kA0 kA1 kA2 kN0 kN1 kN2 kB0 kB1 kB2 zP zA zN fN0 fN1 fN2 zB
    have hszw6 := hb.size
    (try simp at hszw6)
    clear hb
    have kP0 := P.cell 0
    have kP1 := P.cell 1
    have kP2 := P.cell 2
    have kA0 := A.cell 0
    have kA1 := A.cell 1
    have kA2 := A.cell 2
    have kN0 := N.cell 0
    have kN1 := N.cell 1
    have kN2 := N.cell 2
    have kB0 := B.cell 0
    have kB1 := B.cell 1
    have kB2 := B.cell 2
    have kC0 := C.cell 0
    have kC1 := C.cell 1
    have kC2 := C.cell 2
    simp only [List.getElem?_toArray, List.getElem?_cons_zero, List.getElem?_cons_succ] at kP0 kP1 kP2 kA0 kA1 kA2 kN0 kN1 kN2 kB0 kB1 kB2 kC0 kC1 kC2
    have zP := P.lt
    have zA := A.lt
    have zN := N.lt
    have fN0 := N.frozen 0
    have fN1 := N.frozen 1
    have fN2 := N.frozen 2
    have zB := B.lt
    have zC := C.lt
    go_wp2_with fail
    refine (cover_u L X Y _).mono ?_
    rintro e w7 ⟨rfl, hb⟩
    replace P : Blk w7 (w.heap.size) 23 #[.int .i64 L, .int .i64 X, .int .i64 Y] := Blk.thru0 ((P).far3 (g' := w1.heap.size + 1) (by first | omega | exact Blk.ne_ P N (by decide)) (.int .i64 (d0 L X Y)) (.int .i64 (d1 L X Y)) (.int .i64 (d2 L X Y))) hb
    replace A : Blk w7 (w1.heap.size) 23 #[.int .i64 (a0 L X Y (L - 1)), .int .i64 (a1 L X Y (L - 1)), .int .i64 (a2 L X Y (L - 1))] := Blk.thru0 ((A).far3 (g' := w1.heap.size + 1) (by first | omega | exact Blk.ne_ A N (by decide)) (.int .i64 (d0 L X Y)) (.int .i64 (d1 L X Y)) (.int .i64 (d2 L X Y))) hb
    replace N : Blk w7 (w1.heap.size + 1) 23 #[.int .i64 (d0 L X Y), .int .i64 (d1 L X Y), .int .i64 (d2 L X Y)] := Blk.thru0 ((N).set3 (.int .i64 (d0 L X Y)) (.int .i64 (d1 L X Y)) (.int .i64 (d2 L X Y))) hb
    replace B : Blk w7 (w3.heap.size) 23 #[.int .i64 (c0 L X Y i), .int .i64 (c1 L X Y i), .int .i64 (c2 L X Y i)] := Blk.thru0 ((B).far3 (g' := w1.heap.size + 1) (by first | omega | exact Blk.ne_ B N (by decide)) (.int .i64 (d0 L X Y)) (.int .i64 (d1 L X Y)) (.int .i64 (d2 L X Y))) hb
    replace C : Blk w7 (w5.heap.size) 23 #[.int .i64 (d0 L X Y), .int .i64 (d1 L X Y), .int .i64 (d2 L X Y)] := Blk.thru0 ((C).far3 (g' := w1.heap.size + 1) (by first | omega | exact Blk.ne_ C N (by decide)) (.int .i64 (d0 L X Y)) (.int .i64 (d1 L X Y)) (.int .i64 (d2 L X Y))) hb
    have hs := hB.size
    replace hB : Below w.heap.size w w7 := below_trans (by go_grown) hb
    clear hs
    clear kP0 kP1 kP2 kA0 kA1 kA2 kN0 kN1 kN2 kB0 kB1 kB2 kC0 kC1 kC2 zP zA zN fN0 fN1 fN2 zB zC
    have hszw7 := hb.size
    (try simp at hszw7)
    clear hb
    have kP0 := P.cell 0
    have kP1 := P.cell 1
    have kP2 := P.cell 2
    have kA0 := A.cell 0
    have kA1 := A.cell 1
    have kA2 := A.cell 2
    have kN0 := N.cell 0
    have kN1 := N.cell 1
    have kN2 := N.cell 2
    have kB0 := B.cell 0
    have kB1 := B.cell 1
    have kB2 := B.cell 2
    have kC0 := C.cell 0
    have kC1 := C.cell 1
    have kC2 := C.cell 2
    simp only [List.getElem?_toArray, List.getElem?_cons_zero, List.getElem?_cons_succ] at kP0 kP1 kP2 kA0 kA1 kA2 kN0 kN1 kN2 kB0 kB1 kB2 kC0 kC1 kC2
    have zP := P.lt
    have zA := A.lt
    have zN := N.lt
    have fN0 := N.frozen 0
    have fN1 := N.frozen 1
    have fN2 := N.frozen 2
    have zB := B.lt
    have zC := C.lt
    go_wp2_with fail
    refine (rover_u L X Y _).mono ?_
    rintro e w8 ⟨rfl, hb⟩
    replace P : Blk w8 (w.heap.size) 23 #[.int .i64 L, .int .i64 X, .int .i64 Y] := Blk.thru0 ((P).alloc _) hb
    replace A : Blk w8 (w1.heap.size) 23 #[.int .i64 (a0 L X Y (L - 1)), .int .i64 (a1 L X Y (L - 1)), .int .i64 (a2 L X Y (L - 1))] := Blk.thru0 ((A).alloc _) hb
    replace N : Blk w8 (w1.heap.size + 1) 23 #[.int .i64 (d0 L X Y), .int .i64 (d1 L X Y), .int .i64 (d2 L X Y)] := Blk.thru0 ((N).alloc _) hb
    replace B : Blk w8 (w3.heap.size) 23 #[.int .i64 (c0 L X Y i), .int .i64 (c1 L X Y i), .int .i64 (c2 L X Y i)] := Blk.thru0 ((B).alloc _) hb
    replace C : Blk w8 (w5.heap.size) 23 #[.int .i64 (d0 L X Y), .int .i64 (d1 L X Y), .int .i64 (d2 L X Y)] := Blk.thru0 ((C).alloc _) hb
    have D : Blk w8 (w7.heap.size) 23 #[.int .i64 (d0 L X Y), .int .i64 (e1 L X Y), .int .i64 (e2 L X Y)] := Blk.thru0 (Blk.newAt (by simp)) hb
    have hs := hB.size
    replace hB : Below w.heap.size w w8 := below_trans (by go_grown) hb
    clear hs
    clear kP0 kP1 kP2 kA0 kA1 kA2 kN0 kN1 kN2 kB0 kB1 kB2 kC0 kC1 kC2 zP zA zN fN0 fN1 fN2 zB zC
    have hszw8 := hb.size
    (try simp at hszw8)
    clear hb
    have kP0 := P.cell 0
    have kP1 := P.cell 1
    have kP2 := P.cell 2
    have kA0 := A.cell 0
    have kA1 := A.cell 1
    have kA2 := A.cell 2
    have kN0 := N.cell 0
    have kN1 := N.cell 1
    have kN2 := N.cell 2
    have kB0 := B.cell 0
    have kB1 := B.cell 1
    have kB2 := B.cell 2
    have kC0 := C.cell 0
    have kC1 := C.cell 1
    have kC2 := C.cell 2
    have kD0 := D.cell 0
    have kD1 := D.cell 1
    have kD2 := D.cell 2
    simp only [List.getElem?_toArray, List.getElem?_cons_zero, List.getElem?_cons_succ] at kP0 kP1 kP2 kA0 kA1 kA2 kN0 kN1 kN2 kB0 kB1 kB2 kC0 kC1 kC2 kD0 kD1 kD2
    have zP := P.lt
    have zA := A.lt
    have zN := N.lt
    have fN0 := N.frozen 0
    have fN1 := N.frozen 1
    have fN2 := N.frozen 2
    have zB := B.lt
    have zC := C.lt
    have zD := D.lt
    go_wp2_with fail
    refine (known_any _).mono ?_
    rintro e w9 ⟨rfl, hb⟩
    replace P : Blk w9 (w.heap.size) 23 #[.int .i64 L, .int .i64 X, .int .i64 Y] := Blk.thru0 ((P).far3 (g' := w1.heap.size + 1) (by first | omega | exact Blk.ne_ P N (by decide)) (.int .i64 (d0 L X Y)) (.int .i64 (e1 L X Y)) (.int .i64 (e2 L X Y))) hb
    replace A : Blk w9 (w1.heap.size) 23 #[.int .i64 (a0 L X Y (L - 1)), .int .i64 (a1 L X Y (L - 1)), .int .i64 (a2 L X Y (L - 1))] := Blk.thru0 ((A).far3 (g' := w1.heap.size + 1) (by first | omega | exact Blk.ne_ A N (by decide)) (.int .i64 (d0 L X Y)) (.int .i64 (e1 L X Y)) (.int .i64 (e2 L X Y))) hb
    replace N : Blk w9 (w1.heap.size + 1) 23 #[.int .i64 (d0 L X Y), .int .i64 (e1 L X Y), .int .i64 (e2 L X Y)] := Blk.thru0 ((N).set3 (.int .i64 (d0 L X Y)) (.int .i64 (e1 L X Y)) (.int .i64 (e2 L X Y))) hb
    replace B : Blk w9 (w3.heap.size) 23 #[.int .i64 (c0 L X Y i), .int .i64 (c1 L X Y i), .int .i64 (c2 L X Y i)] := Blk.thru0 ((B).far3 (g' := w1.heap.size + 1) (by first | omega | exact Blk.ne_ B N (by decide)) (.int .i64 (d0 L X Y)) (.int .i64 (e1 L X Y)) (.int .i64 (e2 L X Y))) hb
    replace C : Blk w9 (w5.heap.size) 23 #[.int .i64 (d0 L X Y), .int .i64 (d1 L X Y), .int .i64 (d2 L X Y)] := Blk.thru0 ((C).far3 (g' := w1.heap.size + 1) (by first | omega | exact Blk.ne_ C N (by decide)) (.int .i64 (d0 L X Y)) (.int .i64 (e1 L X Y)) (.int .i64 (e2 L X Y))) hb
    replace D : Blk w9 (w7.heap.size) 23 #[.int .i64 (d0 L X Y), .int .i64 (e1 L X Y), .int .i64 (e2 L X Y)] := Blk.thru0 ((D).far3 (g' := w1.heap.size + 1) (by first | omega | exact Blk.ne_ D N (by decide)) (.int .i64 (d0 L X Y)) (.int .i64 (e1 L X Y)) (.int .i64 (e2 L X Y))) hb
    have hs := hB.size
    replace hB : Below w.heap.size w w9 := below_trans (by go_grown) hb
    clear hs
    clear kP0 kP1 kP2 kA0 kA1 kA2 kN0 kN1 kN2 kB0 kB1 kB2 kC0 kC1 kC2 kD0 kD1 kD2 zP zA zN fN0 fN1 fN2 zB zC zD
    have hszw9 := hb.size
    (try simp at hszw9)
    clear hb
    have kP0 := P.cell 0
    have kP1 := P.cell 1
    have kP2 := P.cell 2
    have kA0 := A.cell 0
    have kA1 := A.cell 1
    have kA2 := A.cell 2
    have kN0 := N.cell 0
    have kN1 := N.cell 1
    have kN2 := N.cell 2
    have kB0 := B.cell 0
    have kB1 := B.cell 1
    have kB2 := B.cell 2
    have kC0 := C.cell 0
    have kC1 := C.cell 1
    have kC2 := C.cell 2
    have kD0 := D.cell 0
    have kD1 := D.cell 1
    have kD2 := D.cell 2
    simp only [List.getElem?_toArray, List.getElem?_cons_zero, List.getElem?_cons_succ] at kP0 kP1 kP2 kA0 kA1 kA2 kN0 kN1 kN2 kB0 kB1 kB2 kC0 kC1 kC2 kD0 kD1 kD2
    have zP := P.lt
    have zA := A.lt
    have zN := N.lt
    have fN0 := N.frozen 0
    have fN1 := N.frozen 1
    have fN2 := N.frozen 2
    have zB := B.lt
    have zC := C.lt
    have zD := D.lt
    go_wp2
    go_ret
    exact ⟨rfl, by first | exact hB | go_grown⟩
  · have hk : okA L X Y (L - 1) = false := by rw [okA, show decide (0 ≤ L - 1 ∧ L - 1 ≤ L) = false from decide_eq_false (by omega), Bool.and_false]
    have hp : ∀ w : World, Calls Try.prog 19 #[.agg #[.int .i64 L, .int .i64 X, .int .i64 Y]] w fun e w' => e = .returned (.tuple #[.agg #[.int .i64 0, .int .i64 0, .int .i64 0], .bool false]) ∧ Below w.heap.size w w' := by
      intro w; have := cparent_any L X Y w; rw [a0, a1, a2, hk] at this; simpa using this
    have HP := Lib.hid hp; clear hp hk
    go_enter Try.func4, Try.ntmps4
    go_wp2_with fail
    refine (HP.out _).mono ?_
    rintro e w1 ⟨rfl, hb⟩
    have P : Blk w1 (w.heap.size) 23 #[.int .i64 L, .int .i64 X, .int .i64 Y] := Blk.thru0 (Blk.newAt (by simp)) hb
    have hB : Below w.heap.size w w1 := below_trans (by go_grown) hb
    have hszw1 := hb.size
    (try simp at hszw1)
    clear hb
    have kP0 := P.cell 0
    have kP1 := P.cell 1
    have kP2 := P.cell 2
    simp only [List.getElem?_toArray, List.getElem?_cons_zero, List.getElem?_cons_succ] at kP0 kP1 kP2
    have zP := P.lt
    go_wp2_with fail
    refine (cchild_u L X Y i _).mono ?_
    rintro e w2 ⟨rfl, hb⟩
    replace P : Blk w2 (w.heap.size) 23 #[.int .i64 L, .int .i64 X, .int .i64 Y] := Blk.thru0 (((P).alloc _).alloc _) hb
    have A : Blk w2 (w1.heap.size) 23 #[.int .i64 0, .int .i64 0, .int .i64 0] := Blk.thru0 ((Blk.newAt (by simp)).alloc _) hb
    have N : Blk w2 (w1.heap.size + 1) 23 #[.int .i64 0, .int .i64 0, .int .i64 0] := Blk.thru0 (Blk.newAt (by simp)) hb
    have hs := hB.size
    replace hB : Below w.heap.size w w2 := below_trans (by go_grown) hb
    clear hs
    clear kP0 kP1 kP2 zP
    have hszw2 := hb.size
    (try simp at hszw2)
    clear hb
    have kP0 := P.cell 0
    have kP1 := P.cell 1
    have kP2 := P.cell 2
    have kA0 := A.cell 0
    have kA1 := A.cell 1
    have kA2 := A.cell 2
    have kN0 := N.cell 0
    have kN1 := N.cell 1
    have kN2 := N.cell 2
    simp only [List.getElem?_toArray, List.getElem?_cons_zero, List.getElem?_cons_succ] at kP0 kP1 kP2 kA0 kA1 kA2 kN0 kN1 kN2
    have zP := P.lt
    have zA := A.lt
    have zN := N.lt
    have fN0 := N.frozen 0
    have fN1 := N.frozen 1
    have fN2 := N.frozen 2
    go_wp2_with fail
    refine (rchild_u L X Y i _).mono ?_
    rintro e w3 ⟨rfl, hb⟩
    replace P : Blk w3 (w.heap.size) 23 #[.int .i64 L, .int .i64 X, .int .i64 Y] := Blk.thru0 ((P).alloc _) hb
    replace A : Blk w3 (w1.heap.size) 23 #[.int .i64 0, .int .i64 0, .int .i64 0] := Blk.thru0 ((A).alloc _) hb
    replace N : Blk w3 (w1.heap.size + 1) 23 #[.int .i64 0, .int .i64 0, .int .i64 0] := Blk.thru0 ((N).alloc _) hb
    have B : Blk w3 (w2.heap.size) 23 #[.int .i64 (c0 L X Y i), .int .i64 (c1 L X Y i), .int .i64 (c2 L X Y i)] := Blk.thru0 (Blk.newAt (by simp)) hb
    have hs := hB.size
    replace hB : Below w.heap.size w w3 := below_trans (by go_grown) hb
    clear hs
    clear kP0 kP1 kP2 kA0 kA1 kA2 kN0 kN1 kN2 zP zA zN fN0 fN1 fN2
    have hszw3 := hb.size
    (try simp at hszw3)
    clear hb
    have kP0 := P.cell 0
    have kP1 := P.cell 1
    have kP2 := P.cell 2
    have kA0 := A.cell 0
    have kA1 := A.cell 1
    have kA2 := A.cell 2
    have kN0 := N.cell 0
    have kN1 := N.cell 1
    have kN2 := N.cell 2
    have kB0 := B.cell 0
    have kB1 := B.cell 1
    have kB2 := B.cell 2
    simp only [List.getElem?_toArray, List.getElem?_cons_zero, List.getElem?_cons_succ] at kP0 kP1 kP2 kA0 kA1 kA2 kN0 kN1 kN2 kB0 kB1 kB2
    have zP := P.lt
    have zA := A.lt
    have zN := N.lt
    have fN0 := N.frozen 0
    have fN1 := N.frozen 1
    have fN2 := N.frozen 2
    have zB := B.lt
    go_wp2_with fail
    refine (cbeside_u L X Y _).mono ?_
    rintro e w4 ⟨rfl, hb⟩
    replace P : Blk w4 (w.heap.size) 23 #[.int .i64 L, .int .i64 X, .int .i64 Y] := Blk.thru0 ((P).far3 (g' := w1.heap.size + 1) (by first | omega | exact Blk.ne_ P N (by decide)) (.int .i64 (c0 L X Y i)) (.int .i64 (c1 L X Y i)) (.int .i64 (c2 L X Y i))) hb
    replace A : Blk w4 (w1.heap.size) 23 #[.int .i64 0, .int .i64 0, .int .i64 0] := Blk.thru0 ((A).far3 (g' := w1.heap.size + 1) (by first | omega | exact Blk.ne_ A N (by decide)) (.int .i64 (c0 L X Y i)) (.int .i64 (c1 L X Y i)) (.int .i64 (c2 L X Y i))) hb
    replace N : Blk w4 (w1.heap.size + 1) 23 #[.int .i64 (c0 L X Y i), .int .i64 (c1 L X Y i), .int .i64 (c2 L X Y i)] := Blk.thru0 ((N).set3 (.int .i64 (c0 L X Y i)) (.int .i64 (c1 L X Y i)) (.int .i64 (c2 L X Y i))) hb
    replace B : Blk w4 (w2.heap.size) 23 #[.int .i64 (c0 L X Y i), .int .i64 (c1 L X Y i), .int .i64 (c2 L X Y i)] := Blk.thru0 ((B).far3 (g' := w1.heap.size + 1) (by first | omega | exact Blk.ne_ B N (by decide)) (.int .i64 (c0 L X Y i)) (.int .i64 (c1 L X Y i)) (.int .i64 (c2 L X Y i))) hb
    have hs := hB.size
    replace hB : Below w.heap.size w w4 := below_trans (by go_grown) hb
    clear hs
    clear kP0 kP1 kP2 kA0 kA1 kA2 kN0 kN1 kN2 kB0 kB1 kB2 zP zA zN fN0 fN1 fN2 zB
    have hszw4 := hb.size
    (try simp at hszw4)
    clear hb
    have kP0 := P.cell 0
    have kP1 := P.cell 1
    have kP2 := P.cell 2
    have kA0 := A.cell 0
    have kA1 := A.cell 1
    have kA2 := A.cell 2
    have kN0 := N.cell 0
    have kN1 := N.cell 1
    have kN2 := N.cell 2
    have kB0 := B.cell 0
    have kB1 := B.cell 1
    have kB2 := B.cell 2
    simp only [List.getElem?_toArray, List.getElem?_cons_zero, List.getElem?_cons_succ] at kP0 kP1 kP2 kA0 kA1 kA2 kN0 kN1 kN2 kB0 kB1 kB2
    have zP := P.lt
    have zA := A.lt
    have zN := N.lt
    have fN0 := N.frozen 0
    have fN1 := N.frozen 1
    have fN2 := N.frozen 2
    have zB := B.lt
    go_wp2_with fail
    refine (rbeside_u L X Y _).mono ?_
    rintro e w5 ⟨rfl, hb⟩
    replace P : Blk w5 (w.heap.size) 23 #[.int .i64 L, .int .i64 X, .int .i64 Y] := Blk.thru0 ((P).alloc _) hb
    replace A : Blk w5 (w1.heap.size) 23 #[.int .i64 0, .int .i64 0, .int .i64 0] := Blk.thru0 ((A).alloc _) hb
    replace N : Blk w5 (w1.heap.size + 1) 23 #[.int .i64 (c0 L X Y i), .int .i64 (c1 L X Y i), .int .i64 (c2 L X Y i)] := Blk.thru0 ((N).alloc _) hb
    replace B : Blk w5 (w2.heap.size) 23 #[.int .i64 (c0 L X Y i), .int .i64 (c1 L X Y i), .int .i64 (c2 L X Y i)] := Blk.thru0 ((B).alloc _) hb
    have C : Blk w5 (w4.heap.size) 23 #[.int .i64 (d0 L X Y), .int .i64 (d1 L X Y), .int .i64 (d2 L X Y)] := Blk.thru0 (Blk.newAt (by simp)) hb
    have hs := hB.size
    replace hB : Below w.heap.size w w5 := below_trans (by go_grown) hb
    clear hs
    clear kP0 kP1 kP2 kA0 kA1 kA2 kN0 kN1 kN2 kB0 kB1 kB2 zP zA zN fN0 fN1 fN2 zB
    have hszw5 := hb.size
    (try simp at hszw5)
    clear hb
    have kP0 := P.cell 0
    have kP1 := P.cell 1
    have kP2 := P.cell 2
    have kA0 := A.cell 0
    have kA1 := A.cell 1
    have kA2 := A.cell 2
    have kN0 := N.cell 0
    have kN1 := N.cell 1
    have kN2 := N.cell 2
    have kB0 := B.cell 0
    have kB1 := B.cell 1
    have kB2 := B.cell 2
    have kC0 := C.cell 0
    have kC1 := C.cell 1
    have kC2 := C.cell 2
    simp only [List.getElem?_toArray, List.getElem?_cons_zero, List.getElem?_cons_succ] at kP0 kP1 kP2 kA0 kA1 kA2 kN0 kN1 kN2 kB0 kB1 kB2 kC0 kC1 kC2
    have zP := P.lt
    have zA := A.lt
    have zN := N.lt
    have fN0 := N.frozen 0
    have fN1 := N.frozen 1
    have fN2 := N.frozen 2
    have zB := B.lt
    have zC := C.lt
    go_wp2_with fail
    refine (cover_u L X Y _).mono ?_
    rintro e w6 ⟨rfl, hb⟩
    replace P : Blk w6 (w.heap.size) 23 #[.int .i64 L, .int .i64 X, .int .i64 Y] := Blk.thru0 ((P).far3 (g' := w1.heap.size + 1) (by first | omega | exact Blk.ne_ P N (by decide)) (.int .i64 (d0 L X Y)) (.int .i64 (d1 L X Y)) (.int .i64 (d2 L X Y))) hb
    replace A : Blk w6 (w1.heap.size) 23 #[.int .i64 0, .int .i64 0, .int .i64 0] := Blk.thru0 ((A).far3 (g' := w1.heap.size + 1) (by first | omega | exact Blk.ne_ A N (by decide)) (.int .i64 (d0 L X Y)) (.int .i64 (d1 L X Y)) (.int .i64 (d2 L X Y))) hb
    replace N : Blk w6 (w1.heap.size + 1) 23 #[.int .i64 (d0 L X Y), .int .i64 (d1 L X Y), .int .i64 (d2 L X Y)] := Blk.thru0 ((N).set3 (.int .i64 (d0 L X Y)) (.int .i64 (d1 L X Y)) (.int .i64 (d2 L X Y))) hb
    replace B : Blk w6 (w2.heap.size) 23 #[.int .i64 (c0 L X Y i), .int .i64 (c1 L X Y i), .int .i64 (c2 L X Y i)] := Blk.thru0 ((B).far3 (g' := w1.heap.size + 1) (by first | omega | exact Blk.ne_ B N (by decide)) (.int .i64 (d0 L X Y)) (.int .i64 (d1 L X Y)) (.int .i64 (d2 L X Y))) hb
    replace C : Blk w6 (w4.heap.size) 23 #[.int .i64 (d0 L X Y), .int .i64 (d1 L X Y), .int .i64 (d2 L X Y)] := Blk.thru0 ((C).far3 (g' := w1.heap.size + 1) (by first | omega | exact Blk.ne_ C N (by decide)) (.int .i64 (d0 L X Y)) (.int .i64 (d1 L X Y)) (.int .i64 (d2 L X Y))) hb
    have hs := hB.size
    replace hB : Below w.heap.size w w6 := below_trans (by go_grown) hb
    clear hs
    clear kP0 kP1 kP2 kA0 kA1 kA2 kN0 kN1 kN2 kB0 kB1 kB2 kC0 kC1 kC2 zP zA zN fN0 fN1 fN2 zB zC
    have hszw6 := hb.size
    (try simp at hszw6)
    clear hb
    have kP0 := P.cell 0
    have kP1 := P.cell 1
    have kP2 := P.cell 2
    have kA0 := A.cell 0
    have kA1 := A.cell 1
    have kA2 := A.cell 2
    have kN0 := N.cell 0
    have kN1 := N.cell 1
    have kN2 := N.cell 2
    have kB0 := B.cell 0
    have kB1 := B.cell 1
    have kB2 := B.cell 2
    have kC0 := C.cell 0
    have kC1 := C.cell 1
    have kC2 := C.cell 2
    simp only [List.getElem?_toArray, List.getElem?_cons_zero, List.getElem?_cons_succ] at kP0 kP1 kP2 kA0 kA1 kA2 kN0 kN1 kN2 kB0 kB1 kB2 kC0 kC1 kC2
    have zP := P.lt
    have zA := A.lt
    have zN := N.lt
    have fN0 := N.frozen 0
    have fN1 := N.frozen 1
    have fN2 := N.frozen 2
    have zB := B.lt
    have zC := C.lt
    go_wp2_with fail
    refine (rover_u L X Y _).mono ?_
    rintro e w7 ⟨rfl, hb⟩
    replace P : Blk w7 (w.heap.size) 23 #[.int .i64 L, .int .i64 X, .int .i64 Y] := Blk.thru0 ((P).alloc _) hb
    replace A : Blk w7 (w1.heap.size) 23 #[.int .i64 0, .int .i64 0, .int .i64 0] := Blk.thru0 ((A).alloc _) hb
    replace N : Blk w7 (w1.heap.size + 1) 23 #[.int .i64 (d0 L X Y), .int .i64 (d1 L X Y), .int .i64 (d2 L X Y)] := Blk.thru0 ((N).alloc _) hb
    replace B : Blk w7 (w2.heap.size) 23 #[.int .i64 (c0 L X Y i), .int .i64 (c1 L X Y i), .int .i64 (c2 L X Y i)] := Blk.thru0 ((B).alloc _) hb
    replace C : Blk w7 (w4.heap.size) 23 #[.int .i64 (d0 L X Y), .int .i64 (d1 L X Y), .int .i64 (d2 L X Y)] := Blk.thru0 ((C).alloc _) hb
    have D : Blk w7 (w6.heap.size) 23 #[.int .i64 (d0 L X Y), .int .i64 (e1 L X Y), .int .i64 (e2 L X Y)] := Blk.thru0 (Blk.newAt (by simp)) hb
    have hs := hB.size
    replace hB : Below w.heap.size w w7 := below_trans (by go_grown) hb
    clear hs
    clear kP0 kP1 kP2 kA0 kA1 kA2 kN0 kN1 kN2 kB0 kB1 kB2 kC0 kC1 kC2 zP zA zN fN0 fN1 fN2 zB zC
    have hszw7 := hb.size
    (try simp at hszw7)
    clear hb
    have kP0 := P.cell 0
    have kP1 := P.cell 1
    have kP2 := P.cell 2
    have kA0 := A.cell 0
    have kA1 := A.cell 1
    have kA2 := A.cell 2
    have kN0 := N.cell 0
    have kN1 := N.cell 1
    have kN2 := N.cell 2
    have kB0 := B.cell 0
    have kB1 := B.cell 1
    have kB2 := B.cell 2
    have kC0 := C.cell 0
    have kC1 := C.cell 1
    have kC2 := C.cell 2
    have kD0 := D.cell 0
    have kD1 := D.cell 1
    have kD2 := D.cell 2
    simp only [List.getElem?_toArray, List.getElem?_cons_zero, List.getElem?_cons_succ] at kP0 kP1 kP2 kA0 kA1 kA2 kN0 kN1 kN2 kB0 kB1 kB2 kC0 kC1 kC2 kD0 kD1 kD2
    have zP := P.lt
    have zA := A.lt
    have zN := N.lt
    have fN0 := N.frozen 0
    have fN1 := N.frozen 1
    have fN2 := N.frozen 2
    have zB := B.lt
    have zC := C.lt
    have zD := D.lt
    go_wp2_with fail
    refine (known_any _).mono ?_
    rintro e w8 ⟨rfl, hb⟩
    replace P : Blk w8 (w.heap.size) 23 #[.int .i64 L, .int .i64 X, .int .i64 Y] := Blk.thru0 ((P).far3 (g' := w1.heap.size + 1) (by first | omega | exact Blk.ne_ P N (by decide)) (.int .i64 (d0 L X Y)) (.int .i64 (e1 L X Y)) (.int .i64 (e2 L X Y))) hb
    replace A : Blk w8 (w1.heap.size) 23 #[.int .i64 0, .int .i64 0, .int .i64 0] := Blk.thru0 ((A).far3 (g' := w1.heap.size + 1) (by first | omega | exact Blk.ne_ A N (by decide)) (.int .i64 (d0 L X Y)) (.int .i64 (e1 L X Y)) (.int .i64 (e2 L X Y))) hb
    replace N : Blk w8 (w1.heap.size + 1) 23 #[.int .i64 (d0 L X Y), .int .i64 (e1 L X Y), .int .i64 (e2 L X Y)] := Blk.thru0 ((N).set3 (.int .i64 (d0 L X Y)) (.int .i64 (e1 L X Y)) (.int .i64 (e2 L X Y))) hb
    replace B : Blk w8 (w2.heap.size) 23 #[.int .i64 (c0 L X Y i), .int .i64 (c1 L X Y i), .int .i64 (c2 L X Y i)] := Blk.thru0 ((B).far3 (g' := w1.heap.size + 1) (by first | omega | exact Blk.ne_ B N (by decide)) (.int .i64 (d0 L X Y)) (.int .i64 (e1 L X Y)) (.int .i64 (e2 L X Y))) hb
    replace C : Blk w8 (w4.heap.size) 23 #[.int .i64 (d0 L X Y), .int .i64 (d1 L X Y), .int .i64 (d2 L X Y)] := Blk.thru0 ((C).far3 (g' := w1.heap.size + 1) (by first | omega | exact Blk.ne_ C N (by decide)) (.int .i64 (d0 L X Y)) (.int .i64 (e1 L X Y)) (.int .i64 (e2 L X Y))) hb
    replace D : Blk w8 (w6.heap.size) 23 #[.int .i64 (d0 L X Y), .int .i64 (e1 L X Y), .int .i64 (e2 L X Y)] := Blk.thru0 ((D).far3 (g' := w1.heap.size + 1) (by first | omega | exact Blk.ne_ D N (by decide)) (.int .i64 (d0 L X Y)) (.int .i64 (e1 L X Y)) (.int .i64 (e2 L X Y))) hb
    have hs := hB.size
    replace hB : Below w.heap.size w w8 := below_trans (by go_grown) hb
    clear hs
    clear kP0 kP1 kP2 kA0 kA1 kA2 kN0 kN1 kN2 kB0 kB1 kB2 kC0 kC1 kC2 kD0 kD1 kD2 zP zA zN fN0 fN1 fN2 zB zC zD
    have hszw8 := hb.size
    (try simp at hszw8)
    clear hb
    have kP0 := P.cell 0
    have kP1 := P.cell 1
    have kP2 := P.cell 2
    have kA0 := A.cell 0
    have kA1 := A.cell 1
    have kA2 := A.cell 2
    have kN0 := N.cell 0
    have kN1 := N.cell 1
    have kN2 := N.cell 2
    have kB0 := B.cell 0
    have kB1 := B.cell 1
    have kB2 := B.cell 2
    have kC0 := C.cell 0
    have kC1 := C.cell 1
    have kC2 := C.cell 2
    have kD0 := D.cell 0
    have kD1 := D.cell 1
    have kD2 := D.cell 2
    simp only [List.getElem?_toArray, List.getElem?_cons_zero, List.getElem?_cons_succ] at kP0 kP1 kP2 kA0 kA1 kA2 kN0 kN1 kN2 kB0 kB1 kB2 kC0 kC1 kC2 kD0 kD1 kD2
    have zP := P.lt
    have zA := A.lt
    have zN := N.lt
    have fN0 := N.frozen 0
    have fN1 := N.frozen 1
    have fN2 := N.frozen 2
    have zB := B.lt
    have zC := C.lt
    have zD := D.lt
    go_wp2
    go_ret
    exact ⟨rfl, by first | exact hB | go_grown⟩

theorem own : ownKnob Try.prog.godebug = none := by kernel_rfl
theorem laidOut : laidOutB Try.prog = true := by kernel_rfl
set_option maxRecDepth 100000 in
theorem lifted (os : Os) (started : os.Started) (H : Type) (enc : TypeId × Value → H) :
    ReturnsInHanded {} Try.checked os 4 .any (Rows.cellKinSpec.pre6 enc Try.prog Try.f4 Rows.cellKinRow.domain false) (Rows.cellKinSpec.post enc Try.prog Try.f4 false true false false) := by
  refine returnsInHanded_of_change (C := Try.checked) own started (by kernel_rfl) Try.func4
    (ChangeSpec.witness6 (enc := enc) (C := Try.checked) false ⟨#[], #[.agg #[.int .i64 0, .int .i64 0, .int .i64 0], .int .i64 0], []⟩ 8 (by kernel_rfl) (by kernel_rfl) (by kernel_rfl) (by kernel_rfl)) ?_
  intro W base args ds gs before hval0 hW hcnd _
  have hval : ∀ (j : Nat) t v, Try.f4.params[j]? = some t → args[j]? = some v → Value.okWide Try.prog W .any base t v := hval0
  have hW' := hW
  obtain ⟨p, q, hA0, hV, rfl, hfz, hnd⟩ := hW
  have hA : DataW.TrodAll enc Try.prog W 0 (fun _ => true) true Try.f4.params.toList args.toList ds p := hA0
  rw [Try.params4] at hA hval
  obtain ⟨v0, vs0, d0, ds0, p0, q0, hargs, rfl, rfl, h0, r0⟩ := trodAll_cons hA
  obtain ⟨v1, vs1, d1, ds1, p1, q1, rfl, rfl, rfl, h1, r1⟩ := trodAll_cons r0
  obtain ⟨rfl, rfl, rfl⟩ := trodAll_nil r1
  obtain rfl : args = #[v0, v1] := by cases args; simp_all
  obtain ⟨rfl, rfl⟩ := trodVars_none hV
  have k0 := h0
  have lt0 : ∀ x ∈ p0, x.block < W.heap.size := by obtain ⟨m, hm⟩ := k0; exact DataW.trod_lt m _ _ _ hm
  obtain ⟨c0_0, c0_1, c0_2, y0_0, y0_1, y0_2, m0, rfl, rfl, rfl, hy0_0, hy0_1, hy0_2⟩ := Joins.open_agg3 Try.underlying23 (by kernel_rfl) (by kernel_rfl) (hval 0 23 v0 rfl rfl) h0
  obtain ⟨a0_0, e0_0, rfl, w0_0⟩ := DataW.trod_int Try.underlying3 hy0_0
  simp only [List.cons.injEq, and_true] at e0_0
  subst e0_0
  obtain ⟨a0_1, e0_1, rfl, w0_1⟩ := DataW.trod_int Try.underlying3 hy0_1
  simp only [List.cons.injEq, and_true] at e0_1
  subst e0_1
  obtain ⟨a0_2, e0_2, rfl, w0_2⟩ := DataW.trod_int Try.underlying3 hy0_2
  simp only [List.cons.injEq, and_true] at e0_2
  subst e0_2
  have k1 := h1
  have lt1 : ∀ x ∈ p1, x.block < W.heap.size := by obtain ⟨m, hm⟩ := k1; exact DataW.trod_lt m _ _ _ hm
  obtain ⟨a1, rfl, rfl, rfl, w1⟩ := open_int Try.underlying3 (hval 1 3 v1 rfl rfl) h1
  clear hA0 hval0
  refine (walk a0_0 a0_1 a0_2 a1 W (bounds_i64 w0_0) (bounds_i64 w0_1) (bounds_i64 w0_2) (bounds_i64 w1)).mono fun e W' ⟨he, bel⟩ => ?_
  subst he
  exact ⟨_, rfl, _, _, _, [], _, [], hW', trodAll_mk1 (shut_bool Try.underlying4 _), (trodAll_cons_mk (Below.trod laidOut (by kernel_rfl) (of_decide_eq_true (by kernel_rfl)) k0 bel lt0) (trodAll_cons_mk (Below.trod laidOut (by kernel_rfl) (of_decide_eq_true (by kernel_rfl)) k1 bel lt1) trodAll_mk0)), rfl, bel.frame _, fun h => by cases h⟩
theorem over : Rows.cellKinRow.holds Try.pinned (OpenSpec.ofChange Rows.cellKinSpec) :=
  OpenClaim.holds_of_wide 4 Try.f4 rfl rfl rfl rfl rfl rfl rfl ⟨rfl, rfl, rfl, rfl, rfl⟩ rfl rfl rfl rfl rfl (by kernel_rfl) Try.func4 (by kernel_rfl)
    (of_decide_eq_true (by kernel_rfl)) (by unfold Func.isWrapper; first | (rw [if_pos (by decide +kernel)]; kernel_rfl) | (rw [if_neg (by decide +kernel)]; exact ⟨rfl, rfl⟩))
    (fun os started H enc _ => lifted os started H enc)
/-- The statement. -/
theorem proved : Rows.CellKinSaid := over
#print axioms proved
end Go.Proofs.Ytpbnbnhmlpjbjaa.cellKin
