/- CellCodes: (P3.4, P3.8) a cell has its code, of which it is the one cell of its level; the child i has four times the code, and i. Conditions: none. -/
import Derived.Test.YtpbnbnhmlpjbjaaCellKnown
import Derived.Test.YtpbnbnhmlpjbjaaFrame
import Derived.Lib.SmallJoins
import Derived.Test.YtpbnbnhmlpjbjaaCellMath3
namespace Go.Proofs.Ytpbnbnhmlpjbjaa.cellCodes
set_option linter.unusedVariables false
set_option linter.unusedSimpArgs false
open Go.ChangeShapes Go.WideShapes Go.ChangeAt Go.RowKit
open Go.ChangeMaps (open_string shut_string)
set_option maxHeartbeats 2000000 in
theorem walk_y11 (L X Y i n : Int) (w : World) (hn0 : 0 ≤ n) (hn1 : n ≤ 18446744073709551615) (hF : okF L n = true) (hC : okC L X Y = true) (hK : okK L X Y i = true) :
    Calls Try.prog 11 #[.agg #[.int .i64 L, .int .i64 X, .int .i64 Y], .int .i64 i, .int .u64 n] w fun e w' => e = .returned (.bool true) ∧ Below w.heap.size w w' := by
  have hfr : ∀ w : World, Calls Try.prog 39 #[.int .i64 L, .int .u64 n] w fun e w' => e = .returned (.tuple #[.agg #[.int .i64 L, .int .i64 (f1 L n), .int .i64 (f2 L n)], .bool true]) ∧ Below w.heap.size w w' := by
    intro w; have := from_u L n hn0 w; rw [hF, (code_of L n hn0 hF).2.2] at this; exact this
  have HFR := Lib.hid hfr; clear hfr
  have hco : ∀ w : World, Calls Try.prog 37 #[.agg #[.int .i64 L, .int .i64 (f1 L n), .int .i64 (f2 L n)]] w fun e w' => e = .returned (.tuple #[.int .u64 n, .bool true]) ∧ Below w.heap.size w w' := by
    intro w; obtain ⟨q0, q1, _⟩ := code_of L n hn0 hF; have q2 := (code_of L n hn0 hF).2.2; rw [q2] at q0 q1; have := code_u L (f1 L n) (f2 L n) w; rw [q0, q1] at this; exact this
  have HCO := Lib.hid hco; clear hco
  clear hF
  have hbk : ∀ w : World, Calls Try.prog 39 #[.int .i64 L, .int .u64 (codU L X Y)] w fun e w' => e = .returned (.tuple #[.agg #[.int .i64 L, .int .i64 X, .int .i64 Y], .bool true]) ∧ Below w.heap.size w w' := by
    intro w; obtain ⟨q0, q1, q2, q3⟩ := code_back L X Y hC; have := from_u L (codU L X Y) (codU_bd L X Y hC).1 w; rw [q0, q1, q2, q3] at this; exact this
  have HBK := Lib.hid hbk; clear hbk
  have hcb := codU_bd L X Y hC
  obtain ⟨hcb0, hcb1⟩ := hcb
  have hck : ∀ w : World, Calls Try.prog 37 #[.agg #[.int .i64 (c0 L X Y i), .int .i64 (c1 L X Y i), .int .i64 (c2 L X Y i)]] w fun e w' => e = .returned (.tuple #[.int .u64 (4 * codU L X Y + i), .bool true]) ∧ Below w.heap.size w w' := by
    intro w; obtain ⟨q0, q1⟩ := code_child L X Y i hK; have := code_u (c0 L X Y i) (c1 L X Y i) (c2 L X Y i) w; rw [q0, q1] at this; exact this
  have HCK := Lib.hid hck; clear hck
  have hi03 : 0 ≤ i ∧ i ≤ 3 := by rw [okK, Bool.and_eq_true, decide_eq_true_eq] at hK; omega
  obtain ⟨hi0, hi3⟩ := hi03
  go_enter Try.func11, Try.ntmps11
  go_wp2_with fail
  refine (code_u L X Y _).mono ?_
  rintro e w1 ⟨rfl, hb⟩
  have P : Blk w1 (w.heap.size) 23 #[.int .i64 L, .int .i64 X, .int .i64 Y] := Blk.thru0 (Blk.newAt (by simp)) hb
  have hB : Below w.heap.size w w1 := below_trans (by go_grown) hb
  have hszw1 := hb.size
  (try simp at hszw1)
  clear hb
  have kP0 := P.cell 0
  have kP1 := P.cell 1
  have kP2 := P.cell 2
  simp only [List.getElem?_toArray, List.getElem?_cons_zero, List.getElem?_cons_succ] at kP0 kP1 kP2
  have zP := P.lt
  go_wp2_with fail
  refine (rcode_u L X Y _).mono ?_
  rintro e w2 ⟨rfl, hb⟩
  replace P : Blk w2 (w.heap.size) 23 #[.int .i64 L, .int .i64 X, .int .i64 Y] := Blk.thru0 (P) hb
  have hs := hB.size
  replace hB : Below w.heap.size w w2 := below_trans (by go_grown) hb
  clear hs
  clear kP0 kP1 kP2 zP
  have hszw2 := hb.size
  (try simp at hszw2)
  clear hb
  have kP0 := P.cell 0
  have kP1 := P.cell 1
  have kP2 := P.cell 2
  simp only [List.getElem?_toArray, List.getElem?_cons_zero, List.getElem?_cons_succ] at kP0 kP1 kP2
  have zP := P.lt
  go_wp2_with fail
  refine (HFR.out _).mono ?_
  rintro e w3 ⟨rfl, hb⟩
  replace P : Blk w3 (w.heap.size) 23 #[.int .i64 L, .int .i64 X, .int .i64 Y] := Blk.thru0 (P) hb
  have hs := hB.size
  replace hB : Below w.heap.size w w3 := below_trans (by go_grown) hb
  clear hs
  clear kP0 kP1 kP2 zP
  have hszw3 := hb.size
  (try simp at hszw3)
  clear hb
  have kP0 := P.cell 0
  have kP1 := P.cell 1
  have kP2 := P.cell 2
  simp only [List.getElem?_toArray, List.getElem?_cons_zero, List.getElem?_cons_succ] at kP0 kP1 kP2
  have zP := P.lt
  go_wp2_with fail
  refine (HCO.out _).mono ?_
  rintro e w4 ⟨rfl, hb⟩
  replace P : Blk w4 (w.heap.size) 23 #[.int .i64 L, .int .i64 X, .int .i64 Y] := Blk.thru0 ((P).alloc _) hb
  have D : Blk w4 (w3.heap.size) 23 #[.int .i64 L, .int .i64 (f1 L n), .int .i64 (f2 L n)] := Blk.thru0 (Blk.newAt (by simp)) hb
  have hs := hB.size
  replace hB : Below w.heap.size w w4 := below_trans (by go_grown) hb
  clear hs
  clear kP0 kP1 kP2 zP
  have hszw4 := hb.size
  (try simp at hszw4)
  clear hb
  have kP0 := P.cell 0
  have kP1 := P.cell 1
  have kP2 := P.cell 2
  have kD0 := D.cell 0
  have kD1 := D.cell 1
  have kD2 := D.cell 2
  simp only [List.getElem?_toArray, List.getElem?_cons_zero, List.getElem?_cons_succ] at kP0 kP1 kP2 kD0 kD1 kD2
  have zP := P.lt
  have zD := D.lt
  go_wp2_with fail
  refine (HBK.out _).mono ?_
  rintro e w5 ⟨rfl, hb⟩
  replace P : Blk w5 (w.heap.size) 23 #[.int .i64 L, .int .i64 X, .int .i64 Y] := Blk.thru0 (P) hb
  replace D : Blk w5 (w3.heap.size) 23 #[.int .i64 L, .int .i64 (f1 L n), .int .i64 (f2 L n)] := Blk.thru0 (D) hb
  have hs := hB.size
  replace hB : Below w.heap.size w w5 := below_trans (by go_grown) hb
  clear hs
  clear kP0 kP1 kP2 kD0 kD1 kD2 zP zD
  have hszw5 := hb.size
  (try simp at hszw5)
  clear hb
  have kP0 := P.cell 0
  have kP1 := P.cell 1
  have kP2 := P.cell 2
  have kD0 := D.cell 0
  have kD1 := D.cell 1
  have kD2 := D.cell 2
  simp only [List.getElem?_toArray, List.getElem?_cons_zero, List.getElem?_cons_succ] at kP0 kP1 kP2 kD0 kD1 kD2
  have zP := P.lt
  have zD := D.lt
  go_wp2_with fail
  refine (cchild_u L X Y i _).mono ?_
  rintro e w6 ⟨rfl, hb⟩
  replace P : Blk w6 (w.heap.size) 23 #[.int .i64 L, .int .i64 X, .int .i64 Y] := Blk.thru0 ((P).alloc _) hb
  replace D : Blk w6 (w3.heap.size) 23 #[.int .i64 L, .int .i64 (f1 L n), .int .i64 (f2 L n)] := Blk.thru0 ((D).alloc _) hb
  have E : Blk w6 (w5.heap.size) 23 #[.int .i64 L, .int .i64 X, .int .i64 Y] := Blk.thru0 (Blk.newAt (by simp)) hb
  have hs := hB.size
  replace hB : Below w.heap.size w w6 := below_trans (by go_grown) hb
  clear hs
  clear kP0 kP1 kP2 kD0 kD1 kD2 zP zD
  have hszw6 := hb.size
  (try simp at hszw6)
  clear hb
  have kP0 := P.cell 0
  have kP1 := P.cell 1
  have kP2 := P.cell 2
  have kD0 := D.cell 0
  have kD1 := D.cell 1
  have kD2 := D.cell 2
  have kE0 := E.cell 0
  have kE1 := E.cell 1
  have kE2 := E.cell 2
  simp only [List.getElem?_toArray, List.getElem?_cons_zero, List.getElem?_cons_succ] at kP0 kP1 kP2 kD0 kD1 kD2 kE0 kE1 kE2
  have zP := P.lt
  have zD := D.lt
  have zE := E.lt
  go_wp2_with fail
  refine (HCK.out _).mono ?_
  rintro e w7 ⟨rfl, hb⟩
  replace P : Blk w7 (w.heap.size) 23 #[.int .i64 L, .int .i64 X, .int .i64 Y] := Blk.thru0 ((P).alloc _) hb
  replace D : Blk w7 (w3.heap.size) 23 #[.int .i64 L, .int .i64 (f1 L n), .int .i64 (f2 L n)] := Blk.thru0 ((D).alloc _) hb
  replace E : Blk w7 (w5.heap.size) 23 #[.int .i64 L, .int .i64 X, .int .i64 Y] := Blk.thru0 ((E).alloc _) hb
  have K : Blk w7 (w6.heap.size) 23 #[.int .i64 (c0 L X Y i), .int .i64 (c1 L X Y i), .int .i64 (c2 L X Y i)] := Blk.thru0 (Blk.newAt (by simp)) hb
  have hs := hB.size
  replace hB : Below w.heap.size w w7 := below_trans (by go_grown) hb
  clear hs
  clear kP0 kP1 kP2 kD0 kD1 kD2 kE0 kE1 kE2 zP zD zE
  have hszw7 := hb.size
  (try simp at hszw7)
  clear hb
  have kP0 := P.cell 0
  have kP1 := P.cell 1
  have kP2 := P.cell 2
  have kD0 := D.cell 0
  have kD1 := D.cell 1
  have kD2 := D.cell 2
  have kE0 := E.cell 0
  have kE1 := E.cell 1
  have kE2 := E.cell 2
  have kK0 := K.cell 0
  have kK1 := K.cell 1
  have kK2 := K.cell 2
  simp only [List.getElem?_toArray, List.getElem?_cons_zero, List.getElem?_cons_succ] at kP0 kP1 kP2 kD0 kD1 kD2 kE0 kE1 kE2 kK0 kK1 kK2
  have zP := P.lt
  have zD := D.lt
  have zE := E.lt
  have zK := K.lt
  go_wp2_with fail
  refine (known_any _).mono ?_
  rintro e w8 ⟨rfl, hb⟩
  replace P : Blk w8 (w.heap.size) 23 #[.int .i64 L, .int .i64 X, .int .i64 Y] := Blk.thru0 (P) hb
  replace D : Blk w8 (w3.heap.size) 23 #[.int .i64 L, .int .i64 (f1 L n), .int .i64 (f2 L n)] := Blk.thru0 (D) hb
  replace E : Blk w8 (w5.heap.size) 23 #[.int .i64 L, .int .i64 X, .int .i64 Y] := Blk.thru0 (E) hb
  replace K : Blk w8 (w6.heap.size) 23 #[.int .i64 (c0 L X Y i), .int .i64 (c1 L X Y i), .int .i64 (c2 L X Y i)] := Blk.thru0 (K) hb
  have hs := hB.size
  replace hB : Below w.heap.size w w8 := below_trans (by go_grown) hb
  clear hs
  clear kP0 kP1 kP2 kD0 kD1 kD2 kE0 kE1 kE2 kK0 kK1 kK2 zP zD zE zK
  have hszw8 := hb.size
  (try simp at hszw8)
  clear hb
  have kP0 := P.cell 0
  have kP1 := P.cell 1
  have kP2 := P.cell 2
  have kD0 := D.cell 0
  have kD1 := D.cell 1
  have kD2 := D.cell 2
  have kE0 := E.cell 0
  have kE1 := E.cell 1
  have kE2 := E.cell 2
  have kK0 := K.cell 0
  have kK1 := K.cell 1
  have kK2 := K.cell 2
  simp only [List.getElem?_toArray, List.getElem?_cons_zero, List.getElem?_cons_succ] at kP0 kP1 kP2 kD0 kD1 kD2 kE0 kE1 kE2 kK0 kK1 kK2
  have zP := P.lt
  have zD := D.lt
  have zE := E.lt
  have zK := K.lt
  go_wp2
  go_ret
  exact ⟨rfl, by first | exact hB | go_grown⟩
set_option maxHeartbeats 2000000 in
theorem walk_y10 (L X Y i n : Int) (w : World) (hn0 : 0 ≤ n) (hn1 : n ≤ 18446744073709551615) (hF : okF L n = true) (hC : okC L X Y = true) (hK : okK L X Y i = false) :
    Calls Try.prog 11 #[.agg #[.int .i64 L, .int .i64 X, .int .i64 Y], .int .i64 i, .int .u64 n] w fun e w' => e = .returned (.bool true) ∧ Below w.heap.size w w' := by
  have hfr : ∀ w : World, Calls Try.prog 39 #[.int .i64 L, .int .u64 n] w fun e w' => e = .returned (.tuple #[.agg #[.int .i64 L, .int .i64 (f1 L n), .int .i64 (f2 L n)], .bool true]) ∧ Below w.heap.size w w' := by
    intro w; have := from_u L n hn0 w; rw [hF, (code_of L n hn0 hF).2.2] at this; exact this
  have HFR := Lib.hid hfr; clear hfr
  have hco : ∀ w : World, Calls Try.prog 37 #[.agg #[.int .i64 L, .int .i64 (f1 L n), .int .i64 (f2 L n)]] w fun e w' => e = .returned (.tuple #[.int .u64 n, .bool true]) ∧ Below w.heap.size w w' := by
    intro w; obtain ⟨q0, q1, _⟩ := code_of L n hn0 hF; have q2 := (code_of L n hn0 hF).2.2; rw [q2] at q0 q1; have := code_u L (f1 L n) (f2 L n) w; rw [q0, q1] at this; exact this
  have HCO := Lib.hid hco; clear hco
  clear hF
  have hbk : ∀ w : World, Calls Try.prog 39 #[.int .i64 L, .int .u64 (codU L X Y)] w fun e w' => e = .returned (.tuple #[.agg #[.int .i64 L, .int .i64 X, .int .i64 Y], .bool true]) ∧ Below w.heap.size w w' := by
    intro w; obtain ⟨q0, q1, q2, q3⟩ := code_back L X Y hC; have := from_u L (codU L X Y) (codU_bd L X Y hC).1 w; rw [q0, q1, q2, q3] at this; exact this
  have HBK := Lib.hid hbk; clear hbk
  have hcb := codU_bd L X Y hC
  obtain ⟨hcb0, hcb1⟩ := hcb
  go_enter Try.func11, Try.ntmps11
  go_wp2_with fail
  refine (code_u L X Y _).mono ?_
  rintro e w1 ⟨rfl, hb⟩
  have P : Blk w1 (w.heap.size) 23 #[.int .i64 L, .int .i64 X, .int .i64 Y] := Blk.thru0 (Blk.newAt (by simp)) hb
  have hB : Below w.heap.size w w1 := below_trans (by go_grown) hb
  have hszw1 := hb.size
  (try simp at hszw1)
  clear hb
  have kP0 := P.cell 0
  have kP1 := P.cell 1
  have kP2 := P.cell 2
  simp only [List.getElem?_toArray, List.getElem?_cons_zero, List.getElem?_cons_succ] at kP0 kP1 kP2
  have zP := P.lt
  go_wp2_with fail
  refine (rcode_u L X Y _).mono ?_
  rintro e w2 ⟨rfl, hb⟩
  replace P : Blk w2 (w.heap.size) 23 #[.int .i64 L, .int .i64 X, .int .i64 Y] := Blk.thru0 (P) hb
  have hs := hB.size
  replace hB : Below w.heap.size w w2 := below_trans (by go_grown) hb
  clear hs
  clear kP0 kP1 kP2 zP
  have hszw2 := hb.size
  (try simp at hszw2)
  clear hb
  have kP0 := P.cell 0
  have kP1 := P.cell 1
  have kP2 := P.cell 2
  simp only [List.getElem?_toArray, List.getElem?_cons_zero, List.getElem?_cons_succ] at kP0 kP1 kP2
  have zP := P.lt
  go_wp2_with fail
  refine (HFR.out _).mono ?_
  rintro e w3 ⟨rfl, hb⟩
  replace P : Blk w3 (w.heap.size) 23 #[.int .i64 L, .int .i64 X, .int .i64 Y] := Blk.thru0 (P) hb
  have hs := hB.size
  replace hB : Below w.heap.size w w3 := below_trans (by go_grown) hb
  clear hs
  clear kP0 kP1 kP2 zP
  have hszw3 := hb.size
  (try simp at hszw3)
  clear hb
  have kP0 := P.cell 0
  have kP1 := P.cell 1
  have kP2 := P.cell 2
  simp only [List.getElem?_toArray, List.getElem?_cons_zero, List.getElem?_cons_succ] at kP0 kP1 kP2
  have zP := P.lt
  go_wp2_with fail
  refine (HCO.out _).mono ?_
  rintro e w4 ⟨rfl, hb⟩
  replace P : Blk w4 (w.heap.size) 23 #[.int .i64 L, .int .i64 X, .int .i64 Y] := Blk.thru0 ((P).alloc _) hb
  have D : Blk w4 (w3.heap.size) 23 #[.int .i64 L, .int .i64 (f1 L n), .int .i64 (f2 L n)] := Blk.thru0 (Blk.newAt (by simp)) hb
  have hs := hB.size
  replace hB : Below w.heap.size w w4 := below_trans (by go_grown) hb
  clear hs
  clear kP0 kP1 kP2 zP
  have hszw4 := hb.size
  (try simp at hszw4)
  clear hb
  have kP0 := P.cell 0
  have kP1 := P.cell 1
  have kP2 := P.cell 2
  have kD0 := D.cell 0
  have kD1 := D.cell 1
  have kD2 := D.cell 2
  simp only [List.getElem?_toArray, List.getElem?_cons_zero, List.getElem?_cons_succ] at kP0 kP1 kP2 kD0 kD1 kD2
  have zP := P.lt
  have zD := D.lt
  go_wp2_with fail
  refine (HBK.out _).mono ?_
  rintro e w5 ⟨rfl, hb⟩
  replace P : Blk w5 (w.heap.size) 23 #[.int .i64 L, .int .i64 X, .int .i64 Y] := Blk.thru0 (P) hb
  replace D : Blk w5 (w3.heap.size) 23 #[.int .i64 L, .int .i64 (f1 L n), .int .i64 (f2 L n)] := Blk.thru0 (D) hb
  have hs := hB.size
  replace hB : Below w.heap.size w w5 := below_trans (by go_grown) hb
  clear hs
  clear kP0 kP1 kP2 kD0 kD1 kD2 zP zD
  have hszw5 := hb.size
  (try simp at hszw5)
  clear hb
  have kP0 := P.cell 0
  have kP1 := P.cell 1
  have kP2 := P.cell 2
  have kD0 := D.cell 0
  have kD1 := D.cell 1
  have kD2 := D.cell 2
  simp only [List.getElem?_toArray, List.getElem?_cons_zero, List.getElem?_cons_succ] at kP0 kP1 kP2 kD0 kD1 kD2
  have zP := P.lt
  have zD := D.lt
  go_wp2_with fail
  refine (cchild_u L X Y i _).mono ?_
  rintro e w6 ⟨rfl, hb⟩
  replace P : Blk w6 (w.heap.size) 23 #[.int .i64 L, .int .i64 X, .int .i64 Y] := Blk.thru0 ((P).alloc _) hb
  replace D : Blk w6 (w3.heap.size) 23 #[.int .i64 L, .int .i64 (f1 L n), .int .i64 (f2 L n)] := Blk.thru0 ((D).alloc _) hb
  have E : Blk w6 (w5.heap.size) 23 #[.int .i64 L, .int .i64 X, .int .i64 Y] := Blk.thru0 (Blk.newAt (by simp)) hb
  have hs := hB.size
  replace hB : Below w.heap.size w w6 := below_trans (by go_grown) hb
  clear hs
  clear kP0 kP1 kP2 kD0 kD1 kD2 zP zD
  have hszw6 := hb.size
  (try simp at hszw6)
  clear hb
  have kP0 := P.cell 0
  have kP1 := P.cell 1
  have kP2 := P.cell 2
  have kD0 := D.cell 0
  have kD1 := D.cell 1
  have kD2 := D.cell 2
  have kE0 := E.cell 0
  have kE1 := E.cell 1
  have kE2 := E.cell 2
  simp only [List.getElem?_toArray, List.getElem?_cons_zero, List.getElem?_cons_succ] at kP0 kP1 kP2 kD0 kD1 kD2 kE0 kE1 kE2
  have zP := P.lt
  have zD := D.lt
  have zE := E.lt
  go_wp2_with fail
  refine (known_any _).mono ?_
  rintro e w7 ⟨rfl, hb⟩
  replace P : Blk w7 (w.heap.size) 23 #[.int .i64 L, .int .i64 X, .int .i64 Y] := Blk.thru0 ((P).alloc _) hb
  replace D : Blk w7 (w3.heap.size) 23 #[.int .i64 L, .int .i64 (f1 L n), .int .i64 (f2 L n)] := Blk.thru0 ((D).alloc _) hb
  replace E : Blk w7 (w5.heap.size) 23 #[.int .i64 L, .int .i64 X, .int .i64 Y] := Blk.thru0 ((E).alloc _) hb
  have K : Blk w7 (w6.heap.size) 23 #[.int .i64 (c0 L X Y i), .int .i64 (c1 L X Y i), .int .i64 (c2 L X Y i)] := Blk.thru0 (Blk.newAt (by simp)) hb
  have hs := hB.size
  replace hB : Below w.heap.size w w7 := below_trans (by go_grown) hb
  clear hs
  clear kP0 kP1 kP2 kD0 kD1 kD2 kE0 kE1 kE2 zP zD zE
  have hszw7 := hb.size
  (try simp at hszw7)
  clear hb
  have kP0 := P.cell 0
  have kP1 := P.cell 1
  have kP2 := P.cell 2
  have kD0 := D.cell 0
  have kD1 := D.cell 1
  have kD2 := D.cell 2
  have kE0 := E.cell 0
  have kE1 := E.cell 1
  have kE2 := E.cell 2
  have kK0 := K.cell 0
  have kK1 := K.cell 1
  have kK2 := K.cell 2
  simp only [List.getElem?_toArray, List.getElem?_cons_zero, List.getElem?_cons_succ] at kP0 kP1 kP2 kD0 kD1 kD2 kE0 kE1 kE2 kK0 kK1 kK2
  have zP := P.lt
  have zD := D.lt
  have zE := E.lt
  have zK := K.lt
  go_wp2
  go_ret
  exact ⟨rfl, by first | exact hB | go_grown⟩
set_option maxHeartbeats 2000000 in
theorem walk_y00 (L X Y i n : Int) (w : World) (hn0 : 0 ≤ n) (hn1 : n ≤ 18446744073709551615) (hF : okF L n = true) (hC : okC L X Y = false) :
    Calls Try.prog 11 #[.agg #[.int .i64 L, .int .i64 X, .int .i64 Y], .int .i64 i, .int .u64 n] w fun e w' => e = .returned (.bool true) ∧ Below w.heap.size w w' := by
  have hfr : ∀ w : World, Calls Try.prog 39 #[.int .i64 L, .int .u64 n] w fun e w' => e = .returned (.tuple #[.agg #[.int .i64 L, .int .i64 (f1 L n), .int .i64 (f2 L n)], .bool true]) ∧ Below w.heap.size w w' := by
    intro w; have := from_u L n hn0 w; rw [hF, (code_of L n hn0 hF).2.2] at this; exact this
  have HFR := Lib.hid hfr; clear hfr
  have hco : ∀ w : World, Calls Try.prog 37 #[.agg #[.int .i64 L, .int .i64 (f1 L n), .int .i64 (f2 L n)]] w fun e w' => e = .returned (.tuple #[.int .u64 n, .bool true]) ∧ Below w.heap.size w w' := by
    intro w; obtain ⟨q0, q1, _⟩ := code_of L n hn0 hF; have q2 := (code_of L n hn0 hF).2.2; rw [q2] at q0 q1; have := code_u L (f1 L n) (f2 L n) w; rw [q0, q1] at this; exact this
  have HCO := Lib.hid hco; clear hco
  clear hF
  go_enter Try.func11, Try.ntmps11
  go_wp2_with fail
  refine (code_u L X Y _).mono ?_
  rintro e w1 ⟨rfl, hb⟩
  have P : Blk w1 (w.heap.size) 23 #[.int .i64 L, .int .i64 X, .int .i64 Y] := Blk.thru0 (Blk.newAt (by simp)) hb
  have hB : Below w.heap.size w w1 := below_trans (by go_grown) hb
  have hszw1 := hb.size
  (try simp at hszw1)
  clear hb
  have kP0 := P.cell 0
  have kP1 := P.cell 1
  have kP2 := P.cell 2
  simp only [List.getElem?_toArray, List.getElem?_cons_zero, List.getElem?_cons_succ] at kP0 kP1 kP2
  have zP := P.lt
  go_wp2_with fail
  refine (rcode_u L X Y _).mono ?_
  rintro e w2 ⟨rfl, hb⟩
  replace P : Blk w2 (w.heap.size) 23 #[.int .i64 L, .int .i64 X, .int .i64 Y] := Blk.thru0 (P) hb
  have hs := hB.size
  replace hB : Below w.heap.size w w2 := below_trans (by go_grown) hb
  clear hs
  clear kP0 kP1 kP2 zP
  have hszw2 := hb.size
  (try simp at hszw2)
  clear hb
  have kP0 := P.cell 0
  have kP1 := P.cell 1
  have kP2 := P.cell 2
  simp only [List.getElem?_toArray, List.getElem?_cons_zero, List.getElem?_cons_succ] at kP0 kP1 kP2
  have zP := P.lt
  go_wp2_with fail
  refine (HFR.out _).mono ?_
  rintro e w3 ⟨rfl, hb⟩
  replace P : Blk w3 (w.heap.size) 23 #[.int .i64 L, .int .i64 X, .int .i64 Y] := Blk.thru0 (P) hb
  have hs := hB.size
  replace hB : Below w.heap.size w w3 := below_trans (by go_grown) hb
  clear hs
  clear kP0 kP1 kP2 zP
  have hszw3 := hb.size
  (try simp at hszw3)
  clear hb
  have kP0 := P.cell 0
  have kP1 := P.cell 1
  have kP2 := P.cell 2
  simp only [List.getElem?_toArray, List.getElem?_cons_zero, List.getElem?_cons_succ] at kP0 kP1 kP2
  have zP := P.lt
  go_wp2_with fail
  refine (HCO.out _).mono ?_
  rintro e w4 ⟨rfl, hb⟩
  replace P : Blk w4 (w.heap.size) 23 #[.int .i64 L, .int .i64 X, .int .i64 Y] := Blk.thru0 ((P).alloc _) hb
  have D : Blk w4 (w3.heap.size) 23 #[.int .i64 L, .int .i64 (f1 L n), .int .i64 (f2 L n)] := Blk.thru0 (Blk.newAt (by simp)) hb
  have hs := hB.size
  replace hB : Below w.heap.size w w4 := below_trans (by go_grown) hb
  clear hs
  clear kP0 kP1 kP2 zP
  have hszw4 := hb.size
  (try simp at hszw4)
  clear hb
  have kP0 := P.cell 0
  have kP1 := P.cell 1
  have kP2 := P.cell 2
  have kD0 := D.cell 0
  have kD1 := D.cell 1
  have kD2 := D.cell 2
  simp only [List.getElem?_toArray, List.getElem?_cons_zero, List.getElem?_cons_succ] at kP0 kP1 kP2 kD0 kD1 kD2
  have zP := P.lt
  have zD := D.lt
  go_wp2_with fail
  refine (known_any _).mono ?_
  rintro e w5 ⟨rfl, hb⟩
  replace P : Blk w5 (w.heap.size) 23 #[.int .i64 L, .int .i64 X, .int .i64 Y] := Blk.thru0 (P) hb
  replace D : Blk w5 (w3.heap.size) 23 #[.int .i64 L, .int .i64 (f1 L n), .int .i64 (f2 L n)] := Blk.thru0 (D) hb
  have hs := hB.size
  replace hB : Below w.heap.size w w5 := below_trans (by go_grown) hb
  clear hs
  clear kP0 kP1 kP2 kD0 kD1 kD2 zP zD
  have hszw5 := hb.size
  (try simp at hszw5)
  clear hb
  have kP0 := P.cell 0
  have kP1 := P.cell 1
  have kP2 := P.cell 2
  have kD0 := D.cell 0
  have kD1 := D.cell 1
  have kD2 := D.cell 2
  simp only [List.getElem?_toArray, List.getElem?_cons_zero, List.getElem?_cons_succ] at kP0 kP1 kP2 kD0 kD1 kD2
  have zP := P.lt
  have zD := D.lt
  go_wp2
  go_ret
  exact ⟨rfl, by first | exact hB | go_grown⟩
set_option maxHeartbeats 2000000 in
theorem walk_n11 (L X Y i n : Int) (w : World) (hn0 : 0 ≤ n) (hn1 : n ≤ 18446744073709551615) (hF : okF L n = false) (hV : levB L = true) (hC : okC L X Y = true) (hK : okK L X Y i = true) :
    Calls Try.prog 11 #[.agg #[.int .i64 L, .int .i64 X, .int .i64 Y], .int .i64 i, .int .u64 n] w fun e w' => e = .returned (.bool true) ∧ Below w.heap.size w w' := by
  have hlv : levB L = true := hV
  obtain ⟨l, hl, rfl⟩ := lev L ((levB_iff _).1 hV).1 ((levB_iff _).1 hV).2
  have htw := fun w => two_any l hl w
  have hp1 := pow_le16 l hl
  have hp0 := pow_pos' l
  have hc9 : ¬ n < 2 ^ l * 2 ^ l := by
    have h9 : okF (l : Int) n = false := hF
    rw [okF, hV, Bool.true_and, decide_eq_false_iff_not] at h9
    simp only [Int.toNat_natCast] at h9
    have e : (2 : Int) ^ l * 2 ^ l = ((4 ^ l : Nat) : Int) := by rw [← Int.mul_pow]; push_cast; rfl
    rw [e]; omega
  generalize (2 : Int) ^ l = p at htw hp0 hp1 hc9
  have hpp : 0 ≤ p * p ∧ p * p ≤ 4294967296 := ⟨Int.mul_nonneg (by omega) (by omega), by have := Int.mul_le_mul hp1 hp1 (by omega) (by omega); omega⟩
  obtain ⟨hpp0, hpp1⟩ := hpp
  have hd9 : decide (n < p * p) = false := decide_eq_false hc9
  have hw9 : IntKind.u64.wrap p = p ∧ IntKind.u64.wrap (p * p) = p * p := ⟨by rw [IntKind.wrap_u64]; omega, by rw [IntKind.wrap_u64]; omega⟩
  have HTW := Lib.hid htw; have HC9 := Lib.hid (And.intro hd9 hw9); clear htw hc9 hd9 hw9
  have hfr : ∀ w : World, Calls Try.prog 39 #[.int .i64 (l : Int), .int .u64 n] w fun e w' => e = .returned (.tuple #[.agg #[.int .i64 0, .int .i64 0, .int .i64 0], .bool false]) ∧ Below w.heap.size w w' := by
    intro w; have := from_u (l : Int) n hn0 w; rw [f0, f1, f2, hF] at this; simpa using this
  have HFR := Lib.hid hfr; clear hfr
  clear hF
  have hbk : ∀ w : World, Calls Try.prog 39 #[.int .i64 (l : Int), .int .u64 (codU (l : Int) X Y)] w fun e w' => e = .returned (.tuple #[.agg #[.int .i64 (l : Int), .int .i64 X, .int .i64 Y], .bool true]) ∧ Below w.heap.size w w' := by
    intro w; obtain ⟨q0, q1, q2, q3⟩ := code_back (l : Int) X Y hC; have := from_u (l : Int) (codU (l : Int) X Y) (codU_bd (l : Int) X Y hC).1 w; rw [q0, q1, q2, q3] at this; exact this
  have HBK := Lib.hid hbk; clear hbk
  have hcb := codU_bd (l : Int) X Y hC
  obtain ⟨hcb0, hcb1⟩ := hcb
  have hck : ∀ w : World, Calls Try.prog 37 #[.agg #[.int .i64 (c0 (l : Int) X Y i), .int .i64 (c1 (l : Int) X Y i), .int .i64 (c2 (l : Int) X Y i)]] w fun e w' => e = .returned (.tuple #[.int .u64 (4 * codU (l : Int) X Y + i), .bool true]) ∧ Below w.heap.size w w' := by
    intro w; obtain ⟨q0, q1⟩ := code_child (l : Int) X Y i hK; have := code_u (c0 (l : Int) X Y i) (c1 (l : Int) X Y i) (c2 (l : Int) X Y i) w; rw [q0, q1] at this; exact this
  have HCK := Lib.hid hck; clear hck
  have hi03 : 0 ≤ i ∧ i ≤ 3 := by rw [okK, Bool.and_eq_true, decide_eq_true_eq] at hK; omega
  obtain ⟨hi0, hi3⟩ := hi03
  go_enter Try.func11, Try.ntmps11
  go_wp2_with fail
  refine (code_u (l : Int) X Y _).mono ?_
  rintro e w1 ⟨rfl, hb⟩
  have P : Blk w1 (w.heap.size) 23 #[.int .i64 (l : Int), .int .i64 X, .int .i64 Y] := Blk.thru0 (Blk.newAt (by simp)) hb
  have hB : Below w.heap.size w w1 := below_trans (by go_grown) hb
  have hszw1 := hb.size
  (try simp at hszw1)
  clear hb
  have kP0 := P.cell 0
  have kP1 := P.cell 1
  have kP2 := P.cell 2
  simp only [List.getElem?_toArray, List.getElem?_cons_zero, List.getElem?_cons_succ] at kP0 kP1 kP2
  have zP := P.lt
  go_wp2_with fail
  refine (rcode_u (l : Int) X Y _).mono ?_
  rintro e w2 ⟨rfl, hb⟩
  replace P : Blk w2 (w.heap.size) 23 #[.int .i64 (l : Int), .int .i64 X, .int .i64 Y] := Blk.thru0 (P) hb
  have hs := hB.size
  replace hB : Below w.heap.size w w2 := below_trans (by go_grown) hb
  clear hs
  clear kP0 kP1 kP2 zP
  have hszw2 := hb.size
  (try simp at hszw2)
  clear hb
  have kP0 := P.cell 0
  have kP1 := P.cell 1
  have kP2 := P.cell 2
  simp only [List.getElem?_toArray, List.getElem?_cons_zero, List.getElem?_cons_succ] at kP0 kP1 kP2
  have zP := P.lt
  go_wp2_with fail
  refine (HFR.out _).mono ?_
  rintro e w3 ⟨rfl, hb⟩
  replace P : Blk w3 (w.heap.size) 23 #[.int .i64 (l : Int), .int .i64 X, .int .i64 Y] := Blk.thru0 (P) hb
  have hs := hB.size
  replace hB : Below w.heap.size w w3 := below_trans (by go_grown) hb
  clear hs
  clear kP0 kP1 kP2 zP
  have hszw3 := hb.size
  (try simp at hszw3)
  clear hb
  have kP0 := P.cell 0
  have kP1 := P.cell 1
  have kP2 := P.cell 2
  simp only [List.getElem?_toArray, List.getElem?_cons_zero, List.getElem?_cons_succ] at kP0 kP1 kP2
  have zP := P.lt
  go_wp2_with fail
  have hs := hB.size
  have hB9 : Below w.heap.size w (w3.alloc (.cells #[.int .i64 0, .int .i64 0, .int .i64 0] 23)) := by go_grown
  have P9 : Blk (w3.alloc (.cells #[.int .i64 0, .int .i64 0, .int .i64 0] 23)) (w.heap.size) 23 #[.int .i64 (l : Int), .int .i64 X, .int .i64 Y] := (P).alloc _
  have D9 : Blk (w3.alloc (.cells #[.int .i64 0, .int .i64 0, .int .i64 0] 23)) (w3.heap.size) 23 #[.int .i64 0, .int .i64 0, .int .i64 0] := Blk.newAt (by simp)
  generalize w3.alloc (.cells #[.int .i64 0, .int .i64 0, .int .i64 0] 23) = W9 at hB9 P9 D9 ⊢
  clear kP0 kP1 kP2 zP
  clear hs hB P
  have hB := hB9
  clear hB9
  have P := P9
  clear P9
  have D := D9
  clear D9
  have kP0 := P.cell 0
  have kP1 := P.cell 1
  have kP2 := P.cell 2
  have kD0 := D.cell 0
  have kD1 := D.cell 1
  have kD2 := D.cell 2
  simp only [List.getElem?_toArray, List.getElem?_cons_zero, List.getElem?_cons_succ] at kP0 kP1 kP2 kD0 kD1 kD2
  have zP := P.lt
  have zD := D.lt
  obtain ⟨hc9, hw9, hw8⟩ := HC9.out
  go_quiet ((first | (go_at_call 40; exact Calls.quiet_of_same ((rlevel_any _ _).mono fun _ _ h => ⟨h.1, h.2.symm⟩)) | (go_at_call 41; exact Calls.quiet_of_same (HTW.out _))))
  replace hB := below_drawn hB nq
  replace P := P.drewN nq
  generalize W9.drewN nq = W8 at hB P ⊢
  clear D kP0 kP1 kP2 kD0 kD1 kD2 zP zD
  have kP0 := P.cell 0
  have kP1 := P.cell 1
  have kP2 := P.cell 2
  simp only [List.getElem?_toArray, List.getElem?_cons_zero, List.getElem?_cons_succ] at kP0 kP1 kP2
  have zP := P.lt
  go_wp2_with fail
  refine (HBK.out _).mono ?_
  rintro e w4 ⟨rfl, hb⟩
  replace P : Blk w4 (w.heap.size) 23 #[.int .i64 (l : Int), .int .i64 X, .int .i64 Y] := Blk.thru0 (P) hb
  have hs := hB.size
  replace hB : Below w.heap.size w w4 := below_trans (by go_grown) hb
  clear hs
  clear kP0 kP1 kP2 zP
  have hszw4 := hb.size
  (try simp at hszw4)
  clear hb
  have kP0 := P.cell 0
  have kP1 := P.cell 1
  have kP2 := P.cell 2
  simp only [List.getElem?_toArray, List.getElem?_cons_zero, List.getElem?_cons_succ] at kP0 kP1 kP2
  have zP := P.lt
  go_wp2_with fail
  refine (cchild_u (l : Int) X Y i _).mono ?_
  rintro e w5 ⟨rfl, hb⟩
  replace P : Blk w5 (w.heap.size) 23 #[.int .i64 (l : Int), .int .i64 X, .int .i64 Y] := Blk.thru0 ((P).alloc _) hb
  have E : Blk w5 (w4.heap.size) 23 #[.int .i64 (l : Int), .int .i64 X, .int .i64 Y] := Blk.thru0 (Blk.newAt (by simp)) hb
  have hs := hB.size
  replace hB : Below w.heap.size w w5 := below_trans (by go_grown) hb
  clear hs
  clear kP0 kP1 kP2 zP
  have hszw5 := hb.size
  (try simp at hszw5)
  clear hb
  have kP0 := P.cell 0
  have kP1 := P.cell 1
  have kP2 := P.cell 2
  have kE0 := E.cell 0
  have kE1 := E.cell 1
  have kE2 := E.cell 2
  simp only [List.getElem?_toArray, List.getElem?_cons_zero, List.getElem?_cons_succ] at kP0 kP1 kP2 kE0 kE1 kE2
  have zP := P.lt
  have zE := E.lt
  go_wp2_with fail
  refine (HCK.out _).mono ?_
  rintro e w6 ⟨rfl, hb⟩
  replace P : Blk w6 (w.heap.size) 23 #[.int .i64 (l : Int), .int .i64 X, .int .i64 Y] := Blk.thru0 ((P).alloc _) hb
  replace E : Blk w6 (w4.heap.size) 23 #[.int .i64 (l : Int), .int .i64 X, .int .i64 Y] := Blk.thru0 ((E).alloc _) hb
  have K : Blk w6 (w5.heap.size) 23 #[.int .i64 (c0 (l : Int) X Y i), .int .i64 (c1 (l : Int) X Y i), .int .i64 (c2 (l : Int) X Y i)] := Blk.thru0 (Blk.newAt (by simp)) hb
  have hs := hB.size
  replace hB : Below w.heap.size w w6 := below_trans (by go_grown) hb
  clear hs
  clear kP0 kP1 kP2 kE0 kE1 kE2 zP zE
  have hszw6 := hb.size
  (try simp at hszw6)
  clear hb
  have kP0 := P.cell 0
  have kP1 := P.cell 1
  have kP2 := P.cell 2
  have kE0 := E.cell 0
  have kE1 := E.cell 1
  have kE2 := E.cell 2
  have kK0 := K.cell 0
  have kK1 := K.cell 1
  have kK2 := K.cell 2
  simp only [List.getElem?_toArray, List.getElem?_cons_zero, List.getElem?_cons_succ] at kP0 kP1 kP2 kE0 kE1 kE2 kK0 kK1 kK2
  have zP := P.lt
  have zE := E.lt
  have zK := K.lt
  go_wp2_with fail
  refine (known_any _).mono ?_
  rintro e w7 ⟨rfl, hb⟩
  replace P : Blk w7 (w.heap.size) 23 #[.int .i64 (l : Int), .int .i64 X, .int .i64 Y] := Blk.thru0 (P) hb
  replace E : Blk w7 (w4.heap.size) 23 #[.int .i64 (l : Int), .int .i64 X, .int .i64 Y] := Blk.thru0 (E) hb
  replace K : Blk w7 (w5.heap.size) 23 #[.int .i64 (c0 (l : Int) X Y i), .int .i64 (c1 (l : Int) X Y i), .int .i64 (c2 (l : Int) X Y i)] := Blk.thru0 (K) hb
  have hs := hB.size
  replace hB : Below w.heap.size w w7 := below_trans (by go_grown) hb
  clear hs
  clear kP0 kP1 kP2 kE0 kE1 kE2 kK0 kK1 kK2 zP zE zK
  have hszw7 := hb.size
  (try simp at hszw7)
  clear hb
  have kP0 := P.cell 0
  have kP1 := P.cell 1
  have kP2 := P.cell 2
  have kE0 := E.cell 0
  have kE1 := E.cell 1
  have kE2 := E.cell 2
  have kK0 := K.cell 0
  have kK1 := K.cell 1
  have kK2 := K.cell 2
  simp only [List.getElem?_toArray, List.getElem?_cons_zero, List.getElem?_cons_succ] at kP0 kP1 kP2 kE0 kE1 kE2 kK0 kK1 kK2
  have zP := P.lt
  have zE := E.lt
  have zK := K.lt
  go_wp2
  go_ret
  exact ⟨rfl, by first | exact hB | go_grown⟩
set_option maxHeartbeats 2000000 in
theorem walk_n10 (L X Y i n : Int) (w : World) (hn0 : 0 ≤ n) (hn1 : n ≤ 18446744073709551615) (hF : okF L n = false) (hV : levB L = true) (hC : okC L X Y = true) (hK : okK L X Y i = false) :
    Calls Try.prog 11 #[.agg #[.int .i64 L, .int .i64 X, .int .i64 Y], .int .i64 i, .int .u64 n] w fun e w' => e = .returned (.bool true) ∧ Below w.heap.size w w' := by
  have hlv : levB L = true := hV
  obtain ⟨l, hl, rfl⟩ := lev L ((levB_iff _).1 hV).1 ((levB_iff _).1 hV).2
  have htw := fun w => two_any l hl w
  have hp1 := pow_le16 l hl
  have hp0 := pow_pos' l
  have hc9 : ¬ n < 2 ^ l * 2 ^ l := by
    have h9 : okF (l : Int) n = false := hF
    rw [okF, hV, Bool.true_and, decide_eq_false_iff_not] at h9
    simp only [Int.toNat_natCast] at h9
    have e : (2 : Int) ^ l * 2 ^ l = ((4 ^ l : Nat) : Int) := by rw [← Int.mul_pow]; push_cast; rfl
    rw [e]; omega
  generalize (2 : Int) ^ l = p at htw hp0 hp1 hc9
  have hpp : 0 ≤ p * p ∧ p * p ≤ 4294967296 := ⟨Int.mul_nonneg (by omega) (by omega), by have := Int.mul_le_mul hp1 hp1 (by omega) (by omega); omega⟩
  obtain ⟨hpp0, hpp1⟩ := hpp
  have hd9 : decide (n < p * p) = false := decide_eq_false hc9
  have hw9 : IntKind.u64.wrap p = p ∧ IntKind.u64.wrap (p * p) = p * p := ⟨by rw [IntKind.wrap_u64]; omega, by rw [IntKind.wrap_u64]; omega⟩
  have HTW := Lib.hid htw; have HC9 := Lib.hid (And.intro hd9 hw9); clear htw hc9 hd9 hw9
  have hfr : ∀ w : World, Calls Try.prog 39 #[.int .i64 (l : Int), .int .u64 n] w fun e w' => e = .returned (.tuple #[.agg #[.int .i64 0, .int .i64 0, .int .i64 0], .bool false]) ∧ Below w.heap.size w w' := by
    intro w; have := from_u (l : Int) n hn0 w; rw [f0, f1, f2, hF] at this; simpa using this
  have HFR := Lib.hid hfr; clear hfr
  clear hF
  have hbk : ∀ w : World, Calls Try.prog 39 #[.int .i64 (l : Int), .int .u64 (codU (l : Int) X Y)] w fun e w' => e = .returned (.tuple #[.agg #[.int .i64 (l : Int), .int .i64 X, .int .i64 Y], .bool true]) ∧ Below w.heap.size w w' := by
    intro w; obtain ⟨q0, q1, q2, q3⟩ := code_back (l : Int) X Y hC; have := from_u (l : Int) (codU (l : Int) X Y) (codU_bd (l : Int) X Y hC).1 w; rw [q0, q1, q2, q3] at this; exact this
  have HBK := Lib.hid hbk; clear hbk
  have hcb := codU_bd (l : Int) X Y hC
  obtain ⟨hcb0, hcb1⟩ := hcb
  go_enter Try.func11, Try.ntmps11
  go_wp2_with fail
  refine (code_u (l : Int) X Y _).mono ?_
  rintro e w1 ⟨rfl, hb⟩
  have P : Blk w1 (w.heap.size) 23 #[.int .i64 (l : Int), .int .i64 X, .int .i64 Y] := Blk.thru0 (Blk.newAt (by simp)) hb
  have hB : Below w.heap.size w w1 := below_trans (by go_grown) hb
  have hszw1 := hb.size
  (try simp at hszw1)
  clear hb
  have kP0 := P.cell 0
  have kP1 := P.cell 1
  have kP2 := P.cell 2
  simp only [List.getElem?_toArray, List.getElem?_cons_zero, List.getElem?_cons_succ] at kP0 kP1 kP2
  have zP := P.lt
  go_wp2_with fail
  refine (rcode_u (l : Int) X Y _).mono ?_
  rintro e w2 ⟨rfl, hb⟩
  replace P : Blk w2 (w.heap.size) 23 #[.int .i64 (l : Int), .int .i64 X, .int .i64 Y] := Blk.thru0 (P) hb
  have hs := hB.size
  replace hB : Below w.heap.size w w2 := below_trans (by go_grown) hb
  clear hs
  clear kP0 kP1 kP2 zP
  have hszw2 := hb.size
  (try simp at hszw2)
  clear hb
  have kP0 := P.cell 0
  have kP1 := P.cell 1
  have kP2 := P.cell 2
  simp only [List.getElem?_toArray, List.getElem?_cons_zero, List.getElem?_cons_succ] at kP0 kP1 kP2
  have zP := P.lt
  go_wp2_with fail
  refine (HFR.out _).mono ?_
  rintro e w3 ⟨rfl, hb⟩
  replace P : Blk w3 (w.heap.size) 23 #[.int .i64 (l : Int), .int .i64 X, .int .i64 Y] := Blk.thru0 (P) hb
  have hs := hB.size
  replace hB : Below w.heap.size w w3 := below_trans (by go_grown) hb
  clear hs
  clear kP0 kP1 kP2 zP
  have hszw3 := hb.size
  (try simp at hszw3)
  clear hb
  have kP0 := P.cell 0
  have kP1 := P.cell 1
  have kP2 := P.cell 2
  simp only [List.getElem?_toArray, List.getElem?_cons_zero, List.getElem?_cons_succ] at kP0 kP1 kP2
  have zP := P.lt
  go_wp2_with fail
  have hs := hB.size
  have hB9 : Below w.heap.size w (w3.alloc (.cells #[.int .i64 0, .int .i64 0, .int .i64 0] 23)) := by go_grown
  have P9 : Blk (w3.alloc (.cells #[.int .i64 0, .int .i64 0, .int .i64 0] 23)) (w.heap.size) 23 #[.int .i64 (l : Int), .int .i64 X, .int .i64 Y] := (P).alloc _
  have D9 : Blk (w3.alloc (.cells #[.int .i64 0, .int .i64 0, .int .i64 0] 23)) (w3.heap.size) 23 #[.int .i64 0, .int .i64 0, .int .i64 0] := Blk.newAt (by simp)
  generalize w3.alloc (.cells #[.int .i64 0, .int .i64 0, .int .i64 0] 23) = W9 at hB9 P9 D9 ⊢
  clear kP0 kP1 kP2 zP
  clear hs hB P
  have hB := hB9
  clear hB9
  have P := P9
  clear P9
  have D := D9
  clear D9
  have kP0 := P.cell 0
  have kP1 := P.cell 1
  have kP2 := P.cell 2
  have kD0 := D.cell 0
  have kD1 := D.cell 1
  have kD2 := D.cell 2
  simp only [List.getElem?_toArray, List.getElem?_cons_zero, List.getElem?_cons_succ] at kP0 kP1 kP2 kD0 kD1 kD2
  have zP := P.lt
  have zD := D.lt
  obtain ⟨hc9, hw9, hw8⟩ := HC9.out
  go_quiet ((first | (go_at_call 40; exact Calls.quiet_of_same ((rlevel_any _ _).mono fun _ _ h => ⟨h.1, h.2.symm⟩)) | (go_at_call 41; exact Calls.quiet_of_same (HTW.out _))))
  replace hB := below_drawn hB nq
  replace P := P.drewN nq
  generalize W9.drewN nq = W8 at hB P ⊢
  clear D kP0 kP1 kP2 kD0 kD1 kD2 zP zD
  have kP0 := P.cell 0
  have kP1 := P.cell 1
  have kP2 := P.cell 2
  simp only [List.getElem?_toArray, List.getElem?_cons_zero, List.getElem?_cons_succ] at kP0 kP1 kP2
  have zP := P.lt
  go_wp2_with fail
  refine (HBK.out _).mono ?_
  rintro e w4 ⟨rfl, hb⟩
  replace P : Blk w4 (w.heap.size) 23 #[.int .i64 (l : Int), .int .i64 X, .int .i64 Y] := Blk.thru0 (P) hb
  have hs := hB.size
  replace hB : Below w.heap.size w w4 := below_trans (by go_grown) hb
  clear hs
  clear kP0 kP1 kP2 zP
  have hszw4 := hb.size
  (try simp at hszw4)
  clear hb
  have kP0 := P.cell 0
  have kP1 := P.cell 1
  have kP2 := P.cell 2
  simp only [List.getElem?_toArray, List.getElem?_cons_zero, List.getElem?_cons_succ] at kP0 kP1 kP2
  have zP := P.lt
  go_wp2_with fail
  refine (cchild_u (l : Int) X Y i _).mono ?_
  rintro e w5 ⟨rfl, hb⟩
  replace P : Blk w5 (w.heap.size) 23 #[.int .i64 (l : Int), .int .i64 X, .int .i64 Y] := Blk.thru0 ((P).alloc _) hb
  have E : Blk w5 (w4.heap.size) 23 #[.int .i64 (l : Int), .int .i64 X, .int .i64 Y] := Blk.thru0 (Blk.newAt (by simp)) hb
  have hs := hB.size
  replace hB : Below w.heap.size w w5 := below_trans (by go_grown) hb
  clear hs
  clear kP0 kP1 kP2 zP
  have hszw5 := hb.size
  (try simp at hszw5)
  clear hb
  have kP0 := P.cell 0
  have kP1 := P.cell 1
  have kP2 := P.cell 2
  have kE0 := E.cell 0
  have kE1 := E.cell 1
  have kE2 := E.cell 2
  simp only [List.getElem?_toArray, List.getElem?_cons_zero, List.getElem?_cons_succ] at kP0 kP1 kP2 kE0 kE1 kE2
  have zP := P.lt
  have zE := E.lt
  go_wp2_with fail
  refine (known_any _).mono ?_
  rintro e w6 ⟨rfl, hb⟩
  replace P : Blk w6 (w.heap.size) 23 #[.int .i64 (l : Int), .int .i64 X, .int .i64 Y] := Blk.thru0 ((P).alloc _) hb
  replace E : Blk w6 (w4.heap.size) 23 #[.int .i64 (l : Int), .int .i64 X, .int .i64 Y] := Blk.thru0 ((E).alloc _) hb
  have K : Blk w6 (w5.heap.size) 23 #[.int .i64 (c0 (l : Int) X Y i), .int .i64 (c1 (l : Int) X Y i), .int .i64 (c2 (l : Int) X Y i)] := Blk.thru0 (Blk.newAt (by simp)) hb
  have hs := hB.size
  replace hB : Below w.heap.size w w6 := below_trans (by go_grown) hb
  clear hs
  clear kP0 kP1 kP2 kE0 kE1 kE2 zP zE
  have hszw6 := hb.size
  (try simp at hszw6)
  clear hb
  have kP0 := P.cell 0
  have kP1 := P.cell 1
  have kP2 := P.cell 2
  have kE0 := E.cell 0
  have kE1 := E.cell 1
  have kE2 := E.cell 2
  have kK0 := K.cell 0
  have kK1 := K.cell 1
  have kK2 := K.cell 2
  simp only [List.getElem?_toArray, List.getElem?_cons_zero, List.getElem?_cons_succ] at kP0 kP1 kP2 kE0 kE1 kE2 kK0 kK1 kK2
  have zP := P.lt
  have zE := E.lt
  have zK := K.lt
  go_wp2
  go_ret
  exact ⟨rfl, by first | exact hB | go_grown⟩
set_option maxHeartbeats 2000000 in
theorem walk_n00 (L X Y i n : Int) (w : World) (hn0 : 0 ≤ n) (hn1 : n ≤ 18446744073709551615) (hF : okF L n = false) (hV : levB L = true) (hC : okC L X Y = false) :
    Calls Try.prog 11 #[.agg #[.int .i64 L, .int .i64 X, .int .i64 Y], .int .i64 i, .int .u64 n] w fun e w' => e = .returned (.bool true) ∧ Below w.heap.size w w' := by
  have hlv : levB L = true := hV
  obtain ⟨l, hl, rfl⟩ := lev L ((levB_iff _).1 hV).1 ((levB_iff _).1 hV).2
  have htw := fun w => two_any l hl w
  have hp1 := pow_le16 l hl
  have hp0 := pow_pos' l
  have hc9 : ¬ n < 2 ^ l * 2 ^ l := by
    have h9 : okF (l : Int) n = false := hF
    rw [okF, hV, Bool.true_and, decide_eq_false_iff_not] at h9
    simp only [Int.toNat_natCast] at h9
    have e : (2 : Int) ^ l * 2 ^ l = ((4 ^ l : Nat) : Int) := by rw [← Int.mul_pow]; push_cast; rfl
    rw [e]; omega
  generalize (2 : Int) ^ l = p at htw hp0 hp1 hc9
  have hpp : 0 ≤ p * p ∧ p * p ≤ 4294967296 := ⟨Int.mul_nonneg (by omega) (by omega), by have := Int.mul_le_mul hp1 hp1 (by omega) (by omega); omega⟩
  obtain ⟨hpp0, hpp1⟩ := hpp
  have hd9 : decide (n < p * p) = false := decide_eq_false hc9
  have hw9 : IntKind.u64.wrap p = p ∧ IntKind.u64.wrap (p * p) = p * p := ⟨by rw [IntKind.wrap_u64]; omega, by rw [IntKind.wrap_u64]; omega⟩
  have HTW := Lib.hid htw; have HC9 := Lib.hid (And.intro hd9 hw9); clear htw hc9 hd9 hw9
  have hfr : ∀ w : World, Calls Try.prog 39 #[.int .i64 (l : Int), .int .u64 n] w fun e w' => e = .returned (.tuple #[.agg #[.int .i64 0, .int .i64 0, .int .i64 0], .bool false]) ∧ Below w.heap.size w w' := by
    intro w; have := from_u (l : Int) n hn0 w; rw [f0, f1, f2, hF] at this; simpa using this
  have HFR := Lib.hid hfr; clear hfr
  clear hF
  go_enter Try.func11, Try.ntmps11
  go_wp2_with fail
  refine (code_u (l : Int) X Y _).mono ?_
  rintro e w1 ⟨rfl, hb⟩
  have P : Blk w1 (w.heap.size) 23 #[.int .i64 (l : Int), .int .i64 X, .int .i64 Y] := Blk.thru0 (Blk.newAt (by simp)) hb
  have hB : Below w.heap.size w w1 := below_trans (by go_grown) hb
  have hszw1 := hb.size
  (try simp at hszw1)
  clear hb
  have kP0 := P.cell 0
  have kP1 := P.cell 1
  have kP2 := P.cell 2
  simp only [List.getElem?_toArray, List.getElem?_cons_zero, List.getElem?_cons_succ] at kP0 kP1 kP2
  have zP := P.lt
  go_wp2_with fail
  refine (rcode_u (l : Int) X Y _).mono ?_
  rintro e w2 ⟨rfl, hb⟩
  replace P : Blk w2 (w.heap.size) 23 #[.int .i64 (l : Int), .int .i64 X, .int .i64 Y] := Blk.thru0 (P) hb
  have hs := hB.size
  replace hB : Below w.heap.size w w2 := below_trans (by go_grown) hb
  clear hs
  clear kP0 kP1 kP2 zP
  have hszw2 := hb.size
  (try simp at hszw2)
  clear hb
  have kP0 := P.cell 0
  have kP1 := P.cell 1
  have kP2 := P.cell 2
  simp only [List.getElem?_toArray, List.getElem?_cons_zero, List.getElem?_cons_succ] at kP0 kP1 kP2
  have zP := P.lt
  go_wp2_with fail
  refine (HFR.out _).mono ?_
  rintro e w3 ⟨rfl, hb⟩
  replace P : Blk w3 (w.heap.size) 23 #[.int .i64 (l : Int), .int .i64 X, .int .i64 Y] := Blk.thru0 (P) hb
  have hs := hB.size
  replace hB : Below w.heap.size w w3 := below_trans (by go_grown) hb
  clear hs
  clear kP0 kP1 kP2 zP
  have hszw3 := hb.size
  (try simp at hszw3)
  clear hb
  have kP0 := P.cell 0
  have kP1 := P.cell 1
  have kP2 := P.cell 2
  simp only [List.getElem?_toArray, List.getElem?_cons_zero, List.getElem?_cons_succ] at kP0 kP1 kP2
  have zP := P.lt
  go_wp2_with fail
  have hs := hB.size
  have hB9 : Below w.heap.size w (w3.alloc (.cells #[.int .i64 0, .int .i64 0, .int .i64 0] 23)) := by go_grown
  have P9 : Blk (w3.alloc (.cells #[.int .i64 0, .int .i64 0, .int .i64 0] 23)) (w.heap.size) 23 #[.int .i64 (l : Int), .int .i64 X, .int .i64 Y] := (P).alloc _
  have D9 : Blk (w3.alloc (.cells #[.int .i64 0, .int .i64 0, .int .i64 0] 23)) (w3.heap.size) 23 #[.int .i64 0, .int .i64 0, .int .i64 0] := Blk.newAt (by simp)
  generalize w3.alloc (.cells #[.int .i64 0, .int .i64 0, .int .i64 0] 23) = W9 at hB9 P9 D9 ⊢
  clear kP0 kP1 kP2 zP
  clear hs hB P
  have hB := hB9
  clear hB9
  have P := P9
  clear P9
  have D := D9
  clear D9
  have kP0 := P.cell 0
  have kP1 := P.cell 1
  have kP2 := P.cell 2
  have kD0 := D.cell 0
  have kD1 := D.cell 1
  have kD2 := D.cell 2
  simp only [List.getElem?_toArray, List.getElem?_cons_zero, List.getElem?_cons_succ] at kP0 kP1 kP2 kD0 kD1 kD2
  have zP := P.lt
  have zD := D.lt
  obtain ⟨hc9, hw9, hw8⟩ := HC9.out
  go_quiet ((first | (go_at_call 40; exact Calls.quiet_of_same ((rlevel_any _ _).mono fun _ _ h => ⟨h.1, h.2.symm⟩)) | (go_at_call 41; exact Calls.quiet_of_same (HTW.out _))))
  replace hB := below_drawn hB nq
  replace P := P.drewN nq
  generalize W9.drewN nq = W8 at hB P ⊢
  clear D kP0 kP1 kP2 kD0 kD1 kD2 zP zD
  have kP0 := P.cell 0
  have kP1 := P.cell 1
  have kP2 := P.cell 2
  simp only [List.getElem?_toArray, List.getElem?_cons_zero, List.getElem?_cons_succ] at kP0 kP1 kP2
  have zP := P.lt
  go_wp2_with fail
  refine (known_any _).mono ?_
  rintro e w4 ⟨rfl, hb⟩
  replace P : Blk w4 (w.heap.size) 23 #[.int .i64 (l : Int), .int .i64 X, .int .i64 Y] := Blk.thru0 (P) hb
  have hs := hB.size
  replace hB : Below w.heap.size w w4 := below_trans (by go_grown) hb
  clear hs
  clear kP0 kP1 kP2 zP
  have hszw4 := hb.size
  (try simp at hszw4)
  clear hb
  have kP0 := P.cell 0
  have kP1 := P.cell 1
  have kP2 := P.cell 2
  simp only [List.getElem?_toArray, List.getElem?_cons_zero, List.getElem?_cons_succ] at kP0 kP1 kP2
  have zP := P.lt
  go_wp2
  go_ret
  exact ⟨rfl, by first | exact hB | go_grown⟩
set_option maxHeartbeats 2000000 in
theorem walk_o00 (L X Y i n : Int) (w : World) (hn0 : 0 ≤ n) (hn1 : n ≤ 18446744073709551615) (hF : okF L n = false) (hV : levB L = false) :
    Calls Try.prog 11 #[.agg #[.int .i64 L, .int .i64 X, .int .i64 Y], .int .i64 i, .int .u64 n] w fun e w' => e = .returned (.bool true) ∧ Below w.heap.size w w' := by
  have hfr : ∀ w : World, Calls Try.prog 39 #[.int .i64 L, .int .u64 n] w fun e w' => e = .returned (.tuple #[.agg #[.int .i64 0, .int .i64 0, .int .i64 0], .bool false]) ∧ Below w.heap.size w w' := by
    intro w; have := from_u L n hn0 w; rw [f0, f1, f2, hF] at this; simpa using this
  have HFR := Lib.hid hfr; clear hfr
  clear hF
  have hC := okC_no L X Y hV
  have hrl : ∀ w : World, Calls Try.prog 40 #[.int .i64 L] w fun e w' => e = .returned (.bool false) ∧ w = w' := by
    intro w; have := rlevel_any L w; rw [hV] at this; exact this
  have HRL := Lib.hid hrl; clear hrl hV
  go_enter Try.func11, Try.ntmps11
  go_wp2_with fail
  refine (code_u L X Y _).mono ?_
  rintro e w1 ⟨rfl, hb⟩
  have P : Blk w1 (w.heap.size) 23 #[.int .i64 L, .int .i64 X, .int .i64 Y] := Blk.thru0 (Blk.newAt (by simp)) hb
  have hB : Below w.heap.size w w1 := below_trans (by go_grown) hb
  have hszw1 := hb.size
  (try simp at hszw1)
  clear hb
  have kP0 := P.cell 0
  have kP1 := P.cell 1
  have kP2 := P.cell 2
  simp only [List.getElem?_toArray, List.getElem?_cons_zero, List.getElem?_cons_succ] at kP0 kP1 kP2
  have zP := P.lt
  go_wp2_with fail
  refine (rcode_u L X Y _).mono ?_
  rintro e w2 ⟨rfl, hb⟩
  replace P : Blk w2 (w.heap.size) 23 #[.int .i64 L, .int .i64 X, .int .i64 Y] := Blk.thru0 (P) hb
  have hs := hB.size
  replace hB : Below w.heap.size w w2 := below_trans (by go_grown) hb
  clear hs
  clear kP0 kP1 kP2 zP
  have hszw2 := hb.size
  (try simp at hszw2)
  clear hb
  have kP0 := P.cell 0
  have kP1 := P.cell 1
  have kP2 := P.cell 2
  simp only [List.getElem?_toArray, List.getElem?_cons_zero, List.getElem?_cons_succ] at kP0 kP1 kP2
  have zP := P.lt
  go_wp2_with fail
  refine (HFR.out _).mono ?_
  rintro e w3 ⟨rfl, hb⟩
  replace P : Blk w3 (w.heap.size) 23 #[.int .i64 L, .int .i64 X, .int .i64 Y] := Blk.thru0 (P) hb
  have hs := hB.size
  replace hB : Below w.heap.size w w3 := below_trans (by go_grown) hb
  clear hs
  clear kP0 kP1 kP2 zP
  have hszw3 := hb.size
  (try simp at hszw3)
  clear hb
  have kP0 := P.cell 0
  have kP1 := P.cell 1
  have kP2 := P.cell 2
  simp only [List.getElem?_toArray, List.getElem?_cons_zero, List.getElem?_cons_succ] at kP0 kP1 kP2
  have zP := P.lt
  go_wp2_with fail
  have hs := hB.size
  have hB9 : Below w.heap.size w (w3.alloc (.cells #[.int .i64 0, .int .i64 0, .int .i64 0] 23)) := by go_grown
  have P9 : Blk (w3.alloc (.cells #[.int .i64 0, .int .i64 0, .int .i64 0] 23)) (w.heap.size) 23 #[.int .i64 L, .int .i64 X, .int .i64 Y] := (P).alloc _
  have D9 : Blk (w3.alloc (.cells #[.int .i64 0, .int .i64 0, .int .i64 0] 23)) (w3.heap.size) 23 #[.int .i64 0, .int .i64 0, .int .i64 0] := Blk.newAt (by simp)
  generalize w3.alloc (.cells #[.int .i64 0, .int .i64 0, .int .i64 0] 23) = W9 at hB9 P9 D9 ⊢
  clear kP0 kP1 kP2 zP
  clear hs hB P
  have hB := hB9
  clear hB9
  have P := P9
  clear P9
  have D := D9
  clear D9
  have kP0 := P.cell 0
  have kP1 := P.cell 1
  have kP2 := P.cell 2
  have kD0 := D.cell 0
  have kD1 := D.cell 1
  have kD2 := D.cell 2
  simp only [List.getElem?_toArray, List.getElem?_cons_zero, List.getElem?_cons_succ] at kP0 kP1 kP2 kD0 kD1 kD2
  have zP := P.lt
  have zD := D.lt
  go_quiet ((go_at_call 40; exact Calls.quiet_of_same ((HRL.out _).mono fun _ _ h => ⟨h.1, h.2.symm⟩)))
  all_goals
    go_wp2_with fail
    refine (known_any _).mono ?_
    rintro e w8 ⟨rfl, hb8⟩
    go_wp2
    go_ret
    refine ⟨rfl, below_trans ?_ hb8⟩
    first | (go_grown; done) | exact below_drawn hB _
set_option maxHeartbeats 2000000 in
theorem walk (L X Y i n : Int) (w : World) (_hL : -9223372036854775808 ≤ L ∧ L ≤ 9223372036854775807) (_hX : -9223372036854775808 ≤ X ∧ X ≤ 9223372036854775807) (_hY : -9223372036854775808 ≤ Y ∧ Y ≤ 9223372036854775807) (_hi : -9223372036854775808 ≤ i ∧ i ≤ 9223372036854775807) (_hn : 0 ≤ n ∧ n ≤ 18446744073709551615)  :
    Calls Try.prog 11 #[.agg #[.int .i64 L, .int .i64 X, .int .i64 Y], .int .i64 i, .int .u64 n] w fun e w' => e = .returned (.bool true) ∧ Below w.heap.size w w' := by
  obtain ⟨n0, n1⟩ := _hn
  rcases Bool.eq_false_or_eq_true (okF L n) with hF | hF
  · rcases Bool.eq_false_or_eq_true (okC L X Y) with hC | hC
    · rcases Bool.eq_false_or_eq_true (okK L X Y i) with hK | hK
      · exact walk_y11 L X Y i n w n0 n1 hF hC hK
      · exact walk_y10 L X Y i n w n0 n1 hF hC hK
    · exact walk_y00 L X Y i n w n0 n1 hF hC
  · rcases Bool.eq_false_or_eq_true (levB L) with hV | hV
    · rcases Bool.eq_false_or_eq_true (okC L X Y) with hC | hC
      · rcases Bool.eq_false_or_eq_true (okK L X Y i) with hK | hK
        · exact walk_n11 L X Y i n w n0 n1 hF hV hC hK
        · exact walk_n10 L X Y i n w n0 n1 hF hV hC hK
      · exact walk_n00 L X Y i n w n0 n1 hF hV hC
    · exact walk_o00 L X Y i n w n0 n1 hF hV

theorem own : ownKnob Try.prog.godebug = none := by kernel_rfl
theorem laidOut : laidOutB Try.prog = true := by kernel_rfl
set_option maxRecDepth 100000 in
theorem lifted (os : Os) (started : os.Started) (H : Type) (enc : TypeId × Value → H) :
    ReturnsInHanded {} Try.checked os 11 .any (Rows.cellCodesSpec.pre6 enc Try.prog Try.f11 Rows.cellCodesRow.domain false) (Rows.cellCodesSpec.post enc Try.prog Try.f11 false true false false) := by
  refine returnsInHanded_of_change (C := Try.checked) own started (by kernel_rfl) Try.func11
    (ChangeSpec.witness6 (enc := enc) (C := Try.checked) false ⟨#[], #[.agg #[.int .i64 0, .int .i64 0, .int .i64 0], .int .i64 0, .int .u64 0], []⟩ 8 (by kernel_rfl) (by kernel_rfl) (by kernel_rfl) (by kernel_rfl)) ?_
  intro W base args ds gs before hval0 hW hcnd _
  have hval : ∀ (j : Nat) t v, Try.f11.params[j]? = some t → args[j]? = some v → Value.okWide Try.prog W .any base t v := hval0
  have hW' := hW
  obtain ⟨p, q, hA0, hV, rfl, hfz, hnd⟩ := hW
  have hA : DataW.TrodAll enc Try.prog W 0 (fun _ => true) true Try.f11.params.toList args.toList ds p := hA0
  rw [Try.params11] at hA hval
  obtain ⟨v0, vs0, d0, ds0, p0, q0, hargs, rfl, rfl, h0, r0⟩ := trodAll_cons hA
  obtain ⟨v1, vs1, d1, ds1, p1, q1, rfl, rfl, rfl, h1, r1⟩ := trodAll_cons r0
  obtain ⟨v2, vs2, d2, ds2, p2, q2, rfl, rfl, rfl, h2, r2⟩ := trodAll_cons r1
  obtain ⟨rfl, rfl, rfl⟩ := trodAll_nil r2
  obtain rfl : args = #[v0, v1, v2] := by cases args; simp_all
  obtain ⟨rfl, rfl⟩ := trodVars_none hV
  have k0 := h0
  have lt0 : ∀ x ∈ p0, x.block < W.heap.size := by obtain ⟨m, hm⟩ := k0; exact DataW.trod_lt m _ _ _ hm
  obtain ⟨c0_0, c0_1, c0_2, y0_0, y0_1, y0_2, m0, rfl, rfl, rfl, hy0_0, hy0_1, hy0_2⟩ := Joins.open_agg3 Try.underlying23 (by kernel_rfl) (by kernel_rfl) (hval 0 23 v0 rfl rfl) h0
  obtain ⟨a0_0, e0_0, rfl, w0_0⟩ := DataW.trod_int Try.underlying3 hy0_0
  simp only [List.cons.injEq, and_true] at e0_0
  subst e0_0
  obtain ⟨a0_1, e0_1, rfl, w0_1⟩ := DataW.trod_int Try.underlying3 hy0_1
  simp only [List.cons.injEq, and_true] at e0_1
  subst e0_1
  obtain ⟨a0_2, e0_2, rfl, w0_2⟩ := DataW.trod_int Try.underlying3 hy0_2
  simp only [List.cons.injEq, and_true] at e0_2
  subst e0_2
  have k1 := h1
  have lt1 : ∀ x ∈ p1, x.block < W.heap.size := by obtain ⟨m, hm⟩ := k1; exact DataW.trod_lt m _ _ _ hm
  obtain ⟨a1, rfl, rfl, rfl, w1⟩ := open_int Try.underlying3 (hval 1 3 v1 rfl rfl) h1
  have k2 := h2
  have lt2 : ∀ x ∈ p2, x.block < W.heap.size := by obtain ⟨m, hm⟩ := k2; exact DataW.trod_lt m _ _ _ hm
  obtain ⟨a2, rfl, rfl, rfl, w2⟩ := open_int Try.underlying41 (hval 2 41 v2 rfl rfl) h2
  clear hA0 hval0
  refine (walk a0_0 a0_1 a0_2 a1 a2 W (bounds_i64 w0_0) (bounds_i64 w0_1) (bounds_i64 w0_2) (bounds_i64 w1) (bounds_u64 w2)).mono fun e W' ⟨he, bel⟩ => ?_
  subst he
  exact ⟨_, rfl, _, _, _, [], _, [], hW', trodAll_mk1 (shut_bool Try.underlying4 _), (trodAll_cons_mk (Below.trod laidOut (by kernel_rfl) (of_decide_eq_true (by kernel_rfl)) k0 bel lt0) (trodAll_cons_mk (Below.trod laidOut (by kernel_rfl) (of_decide_eq_true (by kernel_rfl)) k1 bel lt1) (trodAll_cons_mk (Below.trod laidOut (by kernel_rfl) (of_decide_eq_true (by kernel_rfl)) k2 bel lt2) trodAll_mk0))), rfl, bel.frame _, fun h => by cases h⟩
theorem over : Rows.cellCodesRow.holds Try.pinned (OpenSpec.ofChange Rows.cellCodesSpec) :=
  OpenClaim.holds_of_wide 11 Try.f11 rfl rfl rfl rfl rfl rfl rfl ⟨rfl, rfl, rfl, rfl, rfl⟩ rfl rfl rfl rfl rfl (by kernel_rfl) Try.func11 (by kernel_rfl)
    (of_decide_eq_true (by kernel_rfl)) (by unfold Func.isWrapper; first | (rw [if_pos (by decide +kernel)]; kernel_rfl) | (rw [if_neg (by decide +kernel)]; exact ⟨rfl, rfl⟩))
    (fun os started H enc _ => lifted os started H enc)
/-- The statement. -/
theorem proved : Rows.CellCodesSaid := over
#print axioms proved
end Go.Proofs.Ytpbnbnhmlpjbjaa.cellCodes
