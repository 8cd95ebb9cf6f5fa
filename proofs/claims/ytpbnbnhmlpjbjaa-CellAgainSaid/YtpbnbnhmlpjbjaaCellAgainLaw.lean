/- CellAgain: (P3.6) snapped again, to a lower level, a rectangle is as if it had been snapped to that at once. Conditions: none. -/
import Derived.Test.YtpbnbnhmlpjbjaaCellKnown
import Derived.Test.YtpbnbnhmlpjbjaaFrame
import Derived.Lib.SmallJoins
import Derived.Test.YtpbnbnhmlpjbjaaCellMath2
namespace Go.Proofs.Ytpbnbnhmlpjbjaa.cellAgain
set_option linter.unusedVariables false
set_option linter.unusedSimpArgs false
open Go.ChangeShapes Go.WideShapes Go.ChangeAt Go.RowKit
open Go.ChangeMaps (open_string shut_string)
set_option maxHeartbeats 2000000 in
theorem walk (a b c d l m : Int) (w : World) (_ha : -9223372036854775808 ≤ a ∧ a ≤ 9223372036854775807) (_hb : -9223372036854775808 ≤ b ∧ b ≤ 9223372036854775807) (_hc : -9223372036854775808 ≤ c ∧ c ≤ 9223372036854775807) (_hd : -9223372036854775808 ≤ d ∧ d ≤ 9223372036854775807) (_hl : -9223372036854775808 ≤ l ∧ l ≤ 9223372036854775807) (_hm : -9223372036854775808 ≤ m ∧ m ≤ 9223372036854775807)  :
    Calls Try.prog 9 #[.agg #[.int .i64 a, .int .i64 b, .int .i64 c, .int .i64 d], .int .i64 l, .int .i64 m] w fun e w' => e = .returned (.bool true) ∧ Below w.heap.size w w' := by
  rcases Bool.eq_false_or_eq_true (okS a b c d l) with h1 | h1
  · rcases Bool.eq_false_or_eq_true (okS a b c d m) with h2 | h2
    · by_cases h3 : l < m
      · go_enter Try.func9, Try.ntmps9
        go_wp2_with fail
        refine (snap_u a b c d l _).mono ?_
        rintro e w1 ⟨rfl, hb⟩
        have P : Blk w1 (w.heap.size) 29 #[.int .i64 a, .int .i64 b, .int .i64 c, .int .i64 d] := Blk.thru0 (Blk.newAt (by simp)) hb
        have hB : Below w.heap.size w w1 := below_trans (by go_grown) hb
        have hszw1 := hb.size
        (try simp at hszw1)
        clear hb
        have kP0 := P.cell 0
        have kP1 := P.cell 1
        have kP2 := P.cell 2
        have kP3 := P.cell 3
        simp only [List.getElem?_toArray, List.getElem?_cons_zero, List.getElem?_cons_succ] at kP0 kP1 kP2 kP3
        have zP := P.lt
        go_wp2_with fail
        refine (snap_u a b c d m _).mono ?_
        rintro e w2 ⟨rfl, hb⟩
        replace P : Blk w2 (w.heap.size) 29 #[.int .i64 a, .int .i64 b, .int .i64 c, .int .i64 d] := Blk.thru0 ((P).alloc _) hb
        have A : Blk w2 (w1.heap.size) 29 #[.int .i64 (s0 a b c d l), .int .i64 (s1 a b c d l), .int .i64 (s2 a b c d l), .int .i64 (s3 a b c d l)] := Blk.thru0 (Blk.newAt (by simp)) hb
        have hs := hB.size
        replace hB : Below w.heap.size w w2 := below_trans (by go_grown) hb
        clear hs
        clear kP0 kP1 kP2 kP3 zP
        have hszw2 := hb.size
        (try simp at hszw2)
        clear hb
        have kP0 := P.cell 0
        have kP1 := P.cell 1
        have kP2 := P.cell 2
        have kP3 := P.cell 3
        have kA0 := A.cell 0
        have kA1 := A.cell 1
        have kA2 := A.cell 2
        have kA3 := A.cell 3
        simp only [List.getElem?_toArray, List.getElem?_cons_zero, List.getElem?_cons_succ] at kP0 kP1 kP2 kP3 kA0 kA1 kA2 kA3
        have zP := P.lt
        have zA := A.lt
        go_wp2_with fail
        refine (known_any _).mono ?_
        rintro e w3 ⟨rfl, hb⟩
        replace P : Blk w3 (w.heap.size) 29 #[.int .i64 a, .int .i64 b, .int .i64 c, .int .i64 d] := Blk.thru0 ((P).alloc _) hb
        replace A : Blk w3 (w1.heap.size) 29 #[.int .i64 (s0 a b c d l), .int .i64 (s1 a b c d l), .int .i64 (s2 a b c d l), .int .i64 (s3 a b c d l)] := Blk.thru0 ((A).alloc _) hb
        have B : Blk w3 (w2.heap.size) 29 #[.int .i64 (s0 a b c d m), .int .i64 (s1 a b c d m), .int .i64 (s2 a b c d m), .int .i64 (s3 a b c d m)] := Blk.thru0 (Blk.newAt (by simp)) hb
        have hs := hB.size
        replace hB : Below w.heap.size w w3 := below_trans (by go_grown) hb
        clear hs
        clear kP0 kP1 kP2 kP3 kA0 kA1 kA2 kA3 zP zA
        have hszw3 := hb.size
        (try simp at hszw3)
        clear hb
        have kP0 := P.cell 0
        have kP1 := P.cell 1
        have kP2 := P.cell 2
        have kP3 := P.cell 3
        have kA0 := A.cell 0
        have kA1 := A.cell 1
        have kA2 := A.cell 2
        have kA3 := A.cell 3
        have kB0 := B.cell 0
        have kB1 := B.cell 1
        have kB2 := B.cell 2
        have kB3 := B.cell 3
        simp only [List.getElem?_toArray, List.getElem?_cons_zero, List.getElem?_cons_succ] at kP0 kP1 kP2 kP3 kA0 kA1 kA2 kA3 kB0 kB1 kB2 kB3
        have zP := P.lt
        have zA := A.lt
        have zB := B.lt
        go_wp2
        go_ret
        exact ⟨rfl, by first | exact hB | go_grown⟩
      · obtain ⟨hr, hL⟩ := oksplit _ _ _ _ _ h1
        obtain ⟨_, hM⟩ := oksplit _ _ _ _ _ h2
        obtain ⟨L, hL1, rfl⟩ := lev l ((levB_iff _).1 hL).1 ((levB_iff _).1 hL).2
        obtain ⟨M, hM1, rfl⟩ := lev m ((levB_iff _).1 hM).1 ((levB_iff _).1 hM).2
        obtain ⟨k0, k1, k2, k3, k4, k5⟩ := again a b c d L M hL1 (by omega) hr
        have hc := fun w => snap_u (s0 a b c d L) (s1 a b c d L) (s2 a b c d L) (s3 a b c d L) M w
        have hi := fun w => in_any (s0 a b c d L) (s1 a b c d L) (s2 a b c d L) (s3 a b c d L) (s0 a b c d M) (s1 a b c d M) (s2 a b c d M) (s3 a b c d M) w
        rw [k0, k1, k2, k3, k4] at hc
        rw [k5] at hi
        have HC := Lib.hid hc; have HI := Lib.hid hi
        clear hc hi k0 k1 k2 k3 k4 k5
        go_enter Try.func9, Try.ntmps9
        go_wp2_with fail
        refine (snap_u a b c d L _).mono ?_
        rintro e w1 ⟨rfl, hb⟩
        have P : Blk w1 (w.heap.size) 29 #[.int .i64 a, .int .i64 b, .int .i64 c, .int .i64 d] := Blk.thru0 (Blk.newAt (by simp)) hb
        have hB : Below w.heap.size w w1 := below_trans (by go_grown) hb
        have hszw1 := hb.size
        (try simp at hszw1)
        clear hb
        have kP0 := P.cell 0
        have kP1 := P.cell 1
        have kP2 := P.cell 2
        have kP3 := P.cell 3
        simp only [List.getElem?_toArray, List.getElem?_cons_zero, List.getElem?_cons_succ] at kP0 kP1 kP2 kP3
        have zP := P.lt
        go_wp2_with fail
        refine (snap_u a b c d M _).mono ?_
        rintro e w2 ⟨rfl, hb⟩
        replace P : Blk w2 (w.heap.size) 29 #[.int .i64 a, .int .i64 b, .int .i64 c, .int .i64 d] := Blk.thru0 ((P).alloc _) hb
        have A : Blk w2 (w1.heap.size) 29 #[.int .i64 (s0 a b c d L), .int .i64 (s1 a b c d L), .int .i64 (s2 a b c d L), .int .i64 (s3 a b c d L)] := Blk.thru0 (Blk.newAt (by simp)) hb
        have hs := hB.size
        replace hB : Below w.heap.size w w2 := below_trans (by go_grown) hb
        clear hs
        clear kP0 kP1 kP2 kP3 zP
        have hszw2 := hb.size
        (try simp at hszw2)
        clear hb
        have kP0 := P.cell 0
        have kP1 := P.cell 1
        have kP2 := P.cell 2
        have kP3 := P.cell 3
        have kA0 := A.cell 0
        have kA1 := A.cell 1
        have kA2 := A.cell 2
        have kA3 := A.cell 3
        simp only [List.getElem?_toArray, List.getElem?_cons_zero, List.getElem?_cons_succ] at kP0 kP1 kP2 kP3 kA0 kA1 kA2 kA3
        have zP := P.lt
        have zA := A.lt
        go_wp2_with fail
        refine (HC.out _).mono ?_
        rintro e w3 ⟨rfl, hb⟩
        replace P : Blk w3 (w.heap.size) 29 #[.int .i64 a, .int .i64 b, .int .i64 c, .int .i64 d] := Blk.thru0 ((P).alloc _) hb
        replace A : Blk w3 (w1.heap.size) 29 #[.int .i64 (s0 a b c d L), .int .i64 (s1 a b c d L), .int .i64 (s2 a b c d L), .int .i64 (s3 a b c d L)] := Blk.thru0 ((A).alloc _) hb
        have B : Blk w3 (w2.heap.size) 29 #[.int .i64 (s0 a b c d M), .int .i64 (s1 a b c d M), .int .i64 (s2 a b c d M), .int .i64 (s3 a b c d M)] := Blk.thru0 (Blk.newAt (by simp)) hb
        have hs := hB.size
        replace hB : Below w.heap.size w w3 := below_trans (by go_grown) hb
        clear hs
        clear kP0 kP1 kP2 kP3 kA0 kA1 kA2 kA3 zP zA
        have hszw3 := hb.size
        (try simp at hszw3)
        clear hb
        have kP0 := P.cell 0
        have kP1 := P.cell 1
        have kP2 := P.cell 2
        have kP3 := P.cell 3
        have kA0 := A.cell 0
        have kA1 := A.cell 1
        have kA2 := A.cell 2
        have kA3 := A.cell 3
        have kB0 := B.cell 0
        have kB1 := B.cell 1
        have kB2 := B.cell 2
        have kB3 := B.cell 3
        simp only [List.getElem?_toArray, List.getElem?_cons_zero, List.getElem?_cons_succ] at kP0 kP1 kP2 kP3 kA0 kA1 kA2 kA3 kB0 kB1 kB2 kB3
        have zP := P.lt
        have zA := A.lt
        have zB := B.lt
        go_wp2_with fail
        refine (HI.out _).mono ?_
        rintro e w4 ⟨rfl, hb⟩
        replace P : Blk w4 (w.heap.size) 29 #[.int .i64 a, .int .i64 b, .int .i64 c, .int .i64 d] := Blk.thru0 ((P).alloc _) hb
        replace A : Blk w4 (w1.heap.size) 29 #[.int .i64 (s0 a b c d L), .int .i64 (s1 a b c d L), .int .i64 (s2 a b c d L), .int .i64 (s3 a b c d L)] := Blk.thru0 ((A).alloc _) hb
        replace B : Blk w4 (w2.heap.size) 29 #[.int .i64 (s0 a b c d M), .int .i64 (s1 a b c d M), .int .i64 (s2 a b c d M), .int .i64 (s3 a b c d M)] := Blk.thru0 ((B).alloc _) hb
        have C : Blk w4 (w3.heap.size) 29 #[.int .i64 (s0 a b c d M), .int .i64 (s1 a b c d M), .int .i64 (s2 a b c d M), .int .i64 (s3 a b c d M)] := Blk.thru0 (Blk.newAt (by simp)) hb
        have hs := hB.size
        replace hB : Below w.heap.size w w4 := below_trans (by go_grown) hb
        clear hs
        clear kP0 kP1 kP2 kP3 kA0 kA1 kA2 kA3 kB0 kB1 kB2 kB3 zP zA zB
        have hszw4 := hb.size
        (try simp at hszw4)
        clear hb
        have kP0 := P.cell 0
        have kP1 := P.cell 1
        have kP2 := P.cell 2
        have kP3 := P.cell 3
        have kA0 := A.cell 0
        have kA1 := A.cell 1
        have kA2 := A.cell 2
        have kA3 := A.cell 3
        have kB0 := B.cell 0
        have kB1 := B.cell 1
        have kB2 := B.cell 2
        have kB3 := B.cell 3
        have kC0 := C.cell 0
        have kC1 := C.cell 1
        have kC2 := C.cell 2
        have kC3 := C.cell 3
        simp only [List.getElem?_toArray, List.getElem?_cons_zero, List.getElem?_cons_succ] at kP0 kP1 kP2 kP3 kA0 kA1 kA2 kA3 kB0 kB1 kB2 kB3 kC0 kC1 kC2 kC3
        have zP := P.lt
        have zA := A.lt
        have zB := B.lt
        have zC := C.lt
        go_wp2_with fail
        refine (known_any _).mono ?_
        rintro e w5 ⟨rfl, hb⟩
        replace P : Blk w5 (w.heap.size) 29 #[.int .i64 a, .int .i64 b, .int .i64 c, .int .i64 d] := Blk.thru0 (P) hb
        replace A : Blk w5 (w1.heap.size) 29 #[.int .i64 (s0 a b c d L), .int .i64 (s1 a b c d L), .int .i64 (s2 a b c d L), .int .i64 (s3 a b c d L)] := Blk.thru0 (A) hb
        replace B : Blk w5 (w2.heap.size) 29 #[.int .i64 (s0 a b c d M), .int .i64 (s1 a b c d M), .int .i64 (s2 a b c d M), .int .i64 (s3 a b c d M)] := Blk.thru0 (B) hb
        replace C : Blk w5 (w3.heap.size) 29 #[.int .i64 (s0 a b c d M), .int .i64 (s1 a b c d M), .int .i64 (s2 a b c d M), .int .i64 (s3 a b c d M)] := Blk.thru0 (C) hb
        have hs := hB.size
        replace hB : Below w.heap.size w w5 := below_trans (by go_grown) hb
        clear hs
        clear kP0 kP1 kP2 kP3 kA0 kA1 kA2 kA3 kB0 kB1 kB2 kB3 kC0 kC1 kC2 kC3 zP zA zB zC
        have hszw5 := hb.size
        (try simp at hszw5)
        clear hb
        have kP0 := P.cell 0
        have kP1 := P.cell 1
        have kP2 := P.cell 2
        have kP3 := P.cell 3
        have kA0 := A.cell 0
        have kA1 := A.cell 1
        have kA2 := A.cell 2
        have kA3 := A.cell 3
        have kB0 := B.cell 0
        have kB1 := B.cell 1
        have kB2 := B.cell 2
        have kB3 := B.cell 3
        have kC0 := C.cell 0
        have kC1 := C.cell 1
        have kC2 := C.cell 2
        have kC3 := C.cell 3
        simp only [List.getElem?_toArray, List.getElem?_cons_zero, List.getElem?_cons_succ] at kP0 kP1 kP2 kP3 kA0 kA1 kA2 kA3 kB0 kB1 kB2 kB3 kC0 kC1 kC2 kC3
        have zP := P.lt
        have zA := A.lt
        have zB := B.lt
        have zC := C.lt
        go_wp2
        go_ret
        exact ⟨rfl, by first | exact hB | go_grown⟩
    · go_enter Try.func9, Try.ntmps9
      go_wp2_with fail
      refine (snap_u a b c d l _).mono ?_
      rintro e w1 ⟨rfl, hb⟩
      have P : Blk w1 (w.heap.size) 29 #[.int .i64 a, .int .i64 b, .int .i64 c, .int .i64 d] := Blk.thru0 (Blk.newAt (by simp)) hb
      have hB : Below w.heap.size w w1 := below_trans (by go_grown) hb
      have hszw1 := hb.size
      (try simp at hszw1)
      clear hb
      have kP0 := P.cell 0
      have kP1 := P.cell 1
      have kP2 := P.cell 2
      have kP3 := P.cell 3
      simp only [List.getElem?_toArray, List.getElem?_cons_zero, List.getElem?_cons_succ] at kP0 kP1 kP2 kP3
      have zP := P.lt
      go_wp2_with fail
      refine (snap_u a b c d m _).mono ?_
      rintro e w2 ⟨rfl, hb⟩
      replace P : Blk w2 (w.heap.size) 29 #[.int .i64 a, .int .i64 b, .int .i64 c, .int .i64 d] := Blk.thru0 ((P).alloc _) hb
      have A : Blk w2 (w1.heap.size) 29 #[.int .i64 (s0 a b c d l), .int .i64 (s1 a b c d l), .int .i64 (s2 a b c d l), .int .i64 (s3 a b c d l)] := Blk.thru0 (Blk.newAt (by simp)) hb
      have hs := hB.size
      replace hB : Below w.heap.size w w2 := below_trans (by go_grown) hb
      clear hs
      clear kP0 kP1 kP2 kP3 zP
      have hszw2 := hb.size
      (try simp at hszw2)
      clear hb
      have kP0 := P.cell 0
      have kP1 := P.cell 1
      have kP2 := P.cell 2
      have kP3 := P.cell 3
      have kA0 := A.cell 0
      have kA1 := A.cell 1
      have kA2 := A.cell 2
      have kA3 := A.cell 3
      simp only [List.getElem?_toArray, List.getElem?_cons_zero, List.getElem?_cons_succ] at kP0 kP1 kP2 kP3 kA0 kA1 kA2 kA3
      have zP := P.lt
      have zA := A.lt
      go_wp2_with fail
      refine (known_any _).mono ?_
      rintro e w3 ⟨rfl, hb⟩
      replace P : Blk w3 (w.heap.size) 29 #[.int .i64 a, .int .i64 b, .int .i64 c, .int .i64 d] := Blk.thru0 ((P).alloc _) hb
      replace A : Blk w3 (w1.heap.size) 29 #[.int .i64 (s0 a b c d l), .int .i64 (s1 a b c d l), .int .i64 (s2 a b c d l), .int .i64 (s3 a b c d l)] := Blk.thru0 ((A).alloc _) hb
      have B : Blk w3 (w2.heap.size) 29 #[.int .i64 (s0 a b c d m), .int .i64 (s1 a b c d m), .int .i64 (s2 a b c d m), .int .i64 (s3 a b c d m)] := Blk.thru0 (Blk.newAt (by simp)) hb
      have hs := hB.size
      replace hB : Below w.heap.size w w3 := below_trans (by go_grown) hb
      clear hs
      clear kP0 kP1 kP2 kP3 kA0 kA1 kA2 kA3 zP zA
      have hszw3 := hb.size
      (try simp at hszw3)
      clear hb
      have kP0 := P.cell 0
      have kP1 := P.cell 1
      have kP2 := P.cell 2
      have kP3 := P.cell 3
      have kA0 := A.cell 0
      have kA1 := A.cell 1
      have kA2 := A.cell 2
      have kA3 := A.cell 3
      have kB0 := B.cell 0
      have kB1 := B.cell 1
      have kB2 := B.cell 2
      have kB3 := B.cell 3
      simp only [List.getElem?_toArray, List.getElem?_cons_zero, List.getElem?_cons_succ] at kP0 kP1 kP2 kP3 kA0 kA1 kA2 kA3 kB0 kB1 kB2 kB3
      have zP := P.lt
      have zA := A.lt
      have zB := B.lt
      go_wp2
      go_ret
      exact ⟨rfl, by first | exact hB | go_grown⟩
  · go_enter Try.func9, Try.ntmps9
    go_wp2_with fail
    refine (snap_u a b c d l _).mono ?_
    rintro e w1 ⟨rfl, hb⟩
    have P : Blk w1 (w.heap.size) 29 #[.int .i64 a, .int .i64 b, .int .i64 c, .int .i64 d] := Blk.thru0 (Blk.newAt (by simp)) hb
    have hB : Below w.heap.size w w1 := below_trans (by go_grown) hb
    have hszw1 := hb.size
    (try simp at hszw1)
    clear hb
    have kP0 := P.cell 0
    have kP1 := P.cell 1
    have kP2 := P.cell 2
    have kP3 := P.cell 3
    simp only [List.getElem?_toArray, List.getElem?_cons_zero, List.getElem?_cons_succ] at kP0 kP1 kP2 kP3
    have zP := P.lt
    go_wp2_with fail
    refine (snap_u a b c d m _).mono ?_
    rintro e w2 ⟨rfl, hb⟩
    replace P : Blk w2 (w.heap.size) 29 #[.int .i64 a, .int .i64 b, .int .i64 c, .int .i64 d] := Blk.thru0 ((P).alloc _) hb
    have A : Blk w2 (w1.heap.size) 29 #[.int .i64 (s0 a b c d l), .int .i64 (s1 a b c d l), .int .i64 (s2 a b c d l), .int .i64 (s3 a b c d l)] := Blk.thru0 (Blk.newAt (by simp)) hb
    have hs := hB.size
    replace hB : Below w.heap.size w w2 := below_trans (by go_grown) hb
    clear hs
    clear kP0 kP1 kP2 kP3 zP
    have hszw2 := hb.size
    (try simp at hszw2)
    clear hb
    have kP0 := P.cell 0
    have kP1 := P.cell 1
    have kP2 := P.cell 2
    have kP3 := P.cell 3
    have kA0 := A.cell 0
    have kA1 := A.cell 1
    have kA2 := A.cell 2
    have kA3 := A.cell 3
    simp only [List.getElem?_toArray, List.getElem?_cons_zero, List.getElem?_cons_succ] at kP0 kP1 kP2 kP3 kA0 kA1 kA2 kA3
    have zP := P.lt
    have zA := A.lt
    go_wp2_with fail
    refine (known_any _).mono ?_
    rintro e w3 ⟨rfl, hb⟩
    replace P : Blk w3 (w.heap.size) 29 #[.int .i64 a, .int .i64 b, .int .i64 c, .int .i64 d] := Blk.thru0 ((P).alloc _) hb
    replace A : Blk w3 (w1.heap.size) 29 #[.int .i64 (s0 a b c d l), .int .i64 (s1 a b c d l), .int .i64 (s2 a b c d l), .int .i64 (s3 a b c d l)] := Blk.thru0 ((A).alloc _) hb
    have B : Blk w3 (w2.heap.size) 29 #[.int .i64 (s0 a b c d m), .int .i64 (s1 a b c d m), .int .i64 (s2 a b c d m), .int .i64 (s3 a b c d m)] := Blk.thru0 (Blk.newAt (by simp)) hb
    have hs := hB.size
    replace hB : Below w.heap.size w w3 := below_trans (by go_grown) hb
    clear hs
    clear kP0 kP1 kP2 kP3 kA0 kA1 kA2 kA3 zP zA
    have hszw3 := hb.size
    (try simp at hszw3)
    clear hb
    have kP0 := P.cell 0
    have kP1 := P.cell 1
    have kP2 := P.cell 2
    have kP3 := P.cell 3
    have kA0 := A.cell 0
    have kA1 := A.cell 1
    have kA2 := A.cell 2
    have kA3 := A.cell 3
    have kB0 := B.cell 0
    have kB1 := B.cell 1
    have kB2 := B.cell 2
    have kB3 := B.cell 3
    simp only [List.getElem?_toArray, List.getElem?_cons_zero, List.getElem?_cons_succ] at kP0 kP1 kP2 kP3 kA0 kA1 kA2 kA3 kB0 kB1 kB2 kB3
    have zP := P.lt
    have zA := A.lt
    have zB := B.lt
    go_wp2
    go_ret
    exact ⟨rfl, by first | exact hB | go_grown⟩

theorem own : ownKnob Try.prog.godebug = none := by kernel_rfl
theorem laidOut : laidOutB Try.prog = true := by kernel_rfl
set_option maxRecDepth 100000 in
theorem lifted (os : Os) (started : os.Started) (H : Type) (enc : TypeId × Value → H) :
    ReturnsInHanded {} Try.checked os 9 .any (Rows.cellAgainSpec.pre6 enc Try.prog Try.f9 Rows.cellAgainRow.domain false) (Rows.cellAgainSpec.post enc Try.prog Try.f9 false true false false) := by
  refine returnsInHanded_of_change (C := Try.checked) own started (by kernel_rfl) Try.func9
    (ChangeSpec.witness6 (enc := enc) (C := Try.checked) false ⟨#[], #[.agg #[.int .i64 0, .int .i64 0, .int .i64 0, .int .i64 0], .int .i64 0, .int .i64 0], []⟩ 8 (by kernel_rfl) (by kernel_rfl) (by kernel_rfl) (by kernel_rfl)) ?_
  intro W base args ds gs before hval0 hW hcnd _
  have hval : ∀ (j : Nat) t v, Try.f9.params[j]? = some t → args[j]? = some v → Value.okWide Try.prog W .any base t v := hval0
  have hW' := hW
  obtain ⟨p, q, hA0, hV, rfl, hfz, hnd⟩ := hW
  have hA : DataW.TrodAll enc Try.prog W 0 (fun _ => true) true Try.f9.params.toList args.toList ds p := hA0
  rw [Try.params9] at hA hval
  obtain ⟨v0, vs0, d0, ds0, p0, q0, hargs, rfl, rfl, h0, r0⟩ := trodAll_cons hA
  obtain ⟨v1, vs1, d1, ds1, p1, q1, rfl, rfl, rfl, h1, r1⟩ := trodAll_cons r0
  obtain ⟨v2, vs2, d2, ds2, p2, q2, rfl, rfl, rfl, h2, r2⟩ := trodAll_cons r1
  obtain ⟨rfl, rfl, rfl⟩ := trodAll_nil r2
  obtain rfl : args = #[v0, v1, v2] := by cases args; simp_all
  obtain ⟨rfl, rfl⟩ := trodVars_none hV
  have k0 := h0
  have lt0 : ∀ x ∈ p0, x.block < W.heap.size := by obtain ⟨m, hm⟩ := k0; exact DataW.trod_lt m _ _ _ hm
  obtain ⟨c0_0, c0_1, c0_2, c0_3, y0_0, y0_1, y0_2, y0_3, m0, rfl, rfl, rfl, hy0_0, hy0_1, hy0_2, hy0_3⟩ := Joins.open_agg4 Try.underlying29 (by kernel_rfl) (by kernel_rfl) (hval 0 29 v0 rfl rfl) h0
  obtain ⟨a0_0, e0_0, rfl, w0_0⟩ := DataW.trod_int Try.underlying3 hy0_0
  simp only [List.cons.injEq, and_true] at e0_0
  subst e0_0
  obtain ⟨a0_1, e0_1, rfl, w0_1⟩ := DataW.trod_int Try.underlying3 hy0_1
  simp only [List.cons.injEq, and_true] at e0_1
  subst e0_1
  obtain ⟨a0_2, e0_2, rfl, w0_2⟩ := DataW.trod_int Try.underlying3 hy0_2
  simp only [List.cons.injEq, and_true] at e0_2
  subst e0_2
  obtain ⟨a0_3, e0_3, rfl, w0_3⟩ := DataW.trod_int Try.underlying3 hy0_3
  simp only [List.cons.injEq, and_true] at e0_3
  subst e0_3
  have k1 := h1
  have lt1 : ∀ x ∈ p1, x.block < W.heap.size := by obtain ⟨m, hm⟩ := k1; exact DataW.trod_lt m _ _ _ hm
  obtain ⟨a1, rfl, rfl, rfl, w1⟩ := open_int Try.underlying3 (hval 1 3 v1 rfl rfl) h1
  have k2 := h2
  have lt2 : ∀ x ∈ p2, x.block < W.heap.size := by obtain ⟨m, hm⟩ := k2; exact DataW.trod_lt m _ _ _ hm
  obtain ⟨a2, rfl, rfl, rfl, w2⟩ := open_int Try.underlying3 (hval 2 3 v2 rfl rfl) h2
  clear hA0 hval0
  refine (walk a0_0 a0_1 a0_2 a0_3 a1 a2 W (bounds_i64 w0_0) (bounds_i64 w0_1) (bounds_i64 w0_2) (bounds_i64 w0_3) (bounds_i64 w1) (bounds_i64 w2)).mono fun e W' ⟨he, bel⟩ => ?_
  subst he
  exact ⟨_, rfl, _, _, _, [], _, [], hW', trodAll_mk1 (shut_bool Try.underlying4 _), (trodAll_cons_mk (Below.trod laidOut (by kernel_rfl) (of_decide_eq_true (by kernel_rfl)) k0 bel lt0) (trodAll_cons_mk (Below.trod laidOut (by kernel_rfl) (of_decide_eq_true (by kernel_rfl)) k1 bel lt1) (trodAll_cons_mk (Below.trod laidOut (by kernel_rfl) (of_decide_eq_true (by kernel_rfl)) k2 bel lt2) trodAll_mk0))), rfl, bel.frame _, fun h => by cases h⟩
theorem over : Rows.cellAgainRow.holds Try.pinned (OpenSpec.ofChange Rows.cellAgainSpec) :=
  OpenClaim.holds_of_wide 9 Try.f9 rfl rfl rfl rfl rfl rfl rfl ⟨rfl, rfl, rfl, rfl, rfl⟩ rfl rfl rfl rfl rfl (by kernel_rfl) Try.func9 (by kernel_rfl)
    (of_decide_eq_true (by kernel_rfl)) (by unfold Func.isWrapper; first | (rw [if_pos (by decide +kernel)]; kernel_rfl) | (rw [if_neg (by decide +kernel)]; exact ⟨rfl, rfl⟩))
    (fun os started H enc _ => lifted os started H enc)
/-- The statement. -/
theorem proved : Rows.CellAgainSaid := over
#print axioms proved
end Go.Proofs.Ytpbnbnhmlpjbjaa.cellAgain
