/- CellMeets: (P3.6) a cell meets a rectangle just if the snapped one has the cell's points. Conditions: none. -/
import Derived.Test.YtpbnbnhmlpjbjaaCellKnown
import Derived.Test.YtpbnbnhmlpjbjaaFrame
import Derived.Lib.SmallJoins
import Derived.Test.YtpbnbnhmlpjbjaaCellMath2
namespace Go.Proofs.Ytpbnbnhmlpjbjaa.cellMeets
set_option linter.unusedVariables false
set_option linter.unusedSimpArgs false
open Go.ChangeShapes Go.WideShapes Go.ChangeAt Go.RowKit
open Go.ChangeMaps (open_string shut_string)
set_option maxHeartbeats 4000000 in
theorem walk (a b c d l x y : Int) (w : World) (_ha : -9223372036854775808 ≤ a ∧ a ≤ 9223372036854775807) (_hb : -9223372036854775808 ≤ b ∧ b ≤ 9223372036854775807) (_hc : -9223372036854775808 ≤ c ∧ c ≤ 9223372036854775807) (_hd : -9223372036854775808 ≤ d ∧ d ≤ 9223372036854775807) (_hl : -9223372036854775808 ≤ l ∧ l ≤ 9223372036854775807) (_hx : -9223372036854775808 ≤ x ∧ x ≤ 9223372036854775807) (_hy : -9223372036854775808 ≤ y ∧ y ≤ 9223372036854775807)  :
    Calls Try.prog 8 #[.agg #[.int .i64 a, .int .i64 b, .int .i64 c, .int .i64 d], .int .i64 l, .agg #[.int .i64 x, .int .i64 y]] w fun e w' => e = .returned (.bool true) ∧ Below w.heap.size w w' := by
  rcases Bool.eq_false_or_eq_true (okS a b c d l) with h1 | h1
  · rcases Bool.eq_false_or_eq_true (fitsB x y) with h2 | h2
    · obtain ⟨hr, hL⟩ := oksplit _ _ _ _ _ h1
      obtain ⟨L, hL1, rfl⟩ := lev l ((levB_iff _).1 hL).1 ((levB_iff _).1 hL).2
      obtain ⟨_, _, m1, m2, m3⟩ := meets_snap a b c d x y L hL1 hr h2
      have hof := cof_at L x y hL1 h2
      have hbx := cbox_yes L (x / 2 ^ (16 - L)) (y / 2 ^ (16 - L)) _ hL1 (of_okC L x y hL1 h2) rfl
      generalize hq : okM (x / 2 ^ (16 - L) * 2 ^ (16 - L)) (y / 2 ^ (16 - L) * 2 ^ (16 - L)) (x / 2 ^ (16 - L) * 2 ^ (16 - L) + 2 ^ (16 - L) - 1) (y / 2 ^ (16 - L) * 2 ^ (16 - L) + 2 ^ (16 - L) - 1) a b c d = q1 at m1
      generalize hq2 : okM (x / 2 ^ (16 - L) * 2 ^ (16 - L)) (y / 2 ^ (16 - L) * 2 ^ (16 - L)) (x / 2 ^ (16 - L) * 2 ^ (16 - L) + 2 ^ (16 - L) - 1) (y / 2 ^ (16 - L) * 2 ^ (16 - L) + 2 ^ (16 - L) - 1) (s0 a b c d L) (s1 a b c d L) (s2 a b c d L) (s3 a b c d L) = q2 at m3
      have hsp := pow_pos' (16 - L)
      generalize x / 2 ^ (16 - L) = u at *
      generalize y / 2 ^ (16 - L) = v at *
      generalize (2 : Int) ^ (16 - L) = s at *
      have HOF := Lib.hid hof; have HBX := Lib.hid hbx; clear hof hbx
      have M1 := Lib.hid m1; have M2 := Lib.hid m2; have M3 := Lib.hid m3; have M4 := Lib.hid hq; have M5 := Lib.hid hq2; clear m1 m2 m3 hq hq2
      go_enter Try.func8, Try.ntmps8
      go_wp2_with fail
      refine (snap_u a b c d L _).mono ?_
      rintro e w1 ⟨rfl, hb⟩
      have P : Blk w1 (w.heap.size) 29 #[.int .i64 a, .int .i64 b, .int .i64 c, .int .i64 d] := Blk.thru0 ((Blk.newAt (by simp)).alloc _) hb
      have Q : Blk w1 (w.heap.size + 1) 25 #[.int .i64 x, .int .i64 y] := Blk.thru0 (Blk.newAt (by simp)) hb
      have hB : Below w.heap.size w w1 := below_trans (by go_grown) hb
      have hszw1 := hb.size
      (try simp at hszw1)
      clear hb
      have kP0 := P.cell 0
      have kP1 := P.cell 1
      have kP2 := P.cell 2
      have kP3 := P.cell 3
      have kQ0 := Q.cell 0
      have kQ1 := Q.cell 1
      simp only [List.getElem?_toArray, List.getElem?_cons_zero, List.getElem?_cons_succ] at kP0 kP1 kP2 kP3 kQ0 kQ1
      have zP := P.lt
      have zQ := Q.lt
      go_wp2_with fail
      refine (HOF.out _).mono ?_
      rintro e w2 ⟨rfl, hb⟩
      replace P : Blk w2 (w.heap.size) 29 #[.int .i64 a, .int .i64 b, .int .i64 c, .int .i64 d] := Blk.thru0 ((P).alloc _) hb
      replace Q : Blk w2 (w.heap.size + 1) 25 #[.int .i64 x, .int .i64 y] := Blk.thru0 ((Q).alloc _) hb
      have A : Blk w2 (w1.heap.size) 29 #[.int .i64 (s0 a b c d L), .int .i64 (s1 a b c d L), .int .i64 (s2 a b c d L), .int .i64 (s3 a b c d L)] := Blk.thru0 (Blk.newAt (by simp)) hb
      have hs := hB.size
      replace hB : Below w.heap.size w w2 := below_trans (by go_grown) hb
      clear hs
      clear kP0 kP1 kP2 kP3 kQ0 kQ1 zP zQ
      have hszw2 := hb.size
      (try simp at hszw2)
      clear hb
      have kP0 := P.cell 0
      have kP1 := P.cell 1
      have kP2 := P.cell 2
      have kP3 := P.cell 3
      have kQ0 := Q.cell 0
      have kQ1 := Q.cell 1
      have kA0 := A.cell 0
      have kA1 := A.cell 1
      have kA2 := A.cell 2
      have kA3 := A.cell 3
      simp only [List.getElem?_toArray, List.getElem?_cons_zero, List.getElem?_cons_succ] at kP0 kP1 kP2 kP3 kQ0 kQ1 kA0 kA1 kA2 kA3
      have zP := P.lt
      have zQ := Q.lt
      have zA := A.lt
      go_wp2_with fail
      refine (HBX.out _).mono ?_
      rintro e w3 ⟨rfl, hb⟩
      replace P : Blk w3 (w.heap.size) 29 #[.int .i64 a, .int .i64 b, .int .i64 c, .int .i64 d] := Blk.thru0 ((P).alloc _) hb
      replace Q : Blk w3 (w.heap.size + 1) 25 #[.int .i64 x, .int .i64 y] := Blk.thru0 ((Q).alloc _) hb
      replace A : Blk w3 (w1.heap.size) 29 #[.int .i64 (s0 a b c d L), .int .i64 (s1 a b c d L), .int .i64 (s2 a b c d L), .int .i64 (s3 a b c d L)] := Blk.thru0 ((A).alloc _) hb
      have C : Blk w3 (w2.heap.size) 23 #[.int .i64 (L : Int), .int .i64 u, .int .i64 v] := Blk.thru0 (Blk.newAt (by simp)) hb
      have hs := hB.size
      replace hB : Below w.heap.size w w3 := below_trans (by go_grown) hb
      clear hs
      clear kP0 kP1 kP2 kP3 kQ0 kQ1 kA0 kA1 kA2 kA3 zP zQ zA
      have hszw3 := hb.size
      (try simp at hszw3)
      clear hb
      have kP0 := P.cell 0
      have kP1 := P.cell 1
      have kP2 := P.cell 2
      have kP3 := P.cell 3
      have kQ0 := Q.cell 0
      have kQ1 := Q.cell 1
      have kA0 := A.cell 0
      have kA1 := A.cell 1
      have kA2 := A.cell 2
      have kA3 := A.cell 3
      have kC0 := C.cell 0
      have kC1 := C.cell 1
      have kC2 := C.cell 2
      simp only [List.getElem?_toArray, List.getElem?_cons_zero, List.getElem?_cons_succ] at kP0 kP1 kP2 kP3 kQ0 kQ1 kA0 kA1 kA2 kA3 kC0 kC1 kC2
      have zP := P.lt
      have zQ := Q.lt
      have zA := A.lt
      have zC := C.lt
      go_wp2_with fail
      have hs := hB.size
      have hB9 : Below w.heap.size w (w3.alloc (.cells #[.int .i64 (u * s), .int .i64 (v * s), .int .i64 (u * s + s - 1), .int .i64 (v * s + s - 1)] 29)) := by go_grown
      have P9 : Blk (w3.alloc (.cells #[.int .i64 (u * s), .int .i64 (v * s), .int .i64 (u * s + s - 1), .int .i64 (v * s + s - 1)] 29)) (w.heap.size) 29 #[.int .i64 a, .int .i64 b, .int .i64 c, .int .i64 d] := (P).alloc _
      have Q9 : Blk (w3.alloc (.cells #[.int .i64 (u * s), .int .i64 (v * s), .int .i64 (u * s + s - 1), .int .i64 (v * s + s - 1)] 29)) (w.heap.size + 1) 25 #[.int .i64 x, .int .i64 y] := (Q).alloc _
      have A9 : Blk (w3.alloc (.cells #[.int .i64 (u * s), .int .i64 (v * s), .int .i64 (u * s + s - 1), .int .i64 (v * s + s - 1)] 29)) (w1.heap.size) 29 #[.int .i64 (s0 a b c d L), .int .i64 (s1 a b c d L), .int .i64 (s2 a b c d L), .int .i64 (s3 a b c d L)] := (A).alloc _
      have C9 : Blk (w3.alloc (.cells #[.int .i64 (u * s), .int .i64 (v * s), .int .i64 (u * s + s - 1), .int .i64 (v * s + s - 1)] 29)) (w2.heap.size) 23 #[.int .i64 (L : Int), .int .i64 u, .int .i64 v] := (C).alloc _
      have B9 : Blk (w3.alloc (.cells #[.int .i64 (u * s), .int .i64 (v * s), .int .i64 (u * s + s - 1), .int .i64 (v * s + s - 1)] 29)) (w3.heap.size) 29 #[.int .i64 (u * s), .int .i64 (v * s), .int .i64 (u * s + s - 1), .int .i64 (v * s + s - 1)] := Blk.newAt (by simp)
      generalize w3.alloc (.cells #[.int .i64 (u * s), .int .i64 (v * s), .int .i64 (u * s + s - 1), .int .i64 (v * s + s - 1)] 29) = W9 at hB9 P9 Q9 A9 C9 B9 ⊢
      clear kP0 kP1 kP2 kP3 kQ0 kQ1 kA0 kA1 kA2 kA3 kC0 kC1 kC2 zP zQ zA zC
      clear hs hB P Q A C
      have hB := hB9
      clear hB9
      have P := P9
      clear P9
      have Q := Q9
      clear Q9
      have A := A9
      clear A9
      have C := C9
      clear C9
      have B := B9
      clear B9
      have kP0 := P.cell 0
      have kP1 := P.cell 1
      have kP2 := P.cell 2
      have kP3 := P.cell 3
      have kQ0 := Q.cell 0
      have kQ1 := Q.cell 1
      have kA0 := A.cell 0
      have kA1 := A.cell 1
      have kA2 := A.cell 2
      have kA3 := A.cell 3
      have kC0 := C.cell 0
      have kC1 := C.cell 1
      have kC2 := C.cell 2
      have kB0 := B.cell 0
      have kB1 := B.cell 1
      have kB2 := B.cell 2
      have kB3 := B.cell 3
      simp only [List.getElem?_toArray, List.getElem?_cons_zero, List.getElem?_cons_succ] at kP0 kP1 kP2 kP3 kQ0 kQ1 kA0 kA1 kA2 kA3 kC0 kC1 kC2 kB0 kB1 kB2 kB3
      have zP := P.lt
      have zQ := Q.lt
      have zA := A.lt
      have zC := C.lt
      have zB := B.lt
      clear zP zQ zA zC zB
      have m1 := M1.out.symm; have m2 := M2.out; have m3 := M3.out.symm; have m4 := M4.out; have m5 := M5.out
      go_region_held3 (fun w' => (w'.cell? ⟨w.heap.size, 0, none⟩ = some (.int .i64 a)) ∧ (w'.cell? ⟨w.heap.size, 1, none⟩ = some (.int .i64 b)) ∧ (w'.cell? ⟨w.heap.size, 2, none⟩ = some (.int .i64 c)) ∧ (w'.cell? ⟨w.heap.size, 3, none⟩ = some (.int .i64 d)) ∧ (w'.cell? ⟨w.heap.size + 1, 0, none⟩ = some (.int .i64 x)) ∧ (w'.cell? ⟨w.heap.size + 1, 1, none⟩ = some (.int .i64 y)) ∧ (w'.cell? ⟨w1.heap.size, 0, none⟩ = some (.int .i64 (s0 a b c d L))) ∧ (w'.cell? ⟨w1.heap.size, 1, none⟩ = some (.int .i64 (s1 a b c d L))) ∧ (w'.cell? ⟨w1.heap.size, 2, none⟩ = some (.int .i64 (s2 a b c d L))) ∧ (w'.cell? ⟨w1.heap.size, 3, none⟩ = some (.int .i64 (s3 a b c d L))) ∧ (w'.cell? ⟨w3.heap.size, 0, none⟩ = some (.int .i64 (u * s))) ∧ (w'.cell? ⟨w3.heap.size, 1, none⟩ = some (.int .i64 (v * s))) ∧ (w'.cell? ⟨w3.heap.size, 2, none⟩ = some (.int .i64 (u * s + s - 1))) ∧ (w'.cell? ⟨w3.heap.size, 3, none⟩ = some (.int .i64 (v * s + s - 1))) ∧ (Below w.heap.size w w')) (first | (go_split_ands; refine ⟨?_, ?_, ?_, ?_, ?_, ?_, ?_, ?_, ?_, ?_, ?_, ?_, ?_, ?_, ?_⟩ <;> first | (exact cell_later (by assumption) (by assumption)) | (exact below_then (by assumption) (by assumption)) | (go_grown; done) | go_keep)) (first | (go_at_call 35; refine (meets_u _ _ _ _ _ _ _ _ _).mono ?_; rintro e w9 ⟨rfl, hb9⟩) | (go_at_call 29; refine (has_any _ _ _ _ _ _ _).mono ?_; rintro e w9 ⟨rfl, hb9⟩) | (go_at_call 28; refine (in_any _ _ _ _ _ _ _ _ _).mono ?_; rintro e w9 ⟨rfl, hb9⟩) | (go_at_call 18; refine (known_any _).mono ?_; rintro e w9 ⟨rfl, hb9⟩))
      all_goals
        go_wp2
        go_ret
        refine ⟨rfl, ?_⟩
        (repeat' (first | (with_reducible assumption) | (go_grown; done) | (refine below_trans ?_ (by assumption))))
    · have hk : okA 16 x y l = false := by rw [okA_of, h2, Bool.and_false]
      go_enter Try.func8, Try.ntmps8
      go_wp2_with fail
      refine (snap_u a b c d l _).mono ?_
      rintro e w1 ⟨rfl, hb⟩
      have P : Blk w1 (w.heap.size) 29 #[.int .i64 a, .int .i64 b, .int .i64 c, .int .i64 d] := Blk.thru0 ((Blk.newAt (by simp)).alloc _) hb
      have Q : Blk w1 (w.heap.size + 1) 25 #[.int .i64 x, .int .i64 y] := Blk.thru0 (Blk.newAt (by simp)) hb
      have hB : Below w.heap.size w w1 := below_trans (by go_grown) hb
      have hszw1 := hb.size
      (try simp at hszw1)
      clear hb
      have kP0 := P.cell 0
      have kP1 := P.cell 1
      have kP2 := P.cell 2
      have kP3 := P.cell 3
      have kQ0 := Q.cell 0
      have kQ1 := Q.cell 1
      simp only [List.getElem?_toArray, List.getElem?_cons_zero, List.getElem?_cons_succ] at kP0 kP1 kP2 kP3 kQ0 kQ1
      have zP := P.lt
      have zQ := Q.lt
      go_wp2_with fail
      refine (cof_u x y l _).mono ?_
      rintro e w2 ⟨rfl, hb⟩
      replace P : Blk w2 (w.heap.size) 29 #[.int .i64 a, .int .i64 b, .int .i64 c, .int .i64 d] := Blk.thru0 ((P).alloc _) hb
      replace Q : Blk w2 (w.heap.size + 1) 25 #[.int .i64 x, .int .i64 y] := Blk.thru0 ((Q).alloc _) hb
      have A : Blk w2 (w1.heap.size) 29 #[.int .i64 (s0 a b c d l), .int .i64 (s1 a b c d l), .int .i64 (s2 a b c d l), .int .i64 (s3 a b c d l)] := Blk.thru0 (Blk.newAt (by simp)) hb
      have hs := hB.size
      replace hB : Below w.heap.size w w2 := below_trans (by go_grown) hb
      clear hs
      clear kP0 kP1 kP2 kP3 kQ0 kQ1 zP zQ
      have hszw2 := hb.size
      (try simp at hszw2)
      clear hb
      have kP0 := P.cell 0
      have kP1 := P.cell 1
      have kP2 := P.cell 2
      have kP3 := P.cell 3
      have kQ0 := Q.cell 0
      have kQ1 := Q.cell 1
      have kA0 := A.cell 0
      have kA1 := A.cell 1
      have kA2 := A.cell 2
      have kA3 := A.cell 3
      simp only [List.getElem?_toArray, List.getElem?_cons_zero, List.getElem?_cons_succ] at kP0 kP1 kP2 kP3 kQ0 kQ1 kA0 kA1 kA2 kA3
      have zP := P.lt
      have zQ := Q.lt
      have zA := A.lt
      go_wp2_with fail
      refine (cbox_u _ _ _ _).mono ?_
      rintro e w3 ⟨rfl, hb⟩
      replace P : Blk w3 (w.heap.size) 29 #[.int .i64 a, .int .i64 b, .int .i64 c, .int .i64 d] := Blk.thru0 ((P).alloc _) hb
      replace Q : Blk w3 (w.heap.size + 1) 25 #[.int .i64 x, .int .i64 y] := Blk.thru0 ((Q).alloc _) hb
      replace A : Blk w3 (w1.heap.size) 29 #[.int .i64 (s0 a b c d l), .int .i64 (s1 a b c d l), .int .i64 (s2 a b c d l), .int .i64 (s3 a b c d l)] := Blk.thru0 ((A).alloc _) hb
      have C : Blk w3 (w2.heap.size) 23 #[.int .i64 (a0 16 x y l), .int .i64 (a1 16 x y l), .int .i64 (a2 16 x y l)] := Blk.thru0 (Blk.newAt (by simp)) hb
      have hs := hB.size
      replace hB : Below w.heap.size w w3 := below_trans (by go_grown) hb
      clear hs
      clear kP0 kP1 kP2 kP3 kQ0 kQ1 kA0 kA1 kA2 kA3 zP zQ zA
      have hszw3 := hb.size
      (try simp at hszw3)
      clear hb
      have kP0 := P.cell 0
      have kP1 := P.cell 1
      have kP2 := P.cell 2
      have kP3 := P.cell 3
      have kQ0 := Q.cell 0
      have kQ1 := Q.cell 1
      have kA0 := A.cell 0
      have kA1 := A.cell 1
      have kA2 := A.cell 2
      have kA3 := A.cell 3
      have kC0 := C.cell 0
      have kC1 := C.cell 1
      have kC2 := C.cell 2
      simp only [List.getElem?_toArray, List.getElem?_cons_zero, List.getElem?_cons_succ] at kP0 kP1 kP2 kP3 kQ0 kQ1 kA0 kA1 kA2 kA3 kC0 kC1 kC2
      have zP := P.lt
      have zQ := Q.lt
      have zA := A.lt
      have zC := C.lt
      go_wp2_with fail
      refine (known_any _).mono ?_
      rintro e w4 ⟨rfl, hb⟩
      replace P : Blk w4 (w.heap.size) 29 #[.int .i64 a, .int .i64 b, .int .i64 c, .int .i64 d] := Blk.thru0 ((P).alloc _) hb
      replace Q : Blk w4 (w.heap.size + 1) 25 #[.int .i64 x, .int .i64 y] := Blk.thru0 ((Q).alloc _) hb
      replace A : Blk w4 (w1.heap.size) 29 #[.int .i64 (s0 a b c d l), .int .i64 (s1 a b c d l), .int .i64 (s2 a b c d l), .int .i64 (s3 a b c d l)] := Blk.thru0 ((A).alloc _) hb
      replace C : Blk w4 (w2.heap.size) 23 #[.int .i64 (a0 16 x y l), .int .i64 (a1 16 x y l), .int .i64 (a2 16 x y l)] := Blk.thru0 ((C).alloc _) hb
      have B : Blk w4 (w3.heap.size) 29 #[.int .i64 (b0 (a0 16 x y l) (a1 16 x y l) (a2 16 x y l)), .int .i64 (b1 (a0 16 x y l) (a1 16 x y l) (a2 16 x y l)), .int .i64 (b2 (a0 16 x y l) (a1 16 x y l) (a2 16 x y l)), .int .i64 (b3 (a0 16 x y l) (a1 16 x y l) (a2 16 x y l))] := Blk.thru0 (Blk.newAt (by simp)) hb
      have hs := hB.size
      replace hB : Below w.heap.size w w4 := below_trans (by go_grown) hb
      clear hs
      clear kP0 kP1 kP2 kP3 kQ0 kQ1 kA0 kA1 kA2 kA3 kC0 kC1 kC2 zP zQ zA zC
      have hszw4 := hb.size
      (try simp at hszw4)
      clear hb
      have kP0 := P.cell 0
      have kP1 := P.cell 1
      have kP2 := P.cell 2
      have kP3 := P.cell 3
      have kQ0 := Q.cell 0
      have kQ1 := Q.cell 1
      have kA0 := A.cell 0
      have kA1 := A.cell 1
      have kA2 := A.cell 2
      have kA3 := A.cell 3
      have kC0 := C.cell 0
      have kC1 := C.cell 1
      have kC2 := C.cell 2
      have kB0 := B.cell 0
      have kB1 := B.cell 1
      have kB2 := B.cell 2
      have kB3 := B.cell 3
      simp only [List.getElem?_toArray, List.getElem?_cons_zero, List.getElem?_cons_succ] at kP0 kP1 kP2 kP3 kQ0 kQ1 kA0 kA1 kA2 kA3 kC0 kC1 kC2 kB0 kB1 kB2 kB3
      have zP := P.lt
      have zQ := Q.lt
      have zA := A.lt
      have zC := C.lt
      have zB := B.lt
      go_wp2
      go_ret
      exact ⟨rfl, by first | exact hB | go_grown⟩
  · have hk := h1
    go_enter Try.func8, Try.ntmps8
    go_wp2_with fail
    refine (snap_u a b c d l _).mono ?_
    rintro e w1 ⟨rfl, hb⟩
    have P : Blk w1 (w.heap.size) 29 #[.int .i64 a, .int .i64 b, .int .i64 c, .int .i64 d] := Blk.thru0 ((Blk.newAt (by simp)).alloc _) hb
    have Q : Blk w1 (w.heap.size + 1) 25 #[.int .i64 x, .int .i64 y] := Blk.thru0 (Blk.newAt (by simp)) hb
    have hB : Below w.heap.size w w1 := below_trans (by go_grown) hb
    have hszw1 := hb.size
    (try simp at hszw1)
    clear hb
    have kP0 := P.cell 0
    have kP1 := P.cell 1
    have kP2 := P.cell 2
    have kP3 := P.cell 3
    have kQ0 := Q.cell 0
    have kQ1 := Q.cell 1
    simp only [List.getElem?_toArray, List.getElem?_cons_zero, List.getElem?_cons_succ] at kP0 kP1 kP2 kP3 kQ0 kQ1
    have zP := P.lt
    have zQ := Q.lt
    go_wp2_with fail
    refine (cof_u x y l _).mono ?_
    rintro e w2 ⟨rfl, hb⟩
    replace P : Blk w2 (w.heap.size) 29 #[.int .i64 a, .int .i64 b, .int .i64 c, .int .i64 d] := Blk.thru0 ((P).alloc _) hb
    replace Q : Blk w2 (w.heap.size + 1) 25 #[.int .i64 x, .int .i64 y] := Blk.thru0 ((Q).alloc _) hb
    have A : Blk w2 (w1.heap.size) 29 #[.int .i64 (s0 a b c d l), .int .i64 (s1 a b c d l), .int .i64 (s2 a b c d l), .int .i64 (s3 a b c d l)] := Blk.thru0 (Blk.newAt (by simp)) hb
    have hs := hB.size
    replace hB : Below w.heap.size w w2 := below_trans (by go_grown) hb
    clear hs
    clear kP0 kP1 kP2 kP3 kQ0 kQ1 zP zQ
    have hszw2 := hb.size
    (try simp at hszw2)
    clear hb
    have kP0 := P.cell 0
    have kP1 := P.cell 1
    have kP2 := P.cell 2
    have kP3 := P.cell 3
    have kQ0 := Q.cell 0
    have kQ1 := Q.cell 1
    have kA0 := A.cell 0
    have kA1 := A.cell 1
    have kA2 := A.cell 2
    have kA3 := A.cell 3
    simp only [List.getElem?_toArray, List.getElem?_cons_zero, List.getElem?_cons_succ] at kP0 kP1 kP2 kP3 kQ0 kQ1 kA0 kA1 kA2 kA3
    have zP := P.lt
    have zQ := Q.lt
    have zA := A.lt
    go_wp2_with fail
    refine (cbox_u _ _ _ _).mono ?_
    rintro e w3 ⟨rfl, hb⟩
    replace P : Blk w3 (w.heap.size) 29 #[.int .i64 a, .int .i64 b, .int .i64 c, .int .i64 d] := Blk.thru0 ((P).alloc _) hb
    replace Q : Blk w3 (w.heap.size + 1) 25 #[.int .i64 x, .int .i64 y] := Blk.thru0 ((Q).alloc _) hb
    replace A : Blk w3 (w1.heap.size) 29 #[.int .i64 (s0 a b c d l), .int .i64 (s1 a b c d l), .int .i64 (s2 a b c d l), .int .i64 (s3 a b c d l)] := Blk.thru0 ((A).alloc _) hb
    have C : Blk w3 (w2.heap.size) 23 #[.int .i64 (a0 16 x y l), .int .i64 (a1 16 x y l), .int .i64 (a2 16 x y l)] := Blk.thru0 (Blk.newAt (by simp)) hb
    have hs := hB.size
    replace hB : Below w.heap.size w w3 := below_trans (by go_grown) hb
    clear hs
    clear kP0 kP1 kP2 kP3 kQ0 kQ1 kA0 kA1 kA2 kA3 zP zQ zA
    have hszw3 := hb.size
    (try simp at hszw3)
    clear hb
    have kP0 := P.cell 0
    have kP1 := P.cell 1
    have kP2 := P.cell 2
    have kP3 := P.cell 3
    have kQ0 := Q.cell 0
    have kQ1 := Q.cell 1
    have kA0 := A.cell 0
    have kA1 := A.cell 1
    have kA2 := A.cell 2
    have kA3 := A.cell 3
    have kC0 := C.cell 0
    have kC1 := C.cell 1
    have kC2 := C.cell 2
    simp only [List.getElem?_toArray, List.getElem?_cons_zero, List.getElem?_cons_succ] at kP0 kP1 kP2 kP3 kQ0 kQ1 kA0 kA1 kA2 kA3 kC0 kC1 kC2
    have zP := P.lt
    have zQ := Q.lt
    have zA := A.lt
    have zC := C.lt
    go_wp2_with fail
    refine (known_any _).mono ?_
    rintro e w4 ⟨rfl, hb⟩
    replace P : Blk w4 (w.heap.size) 29 #[.int .i64 a, .int .i64 b, .int .i64 c, .int .i64 d] := Blk.thru0 ((P).alloc _) hb
    replace Q : Blk w4 (w.heap.size + 1) 25 #[.int .i64 x, .int .i64 y] := Blk.thru0 ((Q).alloc _) hb
    replace A : Blk w4 (w1.heap.size) 29 #[.int .i64 (s0 a b c d l), .int .i64 (s1 a b c d l), .int .i64 (s2 a b c d l), .int .i64 (s3 a b c d l)] := Blk.thru0 ((A).alloc _) hb
    replace C : Blk w4 (w2.heap.size) 23 #[.int .i64 (a0 16 x y l), .int .i64 (a1 16 x y l), .int .i64 (a2 16 x y l)] := Blk.thru0 ((C).alloc _) hb
    have B : Blk w4 (w3.heap.size) 29 #[.int .i64 (b0 (a0 16 x y l) (a1 16 x y l) (a2 16 x y l)), .int .i64 (b1 (a0 16 x y l) (a1 16 x y l) (a2 16 x y l)), .int .i64 (b2 (a0 16 x y l) (a1 16 x y l) (a2 16 x y l)), .int .i64 (b3 (a0 16 x y l) (a1 16 x y l) (a2 16 x y l))] := Blk.thru0 (Blk.newAt (by simp)) hb
    have hs := hB.size
    replace hB : Below w.heap.size w w4 := below_trans (by go_grown) hb
    clear hs
    clear kP0 kP1 kP2 kP3 kQ0 kQ1 kA0 kA1 kA2 kA3 kC0 kC1 kC2 zP zQ zA zC
    have hszw4 := hb.size
    (try simp at hszw4)
    clear hb
    have kP0 := P.cell 0
    have kP1 := P.cell 1
    have kP2 := P.cell 2
    have kP3 := P.cell 3
    have kQ0 := Q.cell 0
    have kQ1 := Q.cell 1
    have kA0 := A.cell 0
    have kA1 := A.cell 1
    have kA2 := A.cell 2
    have kA3 := A.cell 3
    have kC0 := C.cell 0
    have kC1 := C.cell 1
    have kC2 := C.cell 2
    have kB0 := B.cell 0
    have kB1 := B.cell 1
    have kB2 := B.cell 2
    have kB3 := B.cell 3
    simp only [List.getElem?_toArray, List.getElem?_cons_zero, List.getElem?_cons_succ] at kP0 kP1 kP2 kP3 kQ0 kQ1 kA0 kA1 kA2 kA3 kC0 kC1 kC2 kB0 kB1 kB2 kB3
    have zP := P.lt
    have zQ := Q.lt
    have zA := A.lt
    have zC := C.lt
    have zB := B.lt
    go_wp2
    go_ret
    exact ⟨rfl, by first | exact hB | go_grown⟩

theorem own : ownKnob Try.prog.godebug = none := by kernel_rfl
theorem laidOut : laidOutB Try.prog = true := by kernel_rfl
set_option maxRecDepth 100000 in
theorem lifted (os : Os) (started : os.Started) (H : Type) (enc : TypeId × Value → H) :
    ReturnsInHanded {} Try.checked os 8 .any (Rows.cellMeetsSpec.pre6 enc Try.prog Try.f8 Rows.cellMeetsRow.domain false) (Rows.cellMeetsSpec.post enc Try.prog Try.f8 false true false false) := by
  refine returnsInHanded_of_change (C := Try.checked) own started (by kernel_rfl) Try.func8
    (ChangeSpec.witness6 (enc := enc) (C := Try.checked) false ⟨#[], #[.agg #[.int .i64 0, .int .i64 0, .int .i64 0, .int .i64 0], .int .i64 0, .agg #[.int .i64 0, .int .i64 0]], []⟩ 8 (by kernel_rfl) (by kernel_rfl) (by kernel_rfl) (by kernel_rfl)) ?_
  intro W base args ds gs before hval0 hW hcnd _
  have hval : ∀ (j : Nat) t v, Try.f8.params[j]? = some t → args[j]? = some v → Value.okWide Try.prog W .any base t v := hval0
  have hW' := hW
  obtain ⟨p, q, hA0, hV, rfl, hfz, hnd⟩ := hW
  have hA : DataW.TrodAll enc Try.prog W 0 (fun _ => true) true Try.f8.params.toList args.toList ds p := hA0
  rw [Try.params8] at hA hval
  obtain ⟨v0, vs0, d0, ds0, p0, q0, hargs, rfl, rfl, h0, r0⟩ := trodAll_cons hA
  obtain ⟨v1, vs1, d1, ds1, p1, q1, rfl, rfl, rfl, h1, r1⟩ := trodAll_cons r0
  obtain ⟨v2, vs2, d2, ds2, p2, q2, rfl, rfl, rfl, h2, r2⟩ := trodAll_cons r1
  obtain ⟨rfl, rfl, rfl⟩ := trodAll_nil r2
  obtain rfl : args = #[v0, v1, v2] := by cases args; simp_all
  obtain ⟨rfl, rfl⟩ := trodVars_none hV
  have k0 := h0
  have lt0 : ∀ x ∈ p0, x.block < W.heap.size := by obtain ⟨m, hm⟩ := k0; exact DataW.trod_lt m _ _ _ hm
  obtain ⟨c0_0, c0_1, c0_2, c0_3, y0_0, y0_1, y0_2, y0_3, m0, rfl, rfl, rfl, hy0_0, hy0_1, hy0_2, hy0_3⟩ := Joins.open_agg4 Try.underlying29 (by kernel_rfl) (by kernel_rfl) (hval 0 29 v0 rfl rfl) h0
  obtain ⟨a0_0, e0_0, rfl, w0_0⟩ := DataW.trod_int Try.underlying3 hy0_0
  simp only [List.cons.injEq, and_true] at e0_0
  subst e0_0
  obtain ⟨a0_1, e0_1, rfl, w0_1⟩ := DataW.trod_int Try.underlying3 hy0_1
  simp only [List.cons.injEq, and_true] at e0_1
  subst e0_1
  obtain ⟨a0_2, e0_2, rfl, w0_2⟩ := DataW.trod_int Try.underlying3 hy0_2
  simp only [List.cons.injEq, and_true] at e0_2
  subst e0_2
  obtain ⟨a0_3, e0_3, rfl, w0_3⟩ := DataW.trod_int Try.underlying3 hy0_3
  simp only [List.cons.injEq, and_true] at e0_3
  subst e0_3
  have k1 := h1
  have lt1 : ∀ x ∈ p1, x.block < W.heap.size := by obtain ⟨m, hm⟩ := k1; exact DataW.trod_lt m _ _ _ hm
  obtain ⟨a1, rfl, rfl, rfl, w1⟩ := open_int Try.underlying3 (hval 1 3 v1 rfl rfl) h1
  have k2 := h2
  have lt2 : ∀ x ∈ p2, x.block < W.heap.size := by obtain ⟨m, hm⟩ := k2; exact DataW.trod_lt m _ _ _ hm
  obtain ⟨c2_0, c2_1, y2_0, y2_1, m2, rfl, rfl, rfl, hy2_0, hy2_1⟩ := Joins.open_agg2 Try.underlying25 (by kernel_rfl) (by kernel_rfl) (hval 2 25 v2 rfl rfl) h2
  obtain ⟨a2_0, e2_0, rfl, w2_0⟩ := DataW.trod_int Try.underlying3 hy2_0
  simp only [List.cons.injEq, and_true] at e2_0
  subst e2_0
  obtain ⟨a2_1, e2_1, rfl, w2_1⟩ := DataW.trod_int Try.underlying3 hy2_1
  simp only [List.cons.injEq, and_true] at e2_1
  subst e2_1
  clear hA0 hval0
  refine (walk a0_0 a0_1 a0_2 a0_3 a1 a2_0 a2_1 W (bounds_i64 w0_0) (bounds_i64 w0_1) (bounds_i64 w0_2) (bounds_i64 w0_3) (bounds_i64 w1) (bounds_i64 w2_0) (bounds_i64 w2_1)).mono fun e W' ⟨he, bel⟩ => ?_
  subst he
  exact ⟨_, rfl, _, _, _, [], _, [], hW', trodAll_mk1 (shut_bool Try.underlying4 _), (trodAll_cons_mk (Below.trod laidOut (by kernel_rfl) (of_decide_eq_true (by kernel_rfl)) k0 bel lt0) (trodAll_cons_mk (Below.trod laidOut (by kernel_rfl) (of_decide_eq_true (by kernel_rfl)) k1 bel lt1) (trodAll_cons_mk (Below.trod laidOut (by kernel_rfl) (of_decide_eq_true (by kernel_rfl)) k2 bel lt2) trodAll_mk0))), rfl, bel.frame _, fun h => by cases h⟩
theorem over : Rows.cellMeetsRow.holds Try.pinned (OpenSpec.ofChange Rows.cellMeetsSpec) :=
  OpenClaim.holds_of_wide 8 Try.f8 rfl rfl rfl rfl rfl rfl rfl ⟨rfl, rfl, rfl, rfl, rfl⟩ rfl rfl rfl rfl rfl (by kernel_rfl) Try.func8 (by kernel_rfl)
    (of_decide_eq_true (by kernel_rfl)) (by unfold Func.isWrapper; first | (rw [if_pos (by decide +kernel)]; kernel_rfl) | (rw [if_neg (by decide +kernel)]; exact ⟨rfl, rfl⟩))
    (fun os started H enc _ => lifted os started H enc)
/-- The statement. -/
theorem proved : Rows.CellMeetsSaid := over
#print axioms proved
end Go.Proofs.Ytpbnbnhmlpjbjaa.cellMeets
