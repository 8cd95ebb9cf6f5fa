/- CellAsks: (P3.1) every cell has its box or may not be, as the document says; every point has its cell of every level. Conditions: none. -/
import Derived.Test.YtpbnbnhmlpjbjaaCellKnown
import Derived.Test.YtpbnbnhmlpjbjaaFrame
import Derived.Lib.SmallJoins
namespace Go.Proofs.Ytpbnbnhmlpjbjaa.cellAsks
set_option linter.unusedVariables false
set_option linter.unusedSimpArgs false
open Go.ChangeShapes Go.WideShapes Go.ChangeAt Go.RowKit
open Go.ChangeMaps (open_string shut_string)
set_option maxHeartbeats 2000000 in
theorem walk (L X Y x y l : Int) (w : World) (_hL : -9223372036854775808 ≤ L ∧ L ≤ 9223372036854775807) (_hX : -9223372036854775808 ≤ X ∧ X ≤ 9223372036854775807) (_hY : -9223372036854775808 ≤ Y ∧ Y ≤ 9223372036854775807) (_hx : -9223372036854775808 ≤ x ∧ x ≤ 9223372036854775807) (_hy : -9223372036854775808 ≤ y ∧ y ≤ 9223372036854775807) (_hl : -9223372036854775808 ≤ l ∧ l ≤ 9223372036854775807)  :
    Calls Try.prog 3 #[.agg #[.int .i64 L, .int .i64 X, .int .i64 Y], .agg #[.int .i64 x, .int .i64 y], .int .i64 l] w fun e w' => e = .returned (.bool true) ∧ Below w.heap.size w w' := by
  go_enter Try.func3, Try.ntmps3
  go_wp2_with fail
  refine (cof_u x y l _).mono ?_
  rintro e w1 ⟨rfl, hb⟩
  have P : Blk w1 (w.heap.size) 23 #[.int .i64 L, .int .i64 X, .int .i64 Y] := Blk.thru0 ((Blk.newAt (by simp)).alloc _) hb
  have Q : Blk w1 (w.heap.size + 1) 25 #[.int .i64 x, .int .i64 y] := Blk.thru0 (Blk.newAt (by simp)) hb
  have hB : Below w.heap.size w w1 := below_trans (by go_grown) hb
  have hszw1 := hb.size
  (try simp at hszw1)
  clear hb
  have kP0 := P.cell 0
  have kP1 := P.cell 1
  have kP2 := P.cell 2
  have kQ0 := Q.cell 0
  have kQ1 := Q.cell 1
  simp only [List.getElem?_toArray, List.getElem?_cons_zero, List.getElem?_cons_succ] at kP0 kP1 kP2 kQ0 kQ1
  have zP := P.lt
  have zQ := Q.lt
  go_wp2_with fail
  refine (rof_u x y l _).mono ?_
  rintro e w2 ⟨rfl, hb⟩
  replace P : Blk w2 (w.heap.size) 23 #[.int .i64 L, .int .i64 X, .int .i64 Y] := Blk.thru0 ((P).alloc _) hb
  replace Q : Blk w2 (w.heap.size + 1) 25 #[.int .i64 x, .int .i64 y] := Blk.thru0 ((Q).alloc _) hb
  have A : Blk w2 (w1.heap.size) 23 #[.int .i64 (a0 16 x y l), .int .i64 (a1 16 x y l), .int .i64 (a2 16 x y l)] := Blk.thru0 (Blk.newAt (by simp)) hb
  have hs := hB.size
  replace hB : Below w.heap.size w w2 := below_trans (by go_grown) hb
  clear hs
  clear kP0 kP1 kP2 kQ0 kQ1 zP zQ
  have hszw2 := hb.size
  (try simp at hszw2)
  clear hb
  have kP0 := P.cell 0
  have kP1 := P.cell 1
  have kP2 := P.cell 2
  have kQ0 := Q.cell 0
  have kQ1 := Q.cell 1
  have kA0 := A.cell 0
  have kA1 := A.cell 1
  have kA2 := A.cell 2
  simp only [List.getElem?_toArray, List.getElem?_cons_zero, List.getElem?_cons_succ] at kP0 kP1 kP2 kQ0 kQ1 kA0 kA1 kA2
  have zP := P.lt
  have zQ := Q.lt
  have zA := A.lt
  go_wp2_with fail
  refine (cbox_u L X Y _).mono ?_
  rintro e w3 ⟨rfl, hb⟩
  replace P : Blk w3 (w.heap.size) 23 #[.int .i64 L, .int .i64 X, .int .i64 Y] := Blk.thru0 ((P).alloc _) hb
  replace Q : Blk w3 (w.heap.size + 1) 25 #[.int .i64 x, .int .i64 y] := Blk.thru0 ((Q).alloc _) hb
  replace A : Blk w3 (w1.heap.size) 23 #[.int .i64 (a0 16 x y l), .int .i64 (a1 16 x y l), .int .i64 (a2 16 x y l)] := Blk.thru0 ((A).alloc _) hb
  have B : Blk w3 (w2.heap.size) 23 #[.int .i64 (a0 16 x y l), .int .i64 (a1 16 x y l), .int .i64 (a2 16 x y l)] := Blk.thru0 (Blk.newAt (by simp)) hb
  have hs := hB.size
  replace hB : Below w.heap.size w w3 := below_trans (by go_grown) hb
  clear hs
  clear kP0 kP1 kP2 kQ0 kQ1 kA0 kA1 kA2 zP zQ zA
  have hszw3 := hb.size
  (try simp at hszw3)
  clear hb
  have kP0 := P.cell 0
  have kP1 := P.cell 1
  have kP2 := P.cell 2
  have kQ0 := Q.cell 0
  have kQ1 := Q.cell 1
  have kA0 := A.cell 0
  have kA1 := A.cell 1
  have kA2 := A.cell 2
  have kB0 := B.cell 0
  have kB1 := B.cell 1
  have kB2 := B.cell 2
  simp only [List.getElem?_toArray, List.getElem?_cons_zero, List.getElem?_cons_succ] at kP0 kP1 kP2 kQ0 kQ1 kA0 kA1 kA2 kB0 kB1 kB2
  have zP := P.lt
  have zQ := Q.lt
  have zA := A.lt
  have zB := B.lt
  go_wp2_with fail
  refine (rbox_u L X Y _).mono ?_
  rintro e w4 ⟨rfl, hb⟩
  replace P : Blk w4 (w.heap.size) 23 #[.int .i64 L, .int .i64 X, .int .i64 Y] := Blk.thru0 ((P).alloc _) hb
  replace Q : Blk w4 (w.heap.size + 1) 25 #[.int .i64 x, .int .i64 y] := Blk.thru0 ((Q).alloc _) hb
  replace A : Blk w4 (w1.heap.size) 23 #[.int .i64 (a0 16 x y l), .int .i64 (a1 16 x y l), .int .i64 (a2 16 x y l)] := Blk.thru0 ((A).alloc _) hb
  replace B : Blk w4 (w2.heap.size) 23 #[.int .i64 (a0 16 x y l), .int .i64 (a1 16 x y l), .int .i64 (a2 16 x y l)] := Blk.thru0 ((B).alloc _) hb
  have C : Blk w4 (w3.heap.size) 29 #[.int .i64 (b0 L X Y), .int .i64 (b1 L X Y), .int .i64 (b2 L X Y), .int .i64 (b3 L X Y)] := Blk.thru0 (Blk.newAt (by simp)) hb
  have hs := hB.size
  replace hB : Below w.heap.size w w4 := below_trans (by go_grown) hb
  clear hs
  clear kP0 kP1 kP2 kQ0 kQ1 kA0 kA1 kA2 kB0 kB1 kB2 zP zQ zA zB
  have hszw4 := hb.size
  (try simp at hszw4)
  clear hb
  have kP0 := P.cell 0
  have kP1 := P.cell 1
  have kP2 := P.cell 2
  have kQ0 := Q.cell 0
  have kQ1 := Q.cell 1
  have kA0 := A.cell 0
  have kA1 := A.cell 1
  have kA2 := A.cell 2
  have kB0 := B.cell 0
  have kB1 := B.cell 1
  have kB2 := B.cell 2
  have kC0 := C.cell 0
  have kC1 := C.cell 1
  have kC2 := C.cell 2
  have kC3 := C.cell 3
  simp only [List.getElem?_toArray, List.getElem?_cons_zero, List.getElem?_cons_succ] at kP0 kP1 kP2 kQ0 kQ1 kA0 kA1 kA2 kB0 kB1 kB2 kC0 kC1 kC2 kC3
  have zP := P.lt
  have zQ := Q.lt
  have zA := A.lt
  have zB := B.lt
  have zC := C.lt
  go_wp2_with fail
  have hs := hB.size
  have hB9 : Below w.heap.size w (w4.alloc (.cells #[.int .i64 (b0 L X Y), .int .i64 (b1 L X Y), .int .i64 (b2 L X Y), .int .i64 (b3 L X Y)] 29)) := by go_grown
  have P9 : Blk (w4.alloc (.cells #[.int .i64 (b0 L X Y), .int .i64 (b1 L X Y), .int .i64 (b2 L X Y), .int .i64 (b3 L X Y)] 29)) (w.heap.size) 23 #[.int .i64 L, .int .i64 X, .int .i64 Y] := (P).alloc _
  have Q9 : Blk (w4.alloc (.cells #[.int .i64 (b0 L X Y), .int .i64 (b1 L X Y), .int .i64 (b2 L X Y), .int .i64 (b3 L X Y)] 29)) (w.heap.size + 1) 25 #[.int .i64 x, .int .i64 y] := (Q).alloc _
  have A9 : Blk (w4.alloc (.cells #[.int .i64 (b0 L X Y), .int .i64 (b1 L X Y), .int .i64 (b2 L X Y), .int .i64 (b3 L X Y)] 29)) (w1.heap.size) 23 #[.int .i64 (a0 16 x y l), .int .i64 (a1 16 x y l), .int .i64 (a2 16 x y l)] := (A).alloc _
  have B9 : Blk (w4.alloc (.cells #[.int .i64 (b0 L X Y), .int .i64 (b1 L X Y), .int .i64 (b2 L X Y), .int .i64 (b3 L X Y)] 29)) (w2.heap.size) 23 #[.int .i64 (a0 16 x y l), .int .i64 (a1 16 x y l), .int .i64 (a2 16 x y l)] := (B).alloc _
  have C9 : Blk (w4.alloc (.cells #[.int .i64 (b0 L X Y), .int .i64 (b1 L X Y), .int .i64 (b2 L X Y), .int .i64 (b3 L X Y)] 29)) (w3.heap.size) 29 #[.int .i64 (b0 L X Y), .int .i64 (b1 L X Y), .int .i64 (b2 L X Y), .int .i64 (b3 L X Y)] := (C).alloc _
  have D9 : Blk (w4.alloc (.cells #[.int .i64 (b0 L X Y), .int .i64 (b1 L X Y), .int .i64 (b2 L X Y), .int .i64 (b3 L X Y)] 29)) (w4.heap.size) 29 #[.int .i64 (b0 L X Y), .int .i64 (b1 L X Y), .int .i64 (b2 L X Y), .int .i64 (b3 L X Y)] := Blk.newAt (by simp)
  generalize w4.alloc (.cells #[.int .i64 (b0 L X Y), .int .i64 (b1 L X Y), .int .i64 (b2 L X Y), .int .i64 (b3 L X Y)] 29) = W9 at hB9 P9 Q9 A9 B9 C9 D9 ⊢
  clear kP0 kP1 kP2 kQ0 kQ1 kA0 kA1 kA2 kB0 kB1 kB2 kC0 kC1 kC2 kC3 zP zQ zA zB zC
  clear hs hB P Q A B C
  have hB := hB9
  clear hB9
  have P := P9
  clear P9
  have Q := Q9
  clear Q9
  have A := A9
  clear A9
  have B := B9
  clear B9
  have C := C9
  clear C9
  have D := D9
  clear D9
  have kP0 := P.cell 0
  have kP1 := P.cell 1
  have kP2 := P.cell 2
  have kQ0 := Q.cell 0
  have kQ1 := Q.cell 1
  have kA0 := A.cell 0
  have kA1 := A.cell 1
  have kA2 := A.cell 2
  have kB0 := B.cell 0
  have kB1 := B.cell 1
  have kB2 := B.cell 2
  have kC0 := C.cell 0
  have kC1 := C.cell 1
  have kC2 := C.cell 2
  have kC3 := C.cell 3
  have kD0 := D.cell 0
  have kD1 := D.cell 1
  have kD2 := D.cell 2
  have kD3 := D.cell 3
  simp only [List.getElem?_toArray, List.getElem?_cons_zero, List.getElem?_cons_succ] at kP0 kP1 kP2 kQ0 kQ1 kA0 kA1 kA2 kB0 kB1 kB2 kC0 kC1 kC2 kC3 kD0 kD1 kD2 kD3
  have zP := P.lt
  have zQ := Q.lt
  have zA := A.lt
  have zB := B.lt
  have zC := C.lt
  have zD := D.lt
  clear zP zQ zA zB zC zD
  go_region_held3 (fun w' => (w'.cell? ⟨w.heap.size, 0, none⟩ = some (.int .i64 L)) ∧ (w'.cell? ⟨w.heap.size, 1, none⟩ = some (.int .i64 X)) ∧ (w'.cell? ⟨w.heap.size, 2, none⟩ = some (.int .i64 Y)) ∧ (w'.cell? ⟨w1.heap.size, 0, none⟩ = some (.int .i64 (a0 16 x y l))) ∧ (w'.cell? ⟨w1.heap.size, 1, none⟩ = some (.int .i64 (a1 16 x y l))) ∧ (w'.cell? ⟨w1.heap.size, 2, none⟩ = some (.int .i64 (a2 16 x y l))) ∧ (w'.cell? ⟨w2.heap.size, 0, none⟩ = some (.int .i64 (a0 16 x y l))) ∧ (w'.cell? ⟨w2.heap.size, 1, none⟩ = some (.int .i64 (a1 16 x y l))) ∧ (w'.cell? ⟨w2.heap.size, 2, none⟩ = some (.int .i64 (a2 16 x y l))) ∧ (w'.cell? ⟨w3.heap.size, 0, none⟩ = some (.int .i64 (b0 L X Y))) ∧ (w'.cell? ⟨w3.heap.size, 1, none⟩ = some (.int .i64 (b1 L X Y))) ∧ (w'.cell? ⟨w3.heap.size, 2, none⟩ = some (.int .i64 (b2 L X Y))) ∧ (w'.cell? ⟨w3.heap.size, 3, none⟩ = some (.int .i64 (b3 L X Y))) ∧ (w'.cell? ⟨w4.heap.size, 0, none⟩ = some (.int .i64 (b0 L X Y))) ∧ (w'.cell? ⟨w4.heap.size, 1, none⟩ = some (.int .i64 (b1 L X Y))) ∧ (w'.cell? ⟨w4.heap.size, 2, none⟩ = some (.int .i64 (b2 L X Y))) ∧ (w'.cell? ⟨w4.heap.size, 3, none⟩ = some (.int .i64 (b3 L X Y))) ∧ (Below w.heap.size w w')) (first | (go_split_ands; refine ⟨?_, ?_, ?_, ?_, ?_, ?_, ?_, ?_, ?_, ?_, ?_, ?_, ?_, ?_, ?_, ?_, ?_, ?_⟩ <;> first | (exact cell_later (by assumption) (by assumption)) | (exact below_then (by assumption) (by assumption)) | (go_grown; done) | go_keep)) (first | (go_at_call 16; refine (cright_any _ _ _ _).mono ?_; rintro e w9 ⟨rfl, hb9⟩) | (go_at_call 17; refine (rright_any _ _ _ _).mono ?_; rintro e w9 ⟨rfl, hb9⟩) | (go_at_call 18; refine (known_any _).mono ?_; rintro e w9 ⟨rfl, hb9⟩))
  all_goals
    go_wp2
    go_ret
    refine ⟨rfl, ?_⟩
    (repeat' (first | (with_reducible assumption) | (go_grown; done) | (refine below_trans ?_ (by assumption))))

theorem own : ownKnob Try.prog.godebug = none := by kernel_rfl
theorem laidOut : laidOutB Try.prog = true := by kernel_rfl
set_option maxRecDepth 100000 in
theorem lifted (os : Os) (started : os.Started) (H : Type) (enc : TypeId × Value → H) :
    ReturnsInHanded {} Try.checked os 3 .any (Rows.cellAsksSpec.pre6 enc Try.prog Try.f3 Rows.cellAsksRow.domain false) (Rows.cellAsksSpec.post enc Try.prog Try.f3 false true false false) := by
  refine returnsInHanded_of_change (C := Try.checked) own started (by kernel_rfl) Try.func3
    (ChangeSpec.witness6 (enc := enc) (C := Try.checked) false ⟨#[], #[.agg #[.int .i64 0, .int .i64 0, .int .i64 0], .agg #[.int .i64 0, .int .i64 0], .int .i64 0], []⟩ 8 (by kernel_rfl) (by kernel_rfl) (by kernel_rfl) (by kernel_rfl)) ?_
  intro W base args ds gs before hval0 hW hcnd _
  have hval : ∀ (j : Nat) t v, Try.f3.params[j]? = some t → args[j]? = some v → Value.okWide Try.prog W .any base t v := hval0
  have hW' := hW
  obtain ⟨p, q, hA0, hV, rfl, hfz, hnd⟩ := hW
  have hA : DataW.TrodAll enc Try.prog W 0 (fun _ => true) true Try.f3.params.toList args.toList ds p := hA0
  rw [Try.params3] at hA hval
  obtain ⟨v0, vs0, d0, ds0, p0, q0, hargs, rfl, rfl, h0, r0⟩ := trodAll_cons hA
  obtain ⟨v1, vs1, d1, ds1, p1, q1, rfl, rfl, rfl, h1, r1⟩ := trodAll_cons r0
  obtain ⟨v2, vs2, d2, ds2, p2, q2, rfl, rfl, rfl, h2, r2⟩ := trodAll_cons r1
  obtain ⟨rfl, rfl, rfl⟩ := trodAll_nil r2
  obtain rfl : args = #[v0, v1, v2] := by cases args; simp_all
  obtain ⟨rfl, rfl⟩ := trodVars_none hV
  have k0 := h0
  have lt0 : ∀ x ∈ p0, x.block < W.heap.size := by obtain ⟨m, hm⟩ := k0; exact DataW.trod_lt m _ _ _ hm
  obtain ⟨c0_0, c0_1, c0_2, y0_0, y0_1, y0_2, m0, rfl, rfl, rfl, hy0_0, hy0_1, hy0_2⟩ := Joins.open_agg3 Try.underlying23 (by kernel_rfl) (by kernel_rfl) (hval 0 23 v0 rfl rfl) h0
  obtain ⟨a0_0, e0_0, rfl, w0_0⟩ := DataW.trod_int Try.underlying3 hy0_0
  simp only [List.cons.injEq, and_true] at e0_0
  subst e0_0
  obtain ⟨a0_1, e0_1, rfl, w0_1⟩ := DataW.trod_int Try.underlying3 hy0_1
  simp only [List.cons.injEq, and_true] at e0_1
  subst e0_1
  obtain ⟨a0_2, e0_2, rfl, w0_2⟩ := DataW.trod_int Try.underlying3 hy0_2
  simp only [List.cons.injEq, and_true] at e0_2
  subst e0_2
  have k1 := h1
  have lt1 : ∀ x ∈ p1, x.block < W.heap.size := by obtain ⟨m, hm⟩ := k1; exact DataW.trod_lt m _ _ _ hm
  obtain ⟨c1_0, c1_1, y1_0, y1_1, m1, rfl, rfl, rfl, hy1_0, hy1_1⟩ := Joins.open_agg2 Try.underlying25 (by kernel_rfl) (by kernel_rfl) (hval 1 25 v1 rfl rfl) h1
  obtain ⟨a1_0, e1_0, rfl, w1_0⟩ := DataW.trod_int Try.underlying3 hy1_0
  simp only [List.cons.injEq, and_true] at e1_0
  subst e1_0
  obtain ⟨a1_1, e1_1, rfl, w1_1⟩ := DataW.trod_int Try.underlying3 hy1_1
  simp only [List.cons.injEq, and_true] at e1_1
  subst e1_1
  have k2 := h2
  have lt2 : ∀ x ∈ p2, x.block < W.heap.size := by obtain ⟨m, hm⟩ := k2; exact DataW.trod_lt m _ _ _ hm
  obtain ⟨a2, rfl, rfl, rfl, w2⟩ := open_int Try.underlying3 (hval 2 3 v2 rfl rfl) h2
  clear hA0 hval0
  refine (walk a0_0 a0_1 a0_2 a1_0 a1_1 a2 W (bounds_i64 w0_0) (bounds_i64 w0_1) (bounds_i64 w0_2) (bounds_i64 w1_0) (bounds_i64 w1_1) (bounds_i64 w2)).mono fun e W' ⟨he, bel⟩ => ?_
  subst he
  exact ⟨_, rfl, _, _, _, [], _, [], hW', trodAll_mk1 (shut_bool Try.underlying4 _), (trodAll_cons_mk (Below.trod laidOut (by kernel_rfl) (of_decide_eq_true (by kernel_rfl)) k0 bel lt0) (trodAll_cons_mk (Below.trod laidOut (by kernel_rfl) (of_decide_eq_true (by kernel_rfl)) k1 bel lt1) (trodAll_cons_mk (Below.trod laidOut (by kernel_rfl) (of_decide_eq_true (by kernel_rfl)) k2 bel lt2) trodAll_mk0))), rfl, bel.frame _, fun h => by cases h⟩
theorem over : Rows.cellAsksRow.holds Try.pinned (OpenSpec.ofChange Rows.cellAsksSpec) :=
  OpenClaim.holds_of_wide 3 Try.f3 rfl rfl rfl rfl rfl rfl rfl ⟨rfl, rfl, rfl, rfl, rfl⟩ rfl rfl rfl rfl rfl (by kernel_rfl) Try.func3 (by kernel_rfl)
    (of_decide_eq_true (by kernel_rfl)) (by unfold Func.isWrapper; first | (rw [if_pos (by decide +kernel)]; kernel_rfl) | (rw [if_neg (by decide +kernel)]; exact ⟨rfl, rfl⟩))
    (fun os started H enc _ => lifted os started H enc)
/-- The statement. -/
theorem proved : Rows.CellAsksSaid := over
#print axioms proved
end Go.Proofs.Ytpbnbnhmlpjbjaa.cellAsks
