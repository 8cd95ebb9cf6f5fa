/- GeomMeets: (P2.2) any two rectangles meet, and have a hull, as the document says. Conditions: none. -/
import Derived.Test.YtichfgpmcamhmaaGeomU
import Derived.Test.YtichfgpmcamhmaaFrame
import Derived.Lib.SmallJoins
namespace Go.Proofs.Ytichfgpmcamhmaa.geomMeets
set_option linter.unusedVariables false
set_option linter.unusedSimpArgs false
open Go.ChangeShapes Go.WideShapes Go.ChangeAt Go.RowKit
open Go.ChangeMaps (open_string shut_string)
theorem below_then {a b c : World} (k : Below b.heap.size b c) (h : Below a.heap.size a b) : Below a.heap.size a c := below_trans h k
set_option maxHeartbeats 2000000 in
theorem walk (a b c d a1 b1 c1 d1 : Int) (w : World) (_ha : -9223372036854775808 ≤ a ∧ a ≤ 9223372036854775807) (_hb : -9223372036854775808 ≤ b ∧ b ≤ 9223372036854775807) (_hc : -9223372036854775808 ≤ c ∧ c ≤ 9223372036854775807) (_hd : -9223372036854775808 ≤ d ∧ d ≤ 9223372036854775807) (_ha1 : -9223372036854775808 ≤ a1 ∧ a1 ≤ 9223372036854775807) (_hb1 : -9223372036854775808 ≤ b1 ∧ b1 ≤ 9223372036854775807) (_hc1 : -9223372036854775808 ≤ c1 ∧ c1 ≤ 9223372036854775807) (_hd1 : -9223372036854775808 ≤ d1 ∧ d1 ≤ 9223372036854775807)  :
    Calls Try.prog 4 #[.agg #[.int .i64 a, .int .i64 b, .int .i64 c, .int .i64 d], .agg #[.int .i64 a1, .int .i64 b1, .int .i64 c1, .int .i64 d1]] w fun e w' => e = .returned (.bool true) ∧ Below w.heap.size w w' := by
  go_enter Try.func4, Try.ntmps4
  go_wp2_with fail
  have hB0 : Below w.heap.size w ((w.alloc (.cells #[.int .i64 a, .int .i64 b, .int .i64 c, .int .i64 d] 25)).alloc (.cells #[.int .i64 a1, .int .i64 b1, .int .i64 c1, .int .i64 d1] 25)) := by go_grown
  have K := blk_two w 25 25 #[.int .i64 a, .int .i64 b, .int .i64 c, .int .i64 d] #[.int .i64 a1, .int .i64 b1, .int .i64 c1, .int .i64 d1]
  generalize ((w.alloc (.cells #[.int .i64 a, .int .i64 b, .int .i64 c, .int .i64 d] 25)).alloc (.cells #[.int .i64 a1, .int .i64 b1, .int .i64 c1, .int .i64 d1] 25)) = W at hB0 K ⊢
  obtain ⟨LA, LB⟩ := K
  refine (meet_u _ _ _ _ _ _ _ _ _).mono ?_
  rintro e w1 ⟨rfl, hb⟩
  have MA := LA.below hb LA.lt
  have MB := LB.below hb LB.lt
  have hB1 := below_trans hB0 hb
  clear hb LA LB hB0
  have xa0 := MA.cell 0
  have xa1 := MA.cell 1
  have xa2 := MA.cell 2
  have xa3 := MA.cell 3
  have xb0 := MB.cell 0
  have xb1 := MB.cell 1
  have xb2 := MB.cell 2
  have xb3 := MB.cell 3
  simp only [List.getElem?_toArray, List.getElem?_cons_zero, List.getElem?_cons_succ] at xa0 xa1 xa2 xa3 xb0 xb1 xb2 xb3
  have ltA := MA.lt
  have ltB := MB.lt
  go_wp2_with fail
  refine (rmeet_u _ _ _ _ _ _ _ _ _).mono ?_
  rintro e w2 ⟨rfl, hb⟩
  have MM : Blk (w1.alloc (.cells #[.int .i64 (m0 a b c d a1 b1 c1 d1), .int .i64 (m1 a b c d a1 b1 c1 d1), .int .i64 (m2 a b c d a1 b1 c1 d1), .int .i64 (m3 a b c d a1 b1 c1 d1)] 25)) w1.heap.size 25 #[.int .i64 (m0 a b c d a1 b1 c1 d1), .int .i64 (m1 a b c d a1 b1 c1 d1), .int .i64 (m2 a b c d a1 b1 c1 d1), .int .i64 (m3 a b c d a1 b1 c1 d1)] := Blk.new _ _ _
  have NA := (MA.alloc (.cells #[.int .i64 (m0 a b c d a1 b1 c1 d1), .int .i64 (m1 a b c d a1 b1 c1 d1), .int .i64 (m2 a b c d a1 b1 c1 d1), .int .i64 (m3 a b c d a1 b1 c1 d1)] 25)).below hb (MA.alloc _).lt
  have NB := (MB.alloc (.cells #[.int .i64 (m0 a b c d a1 b1 c1 d1), .int .i64 (m1 a b c d a1 b1 c1 d1), .int .i64 (m2 a b c d a1 b1 c1 d1), .int .i64 (m3 a b c d a1 b1 c1 d1)] 25)).below hb (MB.alloc _).lt
  have NM := MM.below hb MM.lt
  have hB2 : Below w.heap.size w w2 := below_trans (hB1.alloc hB1.size _) hb
  clear hb MA MB MM hB1 ltA ltB xa0 xa1 xa2 xa3 xb0 xb1 xb2 xb3
  have xa0 := NA.cell 0
  have xa1 := NA.cell 1
  have xa2 := NA.cell 2
  have xa3 := NA.cell 3
  have xb0 := NB.cell 0
  have xb1 := NB.cell 1
  have xb2 := NB.cell 2
  have xb3 := NB.cell 3
  have xm0 := NM.cell 0
  have xm1 := NM.cell 1
  have xm2 := NM.cell 2
  have xm3 := NM.cell 3
  simp only [List.getElem?_toArray, List.getElem?_cons_zero, List.getElem?_cons_succ] at xa0 xa1 xa2 xa3 xb0 xb1 xb2 xb3 xm0 xm1 xm2 xm3
  have ltA := NA.lt
  have ltB := NB.lt
  have ltM := NM.lt
  go_wp2_with fail
  have PA := NA.alloc (.cells #[.int .i64 (m0 a b c d a1 b1 c1 d1), .int .i64 (m1 a b c d a1 b1 c1 d1), .int .i64 (m2 a b c d a1 b1 c1 d1), .int .i64 (m3 a b c d a1 b1 c1 d1)] 25)
  have PB := NB.alloc (.cells #[.int .i64 (m0 a b c d a1 b1 c1 d1), .int .i64 (m1 a b c d a1 b1 c1 d1), .int .i64 (m2 a b c d a1 b1 c1 d1), .int .i64 (m3 a b c d a1 b1 c1 d1)] 25)
  have PM := NM.alloc (.cells #[.int .i64 (m0 a b c d a1 b1 c1 d1), .int .i64 (m1 a b c d a1 b1 c1 d1), .int .i64 (m2 a b c d a1 b1 c1 d1), .int .i64 (m3 a b c d a1 b1 c1 d1)] 25)
  have PN : Blk (w2.alloc (.cells #[.int .i64 (m0 a b c d a1 b1 c1 d1), .int .i64 (m1 a b c d a1 b1 c1 d1), .int .i64 (m2 a b c d a1 b1 c1 d1), .int .i64 (m3 a b c d a1 b1 c1 d1)] 25)) w2.heap.size 25 #[.int .i64 (m0 a b c d a1 b1 c1 d1), .int .i64 (m1 a b c d a1 b1 c1 d1), .int .i64 (m2 a b c d a1 b1 c1 d1), .int .i64 (m3 a b c d a1 b1 c1 d1)] := Blk.new _ _ _
  have hB3 := hB2.alloc hB2.size (.cells #[.int .i64 (m0 a b c d a1 b1 c1 d1), .int .i64 (m1 a b c d a1 b1 c1 d1), .int .i64 (m2 a b c d a1 b1 c1 d1), .int .i64 (m3 a b c d a1 b1 c1 d1)] 25)
  clear NA NB NM hB2 ltA ltB ltM xa0 xa1 xa2 xa3 xb0 xb1 xb2 xb3 xm0 xm1 xm2 xm3
  generalize (w2.alloc (.cells #[.int .i64 (m0 a b c d a1 b1 c1 d1), .int .i64 (m1 a b c d a1 b1 c1 d1), .int .i64 (m2 a b c d a1 b1 c1 d1), .int .i64 (m3 a b c d a1 b1 c1 d1)] 25)) = W3 at PA PB PM PN hB3 ⊢
  have xa0 := PA.cell 0
  have xa1 := PA.cell 1
  have xa2 := PA.cell 2
  have xa3 := PA.cell 3
  have xb0 := PB.cell 0
  have xb1 := PB.cell 1
  have xb2 := PB.cell 2
  have xb3 := PB.cell 3
  have xm0 := PM.cell 0
  have xm1 := PM.cell 1
  have xm2 := PM.cell 2
  have xm3 := PM.cell 3
  have xn0 := PN.cell 0
  have xn1 := PN.cell 1
  have xn2 := PN.cell 2
  have xn3 := PN.cell 3
  simp only [List.getElem?_toArray, List.getElem?_cons_zero, List.getElem?_cons_succ] at xa0 xa1 xa2 xa3 xb0 xb1 xb2 xb3 xm0 xm1 xm2 xm3 xn0 xn1 xn2 xn3
  clear PA PB PM PN
  go_region_held3 (fun w' => (w'.cell? ⟨w.heap.size, 0, none⟩ = some (.int .i64 a)) ∧ (w'.cell? ⟨w.heap.size, 1, none⟩ = some (.int .i64 b)) ∧ (w'.cell? ⟨w.heap.size, 2, none⟩ = some (.int .i64 c)) ∧ (w'.cell? ⟨w.heap.size, 3, none⟩ = some (.int .i64 d)) ∧ (w'.cell? ⟨w.heap.size + 1, 0, none⟩ = some (.int .i64 a1)) ∧ (w'.cell? ⟨w.heap.size + 1, 1, none⟩ = some (.int .i64 b1)) ∧ (w'.cell? ⟨w.heap.size + 1, 2, none⟩ = some (.int .i64 c1)) ∧ (w'.cell? ⟨w.heap.size + 1, 3, none⟩ = some (.int .i64 d1)) ∧ (w'.cell? ⟨w1.heap.size, 0, none⟩ = some (.int .i64 (m0 a b c d a1 b1 c1 d1))) ∧ (w'.cell? ⟨w1.heap.size, 1, none⟩ = some (.int .i64 (m1 a b c d a1 b1 c1 d1))) ∧ (w'.cell? ⟨w1.heap.size, 2, none⟩ = some (.int .i64 (m2 a b c d a1 b1 c1 d1))) ∧ (w'.cell? ⟨w1.heap.size, 3, none⟩ = some (.int .i64 (m3 a b c d a1 b1 c1 d1))) ∧ (w'.cell? ⟨w2.heap.size, 0, none⟩ = some (.int .i64 (m0 a b c d a1 b1 c1 d1))) ∧ (w'.cell? ⟨w2.heap.size, 1, none⟩ = some (.int .i64 (m1 a b c d a1 b1 c1 d1))) ∧ (w'.cell? ⟨w2.heap.size, 2, none⟩ = some (.int .i64 (m2 a b c d a1 b1 c1 d1))) ∧ (w'.cell? ⟨w2.heap.size, 3, none⟩ = some (.int .i64 (m3 a b c d a1 b1 c1 d1))) ∧ (Below w.heap.size w w')) (first | (go_split_ands; refine ⟨?_, ?_, ?_, ?_, ?_, ?_, ?_, ?_, ?_, ?_, ?_, ?_, ?_, ?_, ?_, ?_, ?_⟩ <;> first | (exact cell_later (by assumption) (by assumption)) | (exact below_then (by assumption) (by assumption)) | (go_grown; done) | go_keep)) (first | (go_at_call 24; refine (meets_u _ _ _ _ _ _ _ _ _).mono ?_; rintro e w9 ⟨rfl, hb9⟩) | (go_at_call 25; refine (hull_u _ _ _ _ _ _ _ _ _).mono ?_; rintro e w9 ⟨rfl, hb9⟩) | (go_at_call 26; refine (rhull_u _ _ _ _ _ _ _ _ _).mono ?_; rintro e w9 ⟨rfl, hb9⟩) | (go_at_call 21; refine (known_any _).mono ?_; rintro e w9 ⟨rfl, hb9⟩))
  all_goals
    go_wp2
    go_ret
    refine ⟨rfl, ?_⟩
    (repeat' (first | (with_reducible assumption) | (go_grown; done) | (refine below_trans ?_ (by assumption))))

theorem own : ownKnob Try.prog.godebug = none := by kernel_rfl
theorem laidOut : laidOutB Try.prog = true := by kernel_rfl
set_option maxRecDepth 100000 in
theorem lifted (os : Os) (started : os.Started) (H : Type) (enc : TypeId × Value → H) :
    ReturnsInHanded {} Try.checked os 4 .any (Rows.geomMeetsSpec.pre6 enc Try.prog Try.f4 Rows.geomMeetsRow.domain false) (Rows.geomMeetsSpec.post enc Try.prog Try.f4 false true false false) := by
  refine returnsInHanded_of_change (C := Try.checked) own started (by kernel_rfl) Try.func4
    (ChangeSpec.witness6 (enc := enc) (C := Try.checked) false ⟨#[], #[.agg #[.int .i64 0, .int .i64 0, .int .i64 0, .int .i64 0], .agg #[.int .i64 0, .int .i64 0, .int .i64 0, .int .i64 0]], []⟩ 8 (by kernel_rfl) (by kernel_rfl) (by kernel_rfl) (by kernel_rfl)) ?_
  intro W base args ds gs before hval0 hW hcnd _
  have hval : ∀ (j : Nat) t v, Try.f4.params[j]? = some t → args[j]? = some v → Value.okWide Try.prog W .any base t v := hval0
  have hW' := hW
  obtain ⟨p, q, hA0, hV, rfl, hfz, hnd⟩ := hW
  have hA : DataW.TrodAll enc Try.prog W 0 (fun _ => true) true Try.f4.params.toList args.toList ds p := hA0
  rw [Try.params4] at hA hval
  obtain ⟨v0, vs0, d0, ds0, p0, q0, hargs, rfl, rfl, h0, r0⟩ := trodAll_cons hA
  obtain ⟨v1, vs1, d1, ds1, p1, q1, rfl, rfl, rfl, h1, r1⟩ := trodAll_cons r0
  obtain ⟨rfl, rfl, rfl⟩ := trodAll_nil r1
  obtain rfl : args = #[v0, v1] := by cases args; simp_all
  obtain ⟨rfl, rfl⟩ := trodVars_none hV
  have k0 := h0
  have lt0 : ∀ x ∈ p0, x.block < W.heap.size := by obtain ⟨m, hm⟩ := k0; exact DataW.trod_lt m _ _ _ hm
  obtain ⟨c0_0, c0_1, c0_2, c0_3, y0_0, y0_1, y0_2, y0_3, m0, rfl, rfl, rfl, hy0_0, hy0_1, hy0_2, hy0_3⟩ := Joins.open_agg4 Try.underlying25 (by kernel_rfl) (by kernel_rfl) (hval 0 25 v0 rfl rfl) h0
  obtain ⟨a0_0, e0_0, rfl, w0_0⟩ := DataW.trod_int Try.underlying3 hy0_0
  simp only [List.cons.injEq, and_true] at e0_0
  subst e0_0
  obtain ⟨a0_1, e0_1, rfl, w0_1⟩ := DataW.trod_int Try.underlying3 hy0_1
  simp only [List.cons.injEq, and_true] at e0_1
  subst e0_1
  obtain ⟨a0_2, e0_2, rfl, w0_2⟩ := DataW.trod_int Try.underlying3 hy0_2
  simp only [List.cons.injEq, and_true] at e0_2
  subst e0_2
  obtain ⟨a0_3, e0_3, rfl, w0_3⟩ := DataW.trod_int Try.underlying3 hy0_3
  simp only [List.cons.injEq, and_true] at e0_3
  subst e0_3
  have k1 := h1
  have lt1 : ∀ x ∈ p1, x.block < W.heap.size := by obtain ⟨m, hm⟩ := k1; exact DataW.trod_lt m _ _ _ hm
  obtain ⟨c1_0, c1_1, c1_2, c1_3, y1_0, y1_1, y1_2, y1_3, m1, rfl, rfl, rfl, hy1_0, hy1_1, hy1_2, hy1_3⟩ := Joins.open_agg4 Try.underlying25 (by kernel_rfl) (by kernel_rfl) (hval 1 25 v1 rfl rfl) h1
  obtain ⟨a1_0, e1_0, rfl, w1_0⟩ := DataW.trod_int Try.underlying3 hy1_0
  simp only [List.cons.injEq, and_true] at e1_0
  subst e1_0
  obtain ⟨a1_1, e1_1, rfl, w1_1⟩ := DataW.trod_int Try.underlying3 hy1_1
  simp only [List.cons.injEq, and_true] at e1_1
  subst e1_1
  obtain ⟨a1_2, e1_2, rfl, w1_2⟩ := DataW.trod_int Try.underlying3 hy1_2
  simp only [List.cons.injEq, and_true] at e1_2
  subst e1_2
  obtain ⟨a1_3, e1_3, rfl, w1_3⟩ := DataW.trod_int Try.underlying3 hy1_3
  simp only [List.cons.injEq, and_true] at e1_3
  subst e1_3
  clear hA0 hval0
  refine (walk a0_0 a0_1 a0_2 a0_3 a1_0 a1_1 a1_2 a1_3 W (bounds_i64 w0_0) (bounds_i64 w0_1) (bounds_i64 w0_2) (bounds_i64 w0_3) (bounds_i64 w1_0) (bounds_i64 w1_1) (bounds_i64 w1_2) (bounds_i64 w1_3)).mono fun e W' ⟨he, bel⟩ => ?_
  subst he
  exact ⟨_, rfl, _, _, _, [], _, [], hW', trodAll_mk1 (shut_bool Try.underlying4 _), (trodAll_cons_mk (Below.trod laidOut (by kernel_rfl) (of_decide_eq_true (by kernel_rfl)) k0 bel lt0) (trodAll_cons_mk (Below.trod laidOut (by kernel_rfl) (of_decide_eq_true (by kernel_rfl)) k1 bel lt1) trodAll_mk0)), rfl, bel.frame _, fun h => by cases h⟩
theorem over : Rows.geomMeetsRow.holds Try.pinned (OpenSpec.ofChange Rows.geomMeetsSpec) :=
  OpenClaim.holds_of_wide 4 Try.f4 rfl rfl rfl rfl rfl rfl rfl ⟨rfl, rfl, rfl, rfl, rfl⟩ rfl rfl rfl rfl rfl (by kernel_rfl) Try.func4 (by kernel_rfl)
    (of_decide_eq_true (by kernel_rfl)) (by unfold Func.isWrapper; first | (rw [if_pos (by decide +kernel)]; kernel_rfl) | (rw [if_neg (by decide +kernel)]; exact ⟨rfl, rfl⟩))
    (fun os started H enc _ => lifted os started H enc)
/-- The statement. -/
theorem proved : Rows.GeomMeetsSaid := over
#print axioms proved
end Go.Proofs.Ytichfgpmcamhmaa.geomMeets
