/- PyramidNil: (P8.1, P8.2) a pyramid that is not there takes nothing and has nothing. Conditions: none. -/
import Derived.Test.YtbddphmhhfncaaaPy8
import Derived.Test.YtbddphmhhfncaaaFrame
import Derived.Lib.SmallJoins
namespace Go.Proofs.Ytbddphmhhfncaaa.pyramidNil
set_option linter.unusedVariables false
set_option linter.unusedSimpArgs false
open Go.ChangeShapes Go.WideShapes Go.ChangeAt Go.RowKit
open Go.ChangeMaps (open_string shut_string)
set_option maxRecDepth 100000 in
set_option maxHeartbeats 4000000 in
theorem walk (px py L cx cy : Int) (w : World) (b0 : -9223372036854775808 ≤ px ∧ px ≤ 9223372036854775807) (b1 : -9223372036854775808 ≤ py ∧ py ≤ 9223372036854775807) (b2 : -9223372036854775808 ≤ L ∧ L ≤ 9223372036854775807) (b3 : -9223372036854775808 ≤ cx ∧ cx ≤ 9223372036854775807) (b4 : -9223372036854775808 ≤ cy ∧ cy ≤ 9223372036854775807) :
    Calls Try.prog 8 #[.agg #[.int .i64 px, .int .i64 py], .agg #[.int .i64 L, .int .i64 cx, .int .i64 cy]] w fun e w' => e = .returned (.bool true) ∧ Below w.heap.size w w' := by
  clear b0 b1 b2 b3 b4
  have hA : Below w.heap.size w ((w.alloc (.cells #[.int .i64 px, .int .i64 py] 29)).alloc (.cells #[.int .i64 L, .int .i64 cx, .int .i64 cy] 24)) := ((Below.refl _ _).alloc (Nat.le_refl _) _).alloc (by simp) _
  have hbk := blk_two w 29 24 #[.int .i64 px, .int .i64 py] #[.int .i64 L, .int .i64 cx, .int .i64 cy]
  have HB0 := Lib.hid hA; have HK0 := Lib.hid hbk; clear hA hbk
  go_enter Try.func8, Try.ntmps8
  go_wp2_with fail
  refine (add_nil (px, py) _).mono ?_
  rintro e w1 ⟨rfl, hb⟩
  have HB1 := Lib.hid (below_trans HB0.out hb)
  have HK1 := Lib.hid (And.intro (HK0.out.1.thru0 hb) (HK0.out.2.thru0 hb))
  have a0 := HK1.out.1.cell 0
  have a1 := HK1.out.1.cell 1
  have c0 := HK1.out.2.cell 0
  have c1 := HK1.out.2.cell 1
  have c2 := HK1.out.2.cell 2
  simp only [List.getElem?_toArray, List.getElem?_cons_zero, List.getElem?_cons_succ] at a0 a1 c0 c1 c2
  clear hb HB0 HK0
  go_wp2_with fail
  refine (rem_nil (px, py) _).mono ?_
  rintro e w2 ⟨rfl, hb⟩
  have HB2 := Lib.hid (below_trans HB1.out hb)
  have HK2 := Lib.hid (And.intro (HK1.out.1.thru0 hb) (HK1.out.2.thru0 hb))
  clear a0 a1 c0 c1 c2
  have a0 := HK2.out.1.cell 0
  have a1 := HK2.out.1.cell 1
  have c0 := HK2.out.2.cell 0
  have c1 := HK2.out.2.cell 1
  have c2 := HK2.out.2.cell 2
  simp only [List.getElem?_toArray, List.getElem?_cons_zero, List.getElem?_cons_succ] at a0 a1 c0 c1 c2
  clear hb HB1 HK1
  go_wp2_with fail
  refine (mov_nil (px, py) (px, py) _).mono ?_
  rintro e w3 ⟨rfl, hb⟩
  have HB3 := Lib.hid (below_trans HB2.out hb)
  have HK3 := Lib.hid (And.intro (HK2.out.1.thru0 hb) (HK2.out.2.thru0 hb))
  clear a0 a1 c0 c1 c2
  have a0 := HK3.out.1.cell 0
  have a1 := HK3.out.1.cell 1
  have c0 := HK3.out.2.cell 0
  have c1 := HK3.out.2.cell 1
  have c2 := HK3.out.2.cell 2
  simp only [List.getElem?_toArray, List.getElem?_cons_zero, List.getElem?_cons_succ] at a0 a1 c0 c1 c2
  clear hb HB2 HK2
  go_wp2_with fail
  refine (count_nil L cx cy _).mono ?_
  rintro e w4 ⟨rfl, hb⟩
  have HB4 := Lib.hid (below_trans HB3.out hb)
  have HK4 := Lib.hid (And.intro (HK3.out.1.thru0 hb) (HK3.out.2.thru0 hb))
  clear a0 a1 c0 c1 c2
  have a0 := HK4.out.1.cell 0
  have a1 := HK4.out.1.cell 1
  have c0 := HK4.out.2.cell 0
  have c1 := HK4.out.2.cell 1
  have c2 := HK4.out.2.cell 2
  simp only [List.getElem?_toArray, List.getElem?_cons_zero, List.getElem?_cons_succ] at a0 a1 c0 c1 c2
  clear hb HB3 HK3
  go_wp2_with fail
  refine (total_nil _).mono ?_
  rintro e w5 ⟨rfl, hb⟩
  have HB5 := Lib.hid (below_trans HB4.out hb)
  have HK5 := Lib.hid (And.intro (HK4.out.1.thru0 hb) (HK4.out.2.thru0 hb))
  clear a0 a1 c0 c1 c2
  have a0 := HK5.out.1.cell 0
  have a1 := HK5.out.1.cell 1
  have c0 := HK5.out.2.cell 0
  have c1 := HK5.out.2.cell 1
  have c2 := HK5.out.2.cell 2
  simp only [List.getElem?_toArray, List.getElem?_cons_zero, List.getElem?_cons_succ] at a0 a1 c0 c1 c2
  clear hb HB4 HK4
  go_wp2_with fail
  refine (cells_nil _).mono ?_
  rintro e w6 ⟨rfl, hb⟩
  have HB6 := Lib.hid (below_trans HB5.out hb)
  have HK6 := Lib.hid (And.intro (HK5.out.1.thru0 hb) (HK5.out.2.thru0 hb))
  clear a0 a1 c0 c1 c2
  have a0 := HK6.out.1.cell 0
  have a1 := HK6.out.1.cell 1
  have c0 := HK6.out.2.cell 0
  have c1 := HK6.out.2.cell 1
  have c2 := HK6.out.2.cell 2
  simp only [List.getElem?_toArray, List.getElem?_cons_zero, List.getElem?_cons_succ] at a0 a1 c0 c1 c2
  clear hb HB5 HK5
  go_wp2_with fail
  refine (level_nil 0 _).mono ?_
  rintro e w7 ⟨rfl, hb⟩
  have HB7 := Lib.hid (below_trans HB6.out hb)
  have HK7 := Lib.hid (And.intro (HK6.out.1.thru0 hb) (HK6.out.2.thru0 hb))
  clear a0 a1 c0 c1 c2
  have a0 := HK7.out.1.cell 0
  have a1 := HK7.out.1.cell 1
  have c0 := HK7.out.2.cell 0
  have c1 := HK7.out.2.cell 1
  have c2 := HK7.out.2.cell 2
  simp only [List.getElem?_toArray, List.getElem?_cons_zero, List.getElem?_cons_succ] at a0 a1 c0 c1 c2
  clear hb HB6 HK6
  go_wp2_with fail
  refine (points_nil _).mono ?_
  rintro e w8 ⟨rfl, hb⟩
  have HB8 := Lib.hid (below_trans HB7.out hb)
  have HK8 := Lib.hid (And.intro (HK7.out.1.thru0 hb) (HK7.out.2.thru0 hb))
  clear a0 a1 c0 c1 c2
  have a0 := HK8.out.1.cell 0
  have a1 := HK8.out.1.cell 1
  have c0 := HK8.out.2.cell 0
  have c1 := HK8.out.2.cell 1
  have c2 := HK8.out.2.cell 2
  simp only [List.getElem?_toArray, List.getElem?_cons_zero, List.getElem?_cons_succ] at a0 a1 c0 c1 c2
  clear hb HB7 HK7
  go_wp2_with fail
  refine (pyknown_any _).mono ?_
  rintro e w9 ⟨rfl, hb⟩
  have HB9 := Lib.hid (below_trans HB8.out hb)
  have HK9 := Lib.hid (And.intro (HK8.out.1.thru0 hb) (HK8.out.2.thru0 hb))
  clear a0 a1 c0 c1 c2
  have a0 := HK9.out.1.cell 0
  have a1 := HK9.out.1.cell 1
  have c0 := HK9.out.2.cell 0
  have c1 := HK9.out.2.cell 1
  have c2 := HK9.out.2.cell 2
  simp only [List.getElem?_toArray, List.getElem?_cons_zero, List.getElem?_cons_succ] at a0 a1 c0 c1 c2
  clear hb HB8 HK8
  go_wp2
  go_ret
  exact ⟨rfl, HB9.out⟩

theorem own : ownKnob Try.prog.godebug = none := by kernel_rfl
theorem laidOut : laidOutB Try.prog = true := by kernel_rfl
set_option maxRecDepth 100000 in
theorem lifted (os : Os) (started : os.Started) (H : Type) (enc : TypeId × Value → H) :
    ReturnsInHanded {} Try.checked os 8 .any (Rows.pyramidNilSpec.pre6 enc Try.prog Try.f8 Rows.pyramidNilRow.domain false) (Rows.pyramidNilSpec.post enc Try.prog Try.f8 false true false false) := by
  refine returnsInHanded_of_change (C := Try.checked) own started (by kernel_rfl) Try.func8
    (ChangeSpec.witness6 (enc := enc) (C := Try.checked) false ⟨#[], #[.agg #[.int .i64 0, .int .i64 0], .agg #[.int .i64 0, .int .i64 0, .int .i64 0]], []⟩ 8 (by kernel_rfl) (by kernel_rfl) (by kernel_rfl) (by kernel_rfl)) ?_
  intro W base args ds gs before hval0 hW hcnd _
  have hval : ∀ (j : Nat) t v, Try.f8.params[j]? = some t → args[j]? = some v → Value.okWide Try.prog W .any base t v := hval0
  have hW' := hW
  obtain ⟨p, q, hA0, hV, rfl, hfz, hnd⟩ := hW
  have hA : DataW.TrodAll enc Try.prog W 0 (fun _ => true) true Try.f8.params.toList args.toList ds p := hA0
  rw [Try.params8] at hA hval
  obtain ⟨v0, vs0, d0, ds0, p0, q0, hargs, rfl, rfl, h0, r0⟩ := trodAll_cons hA
  obtain ⟨v1, vs1, d1, ds1, p1, q1, rfl, rfl, rfl, h1, r1⟩ := trodAll_cons r0
  obtain ⟨rfl, rfl, rfl⟩ := trodAll_nil r1
  obtain rfl : args = #[v0, v1] := by cases args; simp_all
  obtain ⟨rfl, rfl⟩ := trodVars_none hV
  have k0 := h0
  have lt0 : ∀ x ∈ p0, x.block < W.heap.size := by obtain ⟨m, hm⟩ := k0; exact DataW.trod_lt m _ _ _ hm
  obtain ⟨c0_0, c0_1, y0_0, y0_1, m0, rfl, rfl, rfl, hy0_0, hy0_1⟩ := Joins.open_agg2 Try.underlying29 (by kernel_rfl) (by kernel_rfl) (hval 0 29 v0 rfl rfl) h0
  obtain ⟨a0_0, e0_0, rfl, w0_0⟩ := DataW.trod_int Try.underlying3 hy0_0
  simp only [List.cons.injEq, and_true] at e0_0
  subst e0_0
  obtain ⟨a0_1, e0_1, rfl, w0_1⟩ := DataW.trod_int Try.underlying3 hy0_1
  simp only [List.cons.injEq, and_true] at e0_1
  subst e0_1
  have k1 := h1
  have lt1 : ∀ x ∈ p1, x.block < W.heap.size := by obtain ⟨m, hm⟩ := k1; exact DataW.trod_lt m _ _ _ hm
  obtain ⟨c1_0, c1_1, c1_2, y1_0, y1_1, y1_2, m1, rfl, rfl, rfl, hy1_0, hy1_1, hy1_2⟩ := Joins.open_agg3 Try.underlying24 (by kernel_rfl) (by kernel_rfl) (hval 1 24 v1 rfl rfl) h1
  obtain ⟨a1_0, e1_0, rfl, w1_0⟩ := DataW.trod_int Try.underlying3 hy1_0
  simp only [List.cons.injEq, and_true] at e1_0
  subst e1_0
  obtain ⟨a1_1, e1_1, rfl, w1_1⟩ := DataW.trod_int Try.underlying3 hy1_1
  simp only [List.cons.injEq, and_true] at e1_1
  subst e1_1
  obtain ⟨a1_2, e1_2, rfl, w1_2⟩ := DataW.trod_int Try.underlying3 hy1_2
  simp only [List.cons.injEq, and_true] at e1_2
  subst e1_2
  clear hA0 hval0
  refine (walk a0_0 a0_1 a1_0 a1_1 a1_2 W (bounds_i64 w0_0) (bounds_i64 w0_1) (bounds_i64 w1_0) (bounds_i64 w1_1) (bounds_i64 w1_2)).mono fun e W' ⟨he, bel⟩ => ?_
  subst he
  exact ⟨_, rfl, _, _, _, [], _, [], hW', trodAll_mk1 (shut_bool Try.underlying4 _), (trodAll_cons_mk (Below.trod laidOut (by kernel_rfl) (of_decide_eq_true (by kernel_rfl)) k0 bel lt0) (trodAll_cons_mk (Below.trod laidOut (by kernel_rfl) (of_decide_eq_true (by kernel_rfl)) k1 bel lt1) trodAll_mk0)), rfl, bel.frame _, fun h => by cases h⟩
theorem over : Rows.pyramidNilRow.holds Try.pinned (OpenSpec.ofChange Rows.pyramidNilSpec) :=
  OpenClaim.holds_of_wide 8 Try.f8 rfl rfl rfl rfl rfl rfl rfl ⟨rfl, rfl, rfl, rfl, rfl⟩ rfl rfl rfl rfl rfl (by kernel_rfl) Try.func8 (by kernel_rfl)
    (of_decide_eq_true (by kernel_rfl)) (by unfold Func.isWrapper; first | (rw [if_pos (by decide +kernel)]; kernel_rfl) | (rw [if_neg (by decide +kernel)]; exact ⟨rfl, rfl⟩))
    (fun os started H enc _ => lifted os started H enc)
/-- The statement. -/
theorem proved : Rows.PyramidNilSaid := over
#print axioms proved
end Go.Proofs.Ytbddphmhhfncaaa.pyramidNil
