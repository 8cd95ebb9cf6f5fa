/- GeomCorners: (P2.3) a rectangle's corners are four of its points, each as it stands, in the document's order; what may not be has none. Conditions: none. -/
import Derived.Test.YtichfgpmcamhmaaGeomU
import Derived.Test.YtichfgpmcamhmaaGeomCorn
import Derived.Test.YtichfgpmcamhmaaFrame
import Derived.Lib.SmallJoins
namespace Go.Proofs.Ytichfgpmcamhmaa.geomCorners
set_option linter.unusedVariables false
set_option linter.unusedSimpArgs false
open Go.ChangeShapes Go.WideShapes Go.ChangeAt Go.RowKit
open Go.ChangeMaps (open_string shut_string)
theorem below_then {a b c : World} (k : Below b.heap.size b c) (h : Below a.heap.size a b) : Below a.heap.size a c := below_trans h k
set_option maxHeartbeats 1000000 in
theorem walk_no (a b c d : Int) (w : World)  (h1 : rightB a b c d = false) :
    Calls Try.prog 10 #[.agg #[.int .i64 a, .int .i64 b, .int .i64 c, .int .i64 d]] w fun e w' => e = .returned (.bool true) ∧ Below w.heap.size w w' := by
  go_enter Try.func10, Try.ntmps10
  go_wp2_with fail
  have hB0 : Below w.heap.size w (w.alloc (.cells #[.int .i64 a, .int .i64 b, .int .i64 c, .int .i64 d] 25)) := by go_grown
  have K := Blk.new w 25 #[.int .i64 a, .int .i64 b, .int .i64 c, .int .i64 d]
  generalize (w.alloc (.cells #[.int .i64 a, .int .i64 b, .int .i64 c, .int .i64 d] 25)) = W at hB0 K ⊢
  have k00 := K.cell 0
  have k01 := K.cell 1
  have k02 := K.cell 2
  have k03 := K.cell 3
  simp only [List.getElem?_toArray, List.getElem?_cons_zero, List.getElem?_cons_succ] at k00 k01 k02 k03
  clear K
  refine (corners_no _ _ _ _ h1 _).mono ?_
  rintro e w1 ⟨rfl, hb⟩
  replace k00 := cell_later hb k00
  replace k01 := cell_later hb k01
  replace k02 := cell_later hb k02
  replace k03 := cell_later hb k03
  replace hB0 := below_trans hB0 hb
  clear hb
  go_wp2_with fail
  refine (ref_right _ _ _ _ _).mono ?_
  rintro e w2 ⟨rfl, hb⟩
  replace k00 := cell_later hb k00
  replace k01 := cell_later hb k01
  replace k02 := cell_later hb k02
  replace k03 := cell_later hb k03
  replace hB0 := below_trans hB0 hb
  clear hb
  go_wp2_with fail
  refine (known_any _).mono ?_
  rintro e w3 ⟨rfl, hb⟩
  replace k00 := cell_later hb k00
  replace k01 := cell_later hb k01
  replace k02 := cell_later hb k02
  replace k03 := cell_later hb k03
  replace hB0 := below_trans hB0 hb
  clear hb
  go_wp2
  go_ret
  exact ⟨rfl, hB0⟩
set_option maxHeartbeats 2000000 in
theorem walk_yes (a b c d : Int) (w : World)  (h1 : rightB a b c d = true) :
    Calls Try.prog 10 #[.agg #[.int .i64 a, .int .i64 b, .int .i64 c, .int .i64 d]] w fun e w' => e = .returned (.bool true) ∧ Below w.heap.size w w' := by
  go_enter Try.func10, Try.ntmps10
  go_wp2_with fail
  have hB0 : Below w.heap.size w (w.alloc (.cells #[.int .i64 a, .int .i64 b, .int .i64 c, .int .i64 d] 25)) := by go_grown
  have K := Blk.new w 25 #[.int .i64 a, .int .i64 b, .int .i64 c, .int .i64 d]
  generalize (w.alloc (.cells #[.int .i64 a, .int .i64 b, .int .i64 c, .int .i64 d] 25)) = W at hB0 K ⊢
  have k00 := K.cell 0
  have k01 := K.cell 1
  have k02 := K.cell 2
  have k03 := K.cell 3
  simp only [List.getElem?_toArray, List.getElem?_cons_zero, List.getElem?_cons_succ] at k00 k01 k02 k03
  clear K
  refine (corners_yes _ _ _ _ h1 _).mono ?_
  rintro e w1 ⟨g, rfl, hbk, hb⟩
  replace k00 := cell_later hb k00
  replace k01 := cell_later hb k01
  replace k02 := cell_later hb k02
  replace k03 := cell_later hb k03
  replace hB0 := below_trans hB0 hb
  clear hb
  go_wp2_with fail
  refine (ref_right _ _ _ _ _).mono ?_
  rintro e w2 ⟨rfl, hb⟩
  replace k00 := cell_later hb k00
  replace k01 := cell_later hb k01
  replace k02 := cell_later hb k02
  replace k03 := cell_later hb k03
  replace hbk := hbk.below hb hbk.lt
  replace hB0 := below_trans hB0 hb
  clear hb
  go_wp2_with fail
  have hbl := hbk.alloc (.cells #[.int .i64 a, .int .i64 b, .int .i64 c, .int .i64 b, .int .i64 a, .int .i64 d, .int .i64 c, .int .i64 d] 23)
  have hbm : Blk (w2.alloc (.cells #[.int .i64 a, .int .i64 b, .int .i64 c, .int .i64 b, .int .i64 a, .int .i64 d, .int .i64 c, .int .i64 d] 23)) w2.heap.size 23 #[.int .i64 a, .int .i64 b, .int .i64 c, .int .i64 b, .int .i64 a, .int .i64 d, .int .i64 c, .int .i64 d] := Blk.new _ _ _
  replace hB0 := below_trans hB0 ((Below.refl w2.heap.size w2).alloc (Nat.le_refl _) (.cells #[.int .i64 a, .int .i64 b, .int .i64 c, .int .i64 b, .int .i64 a, .int .i64 d, .int .i64 c, .int .i64 d] 23))
  clear hbk k00 k01 k02 k03
  generalize (w2.alloc (.cells #[.int .i64 a, .int .i64 b, .int .i64 c, .int .i64 b, .int .i64 a, .int .i64 d, .int .i64 c, .int .i64 d] 23)) = W3 at *
  have u0 := hbl.cell 0
  have u1 := hbl.cell 1
  have u2 := hbl.cell 2
  have u3 := hbl.cell 3
  have u4 := hbl.cell 4
  have u5 := hbl.cell 5
  have u6 := hbl.cell 6
  have u7 := hbl.cell 7
  have v0 := hbm.cell 0
  have v1 := hbm.cell 1
  have v2 := hbm.cell 2
  have v3 := hbm.cell 3
  have v4 := hbm.cell 4
  have v5 := hbm.cell 5
  have v6 := hbm.cell 6
  have v7 := hbm.cell 7
  simp only [List.getElem?_toArray, List.getElem?_cons_zero, List.getElem?_cons_succ] at u0 u1 u2 u3 u4 u5 u6 u7 v0 v1 v2 v3 v4 v5 v6 v7
  clear hbl hbm
  refine wp_loop_rounds 5 ?_
  rw [rounds_succ]
  go_wp2
  go_quiet (fail)
  go_wp2
  rw [rounds_succ]
  go_wp2
  go_quiet (fail)
  go_wp2
  rw [rounds_succ]
  go_wp2
  go_quiet (fail)
  go_wp2
  rw [rounds_succ]
  go_wp2
  go_quiet (fail)
  go_wp2
  rw [rounds_succ]
  go_wp2_with (go_at_call 21; refine (known_any _).mono ?_; rintro e w9 ⟨rfl, hb9⟩)
  go_ret
  refine ⟨rfl, ?_⟩
  exact below_then hb9 (below_drawn hB0 _)
set_option maxHeartbeats 1000000 in
theorem walk (a b c d : Int) (w : World) (_ha : -9223372036854775808 ≤ a ∧ a ≤ 9223372036854775807) (_hb : -9223372036854775808 ≤ b ∧ b ≤ 9223372036854775807) (_hc : -9223372036854775808 ≤ c ∧ c ≤ 9223372036854775807) (_hd : -9223372036854775808 ≤ d ∧ d ≤ 9223372036854775807)  :
    Calls Try.prog 10 #[.agg #[.int .i64 a, .int .i64 b, .int .i64 c, .int .i64 d]] w fun e w' => e = .returned (.bool true) ∧ Below w.heap.size w w' := by
  rcases bcase (rightB a b c d) with h | h
  · exact walk_yes a b c d w h
  · exact walk_no a b c d w h

theorem own : ownKnob Try.prog.godebug = none := by kernel_rfl
theorem laidOut : laidOutB Try.prog = true := by kernel_rfl
set_option maxRecDepth 100000 in
theorem lifted (os : Os) (started : os.Started) (H : Type) (enc : TypeId × Value → H) :
    ReturnsInHanded {} Try.checked os 10 .any (Rows.geomCornersSpec.pre6 enc Try.prog Try.f10 Rows.geomCornersRow.domain false) (Rows.geomCornersSpec.post enc Try.prog Try.f10 false true false false) := by
  refine returnsInHanded_of_change (C := Try.checked) own started (by kernel_rfl) Try.func10
    (ChangeSpec.witness6 (enc := enc) (C := Try.checked) false ⟨#[], #[.agg #[.int .i64 0, .int .i64 0, .int .i64 0, .int .i64 0]], []⟩ 8 (by kernel_rfl) (by kernel_rfl) (by kernel_rfl) (by kernel_rfl)) ?_
  intro W base args ds gs before hval0 hW hcnd _
  have hval : ∀ (j : Nat) t v, Try.f10.params[j]? = some t → args[j]? = some v → Value.okWide Try.prog W .any base t v := hval0
  have hW' := hW
  obtain ⟨p, q, hA0, hV, rfl, hfz, hnd⟩ := hW
  have hA : DataW.TrodAll enc Try.prog W 0 (fun _ => true) true Try.f10.params.toList args.toList ds p := hA0
  rw [Try.params10] at hA hval
  obtain ⟨v0, vs0, d0, ds0, p0, q0, hargs, rfl, rfl, h0, r0⟩ := trodAll_cons hA
  obtain ⟨rfl, rfl, rfl⟩ := trodAll_nil r0
  obtain rfl : args = #[v0] := by cases args; simp_all
  obtain ⟨rfl, rfl⟩ := trodVars_none hV
  have k0 := h0
  have lt0 : ∀ x ∈ p0, x.block < W.heap.size := by obtain ⟨m, hm⟩ := k0; exact DataW.trod_lt m _ _ _ hm
  obtain ⟨c0_0, c0_1, c0_2, c0_3, y0_0, y0_1, y0_2, y0_3, m0, rfl, rfl, rfl, hy0_0, hy0_1, hy0_2, hy0_3⟩ := Joins.open_agg4 Try.underlying25 (by kernel_rfl) (by kernel_rfl) (hval 0 25 v0 rfl rfl) h0
  obtain ⟨a0_0, e0_0, rfl, w0_0⟩ := DataW.trod_int Try.underlying3 hy0_0
  simp only [List.cons.injEq, and_true] at e0_0
  subst e0_0
  obtain ⟨a0_1, e0_1, rfl, w0_1⟩ := DataW.trod_int Try.underlying3 hy0_1
  simp only [List.cons.injEq, and_true] at e0_1
  subst e0_1
  obtain ⟨a0_2, e0_2, rfl, w0_2⟩ := DataW.trod_int Try.underlying3 hy0_2
  simp only [List.cons.injEq, and_true] at e0_2
  subst e0_2
  obtain ⟨a0_3, e0_3, rfl, w0_3⟩ := DataW.trod_int Try.underlying3 hy0_3
  simp only [List.cons.injEq, and_true] at e0_3
  subst e0_3
  clear hA0 hval0
  refine (walk a0_0 a0_1 a0_2 a0_3 W (bounds_i64 w0_0) (bounds_i64 w0_1) (bounds_i64 w0_2) (bounds_i64 w0_3)).mono fun e W' ⟨he, bel⟩ => ?_
  subst he
  exact ⟨_, rfl, _, _, _, [], _, [], hW', trodAll_mk1 (shut_bool Try.underlying4 _), (trodAll_cons_mk (Below.trod laidOut (by kernel_rfl) (of_decide_eq_true (by kernel_rfl)) k0 bel lt0) trodAll_mk0), rfl, bel.frame _, fun h => by cases h⟩
theorem over : Rows.geomCornersRow.holds Try.pinned (OpenSpec.ofChange Rows.geomCornersSpec) :=
  OpenClaim.holds_of_wide 10 Try.f10 rfl rfl rfl rfl rfl rfl rfl ⟨rfl, rfl, rfl, rfl, rfl⟩ rfl rfl rfl rfl rfl (by kernel_rfl) Try.func10 (by kernel_rfl)
    (of_decide_eq_true (by kernel_rfl)) (by unfold Func.isWrapper; first | (rw [if_pos (by decide +kernel)]; kernel_rfl) | (rw [if_neg (by decide +kernel)]; exact ⟨rfl, rfl⟩))
    (fun os started H enc _ => lifted os started H enc)
/-- The statement. -/
theorem proved : Rows.GeomCornersSaid := over
#print axioms proved
end Go.Proofs.Ytichfgpmcamhmaa.geomCorners
