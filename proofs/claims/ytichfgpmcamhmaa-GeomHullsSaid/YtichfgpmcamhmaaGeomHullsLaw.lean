/- GeomHulls: (P2.4) a hull is in each rectangle that has both. Conditions: none. -/
import Derived.Test.YtichfgpmcamhmaaGeomU
import Derived.Test.YtichfgpmcamhmaaFrame
import Derived.Lib.SmallJoins
namespace Go.Proofs.Ytichfgpmcamhmaa.geomHulls
set_option linter.unusedVariables false
set_option linter.unusedSimpArgs false
open Go.ChangeShapes Go.WideShapes Go.ChangeAt Go.RowKit
open Go.ChangeMaps (open_string shut_string)
theorem below_then {a b c : World} (k : Below b.heap.size b c) (h : Below a.heap.size a b) : Below a.heap.size a c := below_trans h k
theorem ins_hull (a b c d a1 b1 c1 d1 a2 b2 c2 d2 : Int) (hA : insB a b c d a2 b2 c2 d2 = true) (hBb : insB a1 b1 c1 d1 a2 b2 c2 d2 = true) : insB (hu0 a b c d a1 b1 c1 d1) (hu1 a b c d a1 b1 c1 d1) (hu2 a b c d a1 b1 c1 d1) (hu3 a b c d a1 b1 c1 d1) a2 b2 c2 d2 = true := by
  rw [insB_iff] at *
  have e1 : okH a b c d a1 b1 c1 d1 = true := by
    unfold okH
    rw [Bool.and_eq_true, rightB_iff, rightB_iff]
    omega
  simp only [hu0, hu1, hu2, hu3, e1, if_true]
  omega
set_option maxHeartbeats 1000000 in
theorem walk_no1 (a b c d a1 b1 c1 d1 a2 b2 c2 d2 : Int) (w : World)  (hA : insB a b c d a2 b2 c2 d2 = false) :
    Calls Try.prog 7 #[.agg #[.int .i64 a, .int .i64 b, .int .i64 c, .int .i64 d], .agg #[.int .i64 a1, .int .i64 b1, .int .i64 c1, .int .i64 d1], .agg #[.int .i64 a2, .int .i64 b2, .int .i64 c2, .int .i64 d2]] w fun e w' => e = .returned (.bool true) ∧ Below w.heap.size w w' := by
  go_enter Try.func7, Try.ntmps7
  go_wp2_with fail
  have hB0 : Below w.heap.size w (((w.alloc (.cells #[.int .i64 a, .int .i64 b, .int .i64 c, .int .i64 d] 25)).alloc (.cells #[.int .i64 a1, .int .i64 b1, .int .i64 c1, .int .i64 d1] 25)).alloc (.cells #[.int .i64 a2, .int .i64 b2, .int .i64 c2, .int .i64 d2] 25)) := by go_grown
  have K := blk_three w 25 25 25 #[.int .i64 a, .int .i64 b, .int .i64 c, .int .i64 d] #[.int .i64 a1, .int .i64 b1, .int .i64 c1, .int .i64 d1] #[.int .i64 a2, .int .i64 b2, .int .i64 c2, .int .i64 d2]
  generalize (((w.alloc (.cells #[.int .i64 a, .int .i64 b, .int .i64 c, .int .i64 d] 25)).alloc (.cells #[.int .i64 a1, .int .i64 b1, .int .i64 c1, .int .i64 d1] 25)).alloc (.cells #[.int .i64 a2, .int .i64 b2, .int .i64 c2, .int .i64 d2] 25)) = W at hB0 K ⊢
  have k00 := K.1.cell 0
  have k01 := K.1.cell 1
  have k02 := K.1.cell 2
  have k03 := K.1.cell 3
  have k10 := K.2.1.cell 0
  have k11 := K.2.1.cell 1
  have k12 := K.2.1.cell 2
  have k13 := K.2.1.cell 3
  have k20 := K.2.2.cell 0
  have k21 := K.2.2.cell 1
  have k22 := K.2.2.cell 2
  have k23 := K.2.2.cell 3
  simp only [List.getElem?_toArray, List.getElem?_cons_zero, List.getElem?_cons_succ] at k00 k01 k02 k03 k10 k11 k12 k13 k20 k21 k22 k23
  clear K
  have hlt0 := hB0.size
  refine (in_any _ _ _ _ _ _ _ _ _).mono ?_
  rintro e w1 ⟨rfl, hb⟩
  replace k00 := cell_later hb k00
  replace k01 := cell_later hb k01
  replace k02 := cell_later hb k02
  replace k03 := cell_later hb k03
  replace k10 := cell_later hb k10
  replace k11 := cell_later hb k11
  replace k12 := cell_later hb k12
  replace k13 := cell_later hb k13
  replace k20 := cell_later hb k20
  replace k21 := cell_later hb k21
  replace k22 := cell_later hb k22
  replace k23 := cell_later hb k23
  replace hB0 := below_trans hB0 hb
  clear hb
  go_wp2_with fail
  refine (known_any _).mono ?_
  rintro e w9 ⟨rfl, hb9⟩
  go_wp2
  go_ret
  exact ⟨rfl, below_trans hB0 hb9⟩
set_option maxHeartbeats 1000000 in
theorem walk_no2 (a b c d a1 b1 c1 d1 a2 b2 c2 d2 : Int) (w : World)  (hA : insB a b c d a2 b2 c2 d2 = true) (hBb : insB a1 b1 c1 d1 a2 b2 c2 d2 = false) :
    Calls Try.prog 7 #[.agg #[.int .i64 a, .int .i64 b, .int .i64 c, .int .i64 d], .agg #[.int .i64 a1, .int .i64 b1, .int .i64 c1, .int .i64 d1], .agg #[.int .i64 a2, .int .i64 b2, .int .i64 c2, .int .i64 d2]] w fun e w' => e = .returned (.bool true) ∧ Below w.heap.size w w' := by
  go_enter Try.func7, Try.ntmps7
  go_wp2_with fail
  have hB0 : Below w.heap.size w (((w.alloc (.cells #[.int .i64 a, .int .i64 b, .int .i64 c, .int .i64 d] 25)).alloc (.cells #[.int .i64 a1, .int .i64 b1, .int .i64 c1, .int .i64 d1] 25)).alloc (.cells #[.int .i64 a2, .int .i64 b2, .int .i64 c2, .int .i64 d2] 25)) := by go_grown
  have K := blk_three w 25 25 25 #[.int .i64 a, .int .i64 b, .int .i64 c, .int .i64 d] #[.int .i64 a1, .int .i64 b1, .int .i64 c1, .int .i64 d1] #[.int .i64 a2, .int .i64 b2, .int .i64 c2, .int .i64 d2]
  generalize (((w.alloc (.cells #[.int .i64 a, .int .i64 b, .int .i64 c, .int .i64 d] 25)).alloc (.cells #[.int .i64 a1, .int .i64 b1, .int .i64 c1, .int .i64 d1] 25)).alloc (.cells #[.int .i64 a2, .int .i64 b2, .int .i64 c2, .int .i64 d2] 25)) = W at hB0 K ⊢
  have k00 := K.1.cell 0
  have k01 := K.1.cell 1
  have k02 := K.1.cell 2
  have k03 := K.1.cell 3
  have k10 := K.2.1.cell 0
  have k11 := K.2.1.cell 1
  have k12 := K.2.1.cell 2
  have k13 := K.2.1.cell 3
  have k20 := K.2.2.cell 0
  have k21 := K.2.2.cell 1
  have k22 := K.2.2.cell 2
  have k23 := K.2.2.cell 3
  simp only [List.getElem?_toArray, List.getElem?_cons_zero, List.getElem?_cons_succ] at k00 k01 k02 k03 k10 k11 k12 k13 k20 k21 k22 k23
  clear K
  have hlt0 := hB0.size
  refine (in_any _ _ _ _ _ _ _ _ _).mono ?_
  rintro e w1 ⟨rfl, hb⟩
  replace k00 := cell_later hb k00
  replace k01 := cell_later hb k01
  replace k02 := cell_later hb k02
  replace k03 := cell_later hb k03
  replace k10 := cell_later hb k10
  replace k11 := cell_later hb k11
  replace k12 := cell_later hb k12
  replace k13 := cell_later hb k13
  replace k20 := cell_later hb k20
  replace k21 := cell_later hb k21
  replace k22 := cell_later hb k22
  replace k23 := cell_later hb k23
  replace hB0 := below_trans hB0 hb
  clear hb
  go_wp2_with fail
  refine (in_any _ _ _ _ _ _ _ _ _).mono ?_
  rintro e w2 ⟨rfl, hb⟩
  replace k00 := cell_later hb k00
  replace k01 := cell_later hb k01
  replace k02 := cell_later hb k02
  replace k03 := cell_later hb k03
  replace k10 := cell_later hb k10
  replace k11 := cell_later hb k11
  replace k12 := cell_later hb k12
  replace k13 := cell_later hb k13
  replace k20 := cell_later hb k20
  replace k21 := cell_later hb k21
  replace k22 := cell_later hb k22
  replace k23 := cell_later hb k23
  replace hB0 := below_trans hB0 hb
  clear hb
  go_wp2_with fail
  refine (known_any _).mono ?_
  rintro e w9 ⟨rfl, hb9⟩
  go_wp2
  go_ret
  exact ⟨rfl, below_trans hB0 hb9⟩
set_option maxHeartbeats 2000000 in
theorem walk_yes (a b c d a1 b1 c1 d1 a2 b2 c2 d2 : Int) (w : World)  (hA : insB a b c d a2 b2 c2 d2 = true) (hBb : insB a1 b1 c1 d1 a2 b2 c2 d2 = true) :
    Calls Try.prog 7 #[.agg #[.int .i64 a, .int .i64 b, .int .i64 c, .int .i64 d], .agg #[.int .i64 a1, .int .i64 b1, .int .i64 c1, .int .i64 d1], .agg #[.int .i64 a2, .int .i64 b2, .int .i64 c2, .int .i64 d2]] w fun e w' => e = .returned (.bool true) ∧ Below w.heap.size w w' := by
  have hI : insB (hu0 a b c d a1 b1 c1 d1) (hu1 a b c d a1 b1 c1 d1) (hu2 a b c d a1 b1 c1 d1) (hu3 a b c d a1 b1 c1 d1) a2 b2 c2 d2 = true := ins_hull _ _ _ _ _ _ _ _ _ _ _ _ hA hBb
  go_enter Try.func7, Try.ntmps7
  go_wp2_with fail
  have hB0 : Below w.heap.size w (((w.alloc (.cells #[.int .i64 a, .int .i64 b, .int .i64 c, .int .i64 d] 25)).alloc (.cells #[.int .i64 a1, .int .i64 b1, .int .i64 c1, .int .i64 d1] 25)).alloc (.cells #[.int .i64 a2, .int .i64 b2, .int .i64 c2, .int .i64 d2] 25)) := by go_grown
  have K := blk_three w 25 25 25 #[.int .i64 a, .int .i64 b, .int .i64 c, .int .i64 d] #[.int .i64 a1, .int .i64 b1, .int .i64 c1, .int .i64 d1] #[.int .i64 a2, .int .i64 b2, .int .i64 c2, .int .i64 d2]
  generalize (((w.alloc (.cells #[.int .i64 a, .int .i64 b, .int .i64 c, .int .i64 d] 25)).alloc (.cells #[.int .i64 a1, .int .i64 b1, .int .i64 c1, .int .i64 d1] 25)).alloc (.cells #[.int .i64 a2, .int .i64 b2, .int .i64 c2, .int .i64 d2] 25)) = W at hB0 K ⊢
  have k00 := K.1.cell 0
  have k01 := K.1.cell 1
  have k02 := K.1.cell 2
  have k03 := K.1.cell 3
  have k10 := K.2.1.cell 0
  have k11 := K.2.1.cell 1
  have k12 := K.2.1.cell 2
  have k13 := K.2.1.cell 3
  have k20 := K.2.2.cell 0
  have k21 := K.2.2.cell 1
  have k22 := K.2.2.cell 2
  have k23 := K.2.2.cell 3
  simp only [List.getElem?_toArray, List.getElem?_cons_zero, List.getElem?_cons_succ] at k00 k01 k02 k03 k10 k11 k12 k13 k20 k21 k22 k23
  clear K
  have hlt0 := hB0.size
  refine (in_any _ _ _ _ _ _ _ _ _).mono ?_
  rintro e w1 ⟨rfl, hb⟩
  replace k00 := cell_later hb k00
  replace k01 := cell_later hb k01
  replace k02 := cell_later hb k02
  replace k03 := cell_later hb k03
  replace k10 := cell_later hb k10
  replace k11 := cell_later hb k11
  replace k12 := cell_later hb k12
  replace k13 := cell_later hb k13
  replace k20 := cell_later hb k20
  replace k21 := cell_later hb k21
  replace k22 := cell_later hb k22
  replace k23 := cell_later hb k23
  replace hB0 := below_trans hB0 hb
  clear hb
  go_wp2_with fail
  refine (in_any _ _ _ _ _ _ _ _ _).mono ?_
  rintro e w2 ⟨rfl, hb⟩
  replace k00 := cell_later hb k00
  replace k01 := cell_later hb k01
  replace k02 := cell_later hb k02
  replace k03 := cell_later hb k03
  replace k10 := cell_later hb k10
  replace k11 := cell_later hb k11
  replace k12 := cell_later hb k12
  replace k13 := cell_later hb k13
  replace k20 := cell_later hb k20
  replace k21 := cell_later hb k21
  replace k22 := cell_later hb k22
  replace k23 := cell_later hb k23
  replace hB0 := below_trans hB0 hb
  clear hb
  go_wp2_with fail
  go_region_held3 (fun w' => (w'.cell? ⟨w.heap.size, 0, none⟩ = some (.int .i64 a)) ∧ (w'.cell? ⟨w.heap.size, 1, none⟩ = some (.int .i64 b)) ∧ (w'.cell? ⟨w.heap.size, 2, none⟩ = some (.int .i64 c)) ∧ (w'.cell? ⟨w.heap.size, 3, none⟩ = some (.int .i64 d)) ∧ (w'.cell? ⟨w.heap.size + 1, 0, none⟩ = some (.int .i64 a1)) ∧ (w'.cell? ⟨w.heap.size + 1, 1, none⟩ = some (.int .i64 b1)) ∧ (w'.cell? ⟨w.heap.size + 1, 2, none⟩ = some (.int .i64 c1)) ∧ (w'.cell? ⟨w.heap.size + 1, 3, none⟩ = some (.int .i64 d1)) ∧ (w'.cell? ⟨w.heap.size + 1 + 1, 0, none⟩ = some (.int .i64 a2)) ∧ (w'.cell? ⟨w.heap.size + 1 + 1, 1, none⟩ = some (.int .i64 b2)) ∧ (w'.cell? ⟨w.heap.size + 1 + 1, 2, none⟩ = some (.int .i64 c2)) ∧ (w'.cell? ⟨w.heap.size + 1 + 1, 3, none⟩ = some (.int .i64 d2)) ∧ (Below w.heap.size w w')) (first | (go_split_ands; refine ⟨?_, ?_, ?_, ?_, ?_, ?_, ?_, ?_, ?_, ?_, ?_, ?_, ?_⟩ <;> first | (exact cell_later (by assumption) (by assumption)) | (exact below_then (by assumption) (by assumption)) | (go_grown; done) | go_keep)) (first | (go_at_call 25; refine (hull_u _ _ _ _ _ _ _ _ _).mono ?_; rintro e w9 ⟨rfl, hb9⟩) | (go_at_call 17; refine (in_any _ _ _ _ _ _ _ _ _).mono ?_; rintro e w9 ⟨rfl, hb9⟩) | (go_at_call 21; refine (known_any _).mono ?_; rintro e w9 ⟨rfl, hb9⟩))
  all_goals
    go_wp2
    go_ret
    refine ⟨rfl, ?_⟩
    (repeat' (first | (with_reducible assumption) | (go_grown; done) | (refine below_trans ?_ (by assumption))))
set_option maxHeartbeats 1000000 in
theorem walk (a b c d a1 b1 c1 d1 a2 b2 c2 d2 : Int) (w : World) (_ha : -9223372036854775808 ≤ a ∧ a ≤ 9223372036854775807) (_hb : -9223372036854775808 ≤ b ∧ b ≤ 9223372036854775807) (_hc : -9223372036854775808 ≤ c ∧ c ≤ 9223372036854775807) (_hd : -9223372036854775808 ≤ d ∧ d ≤ 9223372036854775807) (_ha1 : -9223372036854775808 ≤ a1 ∧ a1 ≤ 9223372036854775807) (_hb1 : -9223372036854775808 ≤ b1 ∧ b1 ≤ 9223372036854775807) (_hc1 : -9223372036854775808 ≤ c1 ∧ c1 ≤ 9223372036854775807) (_hd1 : -9223372036854775808 ≤ d1 ∧ d1 ≤ 9223372036854775807) (_ha2 : -9223372036854775808 ≤ a2 ∧ a2 ≤ 9223372036854775807) (_hb2 : -9223372036854775808 ≤ b2 ∧ b2 ≤ 9223372036854775807) (_hc2 : -9223372036854775808 ≤ c2 ∧ c2 ≤ 9223372036854775807) (_hd2 : -9223372036854775808 ≤ d2 ∧ d2 ≤ 9223372036854775807)  :
    Calls Try.prog 7 #[.agg #[.int .i64 a, .int .i64 b, .int .i64 c, .int .i64 d], .agg #[.int .i64 a1, .int .i64 b1, .int .i64 c1, .int .i64 d1], .agg #[.int .i64 a2, .int .i64 b2, .int .i64 c2, .int .i64 d2]] w fun e w' => e = .returned (.bool true) ∧ Below w.heap.size w w' := by
  rcases bcase (insB a b c d a2 b2 c2 d2) with h | h
  · rcases bcase (insB a1 b1 c1 d1 a2 b2 c2 d2) with k | k
    · exact walk_yes a b c d a1 b1 c1 d1 a2 b2 c2 d2 w h k
    · exact walk_no2 a b c d a1 b1 c1 d1 a2 b2 c2 d2 w h k
  · exact walk_no1 a b c d a1 b1 c1 d1 a2 b2 c2 d2 w h

theorem own : ownKnob Try.prog.godebug = none := by kernel_rfl
theorem laidOut : laidOutB Try.prog = true := by kernel_rfl
set_option maxRecDepth 100000 in
theorem lifted (os : Os) (started : os.Started) (H : Type) (enc : TypeId × Value → H) :
    ReturnsInHanded {} Try.checked os 7 .any (Rows.geomHullsSpec.pre6 enc Try.prog Try.f7 Rows.geomHullsRow.domain false) (Rows.geomHullsSpec.post enc Try.prog Try.f7 false true false false) := by
  refine returnsInHanded_of_change (C := Try.checked) own started (by kernel_rfl) Try.func7
    (ChangeSpec.witness6 (enc := enc) (C := Try.checked) false ⟨#[], #[.agg #[.int .i64 0, .int .i64 0, .int .i64 0, .int .i64 0], .agg #[.int .i64 0, .int .i64 0, .int .i64 0, .int .i64 0], .agg #[.int .i64 0, .int .i64 0, .int .i64 0, .int .i64 0]], []⟩ 8 (by kernel_rfl) (by kernel_rfl) (by kernel_rfl) (by kernel_rfl)) ?_
  intro W base args ds gs before hval0 hW hcnd _
  have hval : ∀ (j : Nat) t v, Try.f7.params[j]? = some t → args[j]? = some v → Value.okWide Try.prog W .any base t v := hval0
  have hW' := hW
  obtain ⟨p, q, hA0, hV, rfl, hfz, hnd⟩ := hW
  have hA : DataW.TrodAll enc Try.prog W 0 (fun _ => true) true Try.f7.params.toList args.toList ds p := hA0
  rw [Try.params7] at hA hval
  obtain ⟨v0, vs0, d0, ds0, p0, q0, hargs, rfl, rfl, h0, r0⟩ := trodAll_cons hA
  obtain ⟨v1, vs1, d1, ds1, p1, q1, rfl, rfl, rfl, h1, r1⟩ := trodAll_cons r0
  obtain ⟨v2, vs2, d2, ds2, p2, q2, rfl, rfl, rfl, h2, r2⟩ := trodAll_cons r1
  obtain ⟨rfl, rfl, rfl⟩ := trodAll_nil r2
  obtain rfl : args = #[v0, v1, v2] := by cases args; simp_all
  obtain ⟨rfl, rfl⟩ := trodVars_none hV
  have k0 := h0
  have lt0 : ∀ x ∈ p0, x.block < W.heap.size := by obtain ⟨m, hm⟩ := k0; exact DataW.trod_lt m _ _ _ hm
  obtain ⟨c0_0, c0_1, c0_2, c0_3, y0_0, y0_1, y0_2, y0_3, m0, rfl, rfl, rfl, hy0_0, hy0_1, hy0_2, hy0_3⟩ := Joins.open_agg4 Try.underlying25 (by kernel_rfl) (by kernel_rfl) (hval 0 25 v0 rfl rfl) h0
  obtain ⟨a0_0, e0_0, rfl, w0_0⟩ := DataW.trod_int Try.underlying3 hy0_0
  simp only [List.cons.injEq, and_true] at e0_0
  subst e0_0
  obtain ⟨a0_1, e0_1, rfl, w0_1⟩ := DataW.trod_int Try.underlying3 hy0_1
  simp only [List.cons.injEq, and_true] at e0_1
  subst e0_1
  obtain ⟨a0_2, e0_2, rfl, w0_2⟩ := DataW.trod_int Try.underlying3 hy0_2
  simp only [List.cons.injEq, and_true] at e0_2
  subst e0_2
  obtain ⟨a0_3, e0_3, rfl, w0_3⟩ := DataW.trod_int Try.underlying3 hy0_3
  simp only [List.cons.injEq, and_true] at e0_3
  subst e0_3
  have k1 := h1
  have lt1 : ∀ x ∈ p1, x.block < W.heap.size := by obtain ⟨m, hm⟩ := k1; exact DataW.trod_lt m _ _ _ hm
  obtain ⟨c1_0, c1_1, c1_2, c1_3, y1_0, y1_1, y1_2, y1_3, m1, rfl, rfl, rfl, hy1_0, hy1_1, hy1_2, hy1_3⟩ := Joins.open_agg4 Try.underlying25 (by kernel_rfl) (by kernel_rfl) (hval 1 25 v1 rfl rfl) h1
  obtain ⟨a1_0, e1_0, rfl, w1_0⟩ := DataW.trod_int Try.underlying3 hy1_0
  simp only [List.cons.injEq, and_true] at e1_0
  subst e1_0
  obtain ⟨a1_1, e1_1, rfl, w1_1⟩ := DataW.trod_int Try.underlying3 hy1_1
  simp only [List.cons.injEq, and_true] at e1_1
  subst e1_1
  obtain ⟨a1_2, e1_2, rfl, w1_2⟩ := DataW.trod_int Try.underlying3 hy1_2
  simp only [List.cons.injEq, and_true] at e1_2
  subst e1_2
  obtain ⟨a1_3, e1_3, rfl, w1_3⟩ := DataW.trod_int Try.underlying3 hy1_3
  simp only [List.cons.injEq, and_true] at e1_3
  subst e1_3
  have k2 := h2
  have lt2 : ∀ x ∈ p2, x.block < W.heap.size := by obtain ⟨m, hm⟩ := k2; exact DataW.trod_lt m _ _ _ hm
  obtain ⟨c2_0, c2_1, c2_2, c2_3, y2_0, y2_1, y2_2, y2_3, m2, rfl, rfl, rfl, hy2_0, hy2_1, hy2_2, hy2_3⟩ := Joins.open_agg4 Try.underlying25 (by kernel_rfl) (by kernel_rfl) (hval 2 25 v2 rfl rfl) h2
  obtain ⟨a2_0, e2_0, rfl, w2_0⟩ := DataW.trod_int Try.underlying3 hy2_0
  simp only [List.cons.injEq, and_true] at e2_0
  subst e2_0
  obtain ⟨a2_1, e2_1, rfl, w2_1⟩ := DataW.trod_int Try.underlying3 hy2_1
  simp only [List.cons.injEq, and_true] at e2_1
  subst e2_1
  obtain ⟨a2_2, e2_2, rfl, w2_2⟩ := DataW.trod_int Try.underlying3 hy2_2
  simp only [List.cons.injEq, and_true] at e2_2
  subst e2_2
  obtain ⟨a2_3, e2_3, rfl, w2_3⟩ := DataW.trod_int Try.underlying3 hy2_3
  simp only [List.cons.injEq, and_true] at e2_3
  subst e2_3
  clear hA0 hval0
  refine (walk a0_0 a0_1 a0_2 a0_3 a1_0 a1_1 a1_2 a1_3 a2_0 a2_1 a2_2 a2_3 W (bounds_i64 w0_0) (bounds_i64 w0_1) (bounds_i64 w0_2) (bounds_i64 w0_3) (bounds_i64 w1_0) (bounds_i64 w1_1) (bounds_i64 w1_2) (bounds_i64 w1_3) (bounds_i64 w2_0) (bounds_i64 w2_1) (bounds_i64 w2_2) (bounds_i64 w2_3)).mono fun e W' ⟨he, bel⟩ => ?_
  subst he
  exact ⟨_, rfl, _, _, _, [], _, [], hW', trodAll_mk1 (shut_bool Try.underlying4 _), (trodAll_cons_mk (Below.trod laidOut (by kernel_rfl) (of_decide_eq_true (by kernel_rfl)) k0 bel lt0) (trodAll_cons_mk (Below.trod laidOut (by kernel_rfl) (of_decide_eq_true (by kernel_rfl)) k1 bel lt1) (trodAll_cons_mk (Below.trod laidOut (by kernel_rfl) (of_decide_eq_true (by kernel_rfl)) k2 bel lt2) trodAll_mk0))), rfl, bel.frame _, fun h => by cases h⟩
theorem over : Rows.geomHullsRow.holds Try.pinned (OpenSpec.ofChange Rows.geomHullsSpec) :=
  OpenClaim.holds_of_wide 7 Try.f7 rfl rfl rfl rfl rfl rfl rfl ⟨rfl, rfl, rfl, rfl, rfl⟩ rfl rfl rfl rfl rfl (by kernel_rfl) Try.func7 (by kernel_rfl)
    (of_decide_eq_true (by kernel_rfl)) (by unfold Func.isWrapper; first | (rw [if_pos (by decide +kernel)]; kernel_rfl) | (rw [if_neg (by decide +kernel)]; exact ⟨rfl, rfl⟩))
    (fun os started H enc _ => lifted os started H enc)
/-- The statement. -/
theorem proved : Rows.GeomHullsSaid := over
#print axioms proved
end Go.Proofs.Ytichfgpmcamhmaa.geomHulls
