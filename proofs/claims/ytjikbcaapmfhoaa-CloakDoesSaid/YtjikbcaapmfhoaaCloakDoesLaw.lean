/- CloakDoes: (P9.1, P9.2) of any profile it is told whether it may be, and whether a count and an area do. Conditions: none. -/
import Derived.Test.YtjikbcaapmfhoaaCk6
import Derived.Test.YtjikbcaapmfhoaaFrame
import Derived.Lib.SmallJoins
namespace Go.Proofs.Ytjikbcaapmfhoaa.cloakDoes
set_option linter.unusedVariables false
set_option linter.unusedSimpArgs false
open Go.ChangeShapes Go.WideShapes Go.ChangeAt Go.RowKit
open Go.ChangeMaps (open_string shut_string)
theorem below_drew1 {B : Nat} {a w : World} (h : Below B a w) : Below B a w.drew := ⟨h.os, h.tape, h.output, h.size, h.block⟩
theorem eq_zero (w : World) : (Op.equalIn 10000 37 (.agg #[.int .i64 0, .int .i64 0, .int .i64 0, .int .i64 0, .int .i64 0, .int .i64 0, .int .i64 0, .int .i64 0, .int .i64 0]) (.agg #[.int .i64 0, .int .i64 0, .int .i64 0, .int .i64 0, .int .i64 0, .int .i64 0, .int .i64 0, .int .i64 0, .int .i64 0])).run Try.prog w = .ok true w := by kernel_rfl
attribute [local go_sem] eq_zero
set_option maxRecDepth 100000 in
set_option maxHeartbeats 8000000 in
theorem walk (K A cnt ar px py : Int) (w : World) (b0 : -9223372036854775808 ≤ K ∧ K ≤ 9223372036854775807) (b1 : 0 ≤ A ∧ A ≤ 18446744073709551615) (b2 : -9223372036854775808 ≤ cnt ∧ cnt ≤ 9223372036854775807) (b3 : 0 ≤ ar ∧ ar ≤ 18446744073709551615) (b4 : -9223372036854775808 ≤ px ∧ px ≤ 9223372036854775807) (b5 : -9223372036854775808 ≤ py ∧ py ≤ 9223372036854775807) :
    Calls Try.prog 8 #[.agg #[.int .i64 K, .int .u64 A], .int .i64 cnt, .int .u64 ar, .agg #[.int .i64 px, .int .i64 py]] w fun e w' => e = .returned (.bool true) ∧ Below w.heap.size w w' := by
  clear b0 b1 b2 b3 b4 b5
  have hA : Below w.heap.size w ((w.alloc (.cells #[.int .i64 K, .int .u64 A] 27)).alloc (.cells #[.int .i64 px, .int .i64 py] 24)) := ((Below.refl _ _).alloc (Nat.le_refl _) _).alloc (by simp) _
  have hbk := blk_two w 27 24 #[.int .i64 K, .int .u64 A] #[.int .i64 px, .int .i64 py]
  have HA := Lib.hid hA; have HBK := Lib.hid hbk; clear hA hbk
  go_enter Try.func8, Try.ntmps8
  go_wp2_with fail
  refine (find_nil px py K A _).mono ?_
  rintro e w1 ⟨rfl, hb1⟩
  have HB1 := Lib.hid (below_trans HA.out hb1)
  have HK1 := Lib.hid (HBK.out.1.thru0 hb1)
  clear hb1 HA HBK
  unfold Ck.val ck0
  go_upto_region 2 with fail
  have hA2 : Below w1.heap.size w1 (w1.alloc (.cells #[.int .i64 0, .int .i64 0, .int .i64 0, .int .i64 0, .int .i64 0, .int .i64 0, .int .i64 0, .int .i64 0, .int .i64 0] 37)) := (Below.refl _ _).alloc (Nat.le_refl _) _
  have HB2 := Lib.hid (below_trans HB1.out hA2)
  have HK2 := Lib.hid (HK1.out.thru0 hA2)
  have HK9 := Lib.hid (Blk.new w1 37 #[.int .i64 0, .int .i64 0, .int .i64 0, .int .i64 0, .int .i64 0, .int .i64 0, .int .i64 0, .int .i64 0, .int .i64 0])
  clear hA2 HB1 HK1
  generalize hp9 : w1.heap.size = p9 at *
  generalize (w1.alloc (.cells #[.int .i64 0, .int .i64 0, .int .i64 0, .int .i64 0, .int .i64 0, .int .i64 0, .int .i64 0, .int .i64 0, .int .i64 0] 37)) = W at *
  have k0 := HK2.out.cell 0
  have k1 := HK2.out.cell 1
  have z0 := HK9.out.cell 0
  have z1 := HK9.out.cell 1
  have z2 := HK9.out.cell 2
  have z3 := HK9.out.cell 3
  have z4 := HK9.out.cell 4
  have z5 := HK9.out.cell 5
  have z6 := HK9.out.cell 6
  have z7 := HK9.out.cell 7
  have z8 := HK9.out.cell 8
  simp only [List.getElem?_toArray, List.getElem?_cons_zero, List.getElem?_cons_succ] at k0 k1 z0 z1 z2 z3 z4 z5 z6 z7 z8
  have hbW := Below.refl W.heap.size W
  have HR1 := Lib.hid (cright_pr K A)
  have HR2 := Lib.hid (rright_pr K A)
  have HD1 := Lib.hid (cdoes_any K A cnt ar)
  have HD2 := Lib.hid (rdoes_any K A cnt ar)
  generalize rightP K = R at *
  generalize doesP K A cnt ar = D at *
  generalize hp4 : w.heap.size = p4 at *
  clear HK2 HK9
  go_region_held3 (fun w' => w'.cell? ⟨p4, 0, none⟩ = some (.int .i64 K) ∧ w'.cell? ⟨p4, 1, none⟩ = some (.int .u64 A) ∧ w'.cell? ⟨p9, 0, none⟩ = some (.int .i64 0) ∧ w'.cell? ⟨p9, 1, none⟩ = some (.int .i64 0) ∧ w'.cell? ⟨p9, 2, none⟩ = some (.int .i64 0) ∧ w'.cell? ⟨p9, 3, none⟩ = some (.int .i64 0) ∧ w'.cell? ⟨p9, 4, none⟩ = some (.int .i64 0) ∧ w'.cell? ⟨p9, 5, none⟩ = some (.int .i64 0) ∧ w'.cell? ⟨p9, 6, none⟩ = some (.int .i64 0) ∧ w'.cell? ⟨p9, 7, none⟩ = some (.int .i64 0) ∧ w'.cell? ⟨p9, 8, none⟩ = some (.int .i64 0) ∧ Below W.heap.size W w') (first | (refine ⟨?_, ?_, ?_, ?_, ?_, ?_, ?_, ?_, ?_, ?_, ?_, ?_⟩ <;> first | assumption | (exact cell_later (by assumption) (by assumption)) | (exact below_drew1 (by assumption)) | (exact below_trans (by assumption) (by assumption))) | (go_split_ands; refine ⟨?_, ?_, ?_, ?_, ?_, ?_, ?_, ?_, ?_, ?_, ?_, ?_⟩ <;> first | (exact cell_later (by assumption) (by assumption)) | (exact below_trans (by assumption) (by assumption)) | go_keep))
    (first
      | (go_at_call 24; refine (HR1.out _).mono ?_; rintro e w9 ⟨rfl, hb9⟩)
      | (go_at_call 13; refine (HR2.out _).mono ?_; rintro e w9 ⟨rfl, hb9⟩)
      | (go_at_call 22; refine (HD1.out _).mono ?_; rintro e w9 ⟨rfl, hb9⟩)
      | (go_at_call 23; refine (HD2.out _).mono ?_; rintro e w9 ⟨rfl, hb9⟩)
      | (go_at_call 10; refine (ckknown_any _).mono ?_; rintro e w9 ⟨rfl, hb9⟩))
  all_goals
    go_split_ands
    go_wp2
    go_ret
    refine ⟨rfl, ?_⟩
    subst hp4
    exact below_trans HB2.out (by assumption)

theorem own : ownKnob Try.prog.godebug = none := by kernel_rfl
theorem laidOut : laidOutB Try.prog = true := by kernel_rfl
set_option maxRecDepth 100000 in
theorem lifted (os : Os) (started : os.Started) (H : Type) (enc : TypeId × Value → H) :
    ReturnsInHanded {} Try.checked os 8 .any (Rows.cloakDoesSpec.pre6 enc Try.prog Try.f8 Rows.cloakDoesRow.domain false) (Rows.cloakDoesSpec.post enc Try.prog Try.f8 false true false false) := by
  refine returnsInHanded_of_change (C := Try.checked) own started (by kernel_rfl) Try.func8
    (ChangeSpec.witness6 (enc := enc) (C := Try.checked) false ⟨#[], #[.agg #[.int .i64 0, .int .u64 0], .int .i64 0, .int .u64 0, .agg #[.int .i64 0, .int .i64 0]], []⟩ 8 (by kernel_rfl) (by kernel_rfl) (by kernel_rfl) (by kernel_rfl)) ?_
  intro W base args ds gs before hval0 hW hcnd _
  have hval : ∀ (j : Nat) t v, Try.f8.params[j]? = some t → args[j]? = some v → Value.okWide Try.prog W .any base t v := hval0
  have hW' := hW
  obtain ⟨p, q, hA0, hV, rfl, hfz, hnd⟩ := hW
  have hA : DataW.TrodAll enc Try.prog W 0 (fun _ => true) true Try.f8.params.toList args.toList ds p := hA0
  rw [Try.params8] at hA hval
  obtain ⟨v0, vs0, d0, ds0, p0, q0, hargs, rfl, rfl, h0, r0⟩ := trodAll_cons hA
  obtain ⟨v1, vs1, d1, ds1, p1, q1, rfl, rfl, rfl, h1, r1⟩ := trodAll_cons r0
  obtain ⟨v2, vs2, d2, ds2, p2, q2, rfl, rfl, rfl, h2, r2⟩ := trodAll_cons r1
  obtain ⟨v3, vs3, d3, ds3, p3, q3, rfl, rfl, rfl, h3, r3⟩ := trodAll_cons r2
  obtain ⟨rfl, rfl, rfl⟩ := trodAll_nil r3
  obtain rfl : args = #[v0, v1, v2, v3] := by cases args; simp_all
  obtain ⟨rfl, rfl⟩ := trodVars_none hV
  have k0 := h0
  have lt0 : ∀ x ∈ p0, x.block < W.heap.size := by obtain ⟨m, hm⟩ := k0; exact DataW.trod_lt m _ _ _ hm
  obtain ⟨c0_0, c0_1, y0_0, y0_1, m0, rfl, rfl, rfl, hy0_0, hy0_1⟩ := Joins.open_agg2 Try.underlying27 (by kernel_rfl) (by kernel_rfl) (hval 0 27 v0 rfl rfl) h0
  obtain ⟨a0_0, e0_0, rfl, w0_0⟩ := DataW.trod_int Try.underlying3 hy0_0
  simp only [List.cons.injEq, and_true] at e0_0
  subst e0_0
  obtain ⟨a0_1, e0_1, rfl, w0_1⟩ := DataW.trod_int Try.underlying25 hy0_1
  simp only [List.cons.injEq, and_true] at e0_1
  subst e0_1
  have k1 := h1
  have lt1 : ∀ x ∈ p1, x.block < W.heap.size := by obtain ⟨m, hm⟩ := k1; exact DataW.trod_lt m _ _ _ hm
  obtain ⟨a1, rfl, rfl, rfl, w1⟩ := open_int Try.underlying3 (hval 1 3 v1 rfl rfl) h1
  have k2 := h2
  have lt2 : ∀ x ∈ p2, x.block < W.heap.size := by obtain ⟨m, hm⟩ := k2; exact DataW.trod_lt m _ _ _ hm
  obtain ⟨a2, rfl, rfl, rfl, w2⟩ := open_int Try.underlying25 (hval 2 25 v2 rfl rfl) h2
  have k3 := h3
  have lt3 : ∀ x ∈ p3, x.block < W.heap.size := by obtain ⟨m, hm⟩ := k3; exact DataW.trod_lt m _ _ _ hm
  obtain ⟨c3_0, c3_1, y3_0, y3_1, m3, rfl, rfl, rfl, hy3_0, hy3_1⟩ := Joins.open_agg2 Try.underlying24 (by kernel_rfl) (by kernel_rfl) (hval 3 24 v3 rfl rfl) h3
  obtain ⟨a3_0, e3_0, rfl, w3_0⟩ := DataW.trod_int Try.underlying3 hy3_0
  simp only [List.cons.injEq, and_true] at e3_0
  subst e3_0
  obtain ⟨a3_1, e3_1, rfl, w3_1⟩ := DataW.trod_int Try.underlying3 hy3_1
  simp only [List.cons.injEq, and_true] at e3_1
  subst e3_1
  clear hA0 hval0
  refine (walk a0_0 a0_1 a1 a2 a3_0 a3_1 W (bounds_i64 w0_0) (bounds_u64 w0_1) (bounds_i64 w1) (bounds_u64 w2) (bounds_i64 w3_0) (bounds_i64 w3_1)).mono fun e W' ⟨he, bel⟩ => ?_
  subst he
  exact ⟨_, rfl, _, _, _, [], _, [], hW', trodAll_mk1 (shut_bool Try.underlying4 _), (trodAll_cons_mk (Below.trod laidOut (by kernel_rfl) (of_decide_eq_true (by kernel_rfl)) k0 bel lt0) (trodAll_cons_mk (Below.trod laidOut (by kernel_rfl) (of_decide_eq_true (by kernel_rfl)) k1 bel lt1) (trodAll_cons_mk (Below.trod laidOut (by kernel_rfl) (of_decide_eq_true (by kernel_rfl)) k2 bel lt2) (trodAll_cons_mk (Below.trod laidOut (by kernel_rfl) (of_decide_eq_true (by kernel_rfl)) k3 bel lt3) trodAll_mk0)))), rfl, bel.frame _, fun h => by cases h⟩
theorem over : Rows.cloakDoesRow.holds Try.pinned (OpenSpec.ofChange Rows.cloakDoesSpec) :=
  OpenClaim.holds_of_wide 8 Try.f8 rfl rfl rfl rfl rfl rfl rfl ⟨rfl, rfl, rfl, rfl, rfl⟩ rfl rfl rfl rfl rfl (by kernel_rfl) Try.func8 (by kernel_rfl)
    (of_decide_eq_true (by kernel_rfl)) (by unfold Func.isWrapper; first | (rw [if_pos (by decide +kernel)]; kernel_rfl) | (rw [if_neg (by decide +kernel)]; exact ⟨rfl, rfl⟩))
    (fun os started H enc _ => lifted os started H enc)
/-- The statement. -/
theorem proved : Rows.CloakDoesSaid := over
#print axioms proved
end Go.Proofs.Ytjikbcaapmfhoaa.cloakDoes
