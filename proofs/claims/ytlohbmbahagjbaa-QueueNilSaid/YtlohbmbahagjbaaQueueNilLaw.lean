/- QueueNil: (P4.1) a queue that is not there takes nothing and has nothing. Conditions: none. -/
import Derived.Test.YtlohbmbahagjbaaQDrain0
import Derived.Test.YtlohbmbahagjbaaFrame
import Derived.Lib.SmallJoins
namespace Go.Proofs.Ytlohbmbahagjbaa.queueNil
set_option linter.unusedVariables false
set_option linter.unusedSimpArgs false
open Go.ChangeShapes Go.WideShapes Go.ChangeAt Go.RowKit
open Go.ChangeMaps (open_string shut_string)
set_option maxRecDepth 100000 in
set_option maxHeartbeats 4000000 in
theorem walk (k t i most : Int) (w : World) (b0 : 0 ≤ k ∧ k ≤ 18446744073709551615) (b1 : 0 ≤ t ∧ t ≤ 18446744073709551615) (b2 : -9223372036854775808 ≤ i ∧ i ≤ 9223372036854775807) (b3 : -9223372036854775808 ≤ most ∧ most ≤ 9223372036854775807) :
    Calls Try.prog 7 #[.agg #[.int .u64 k, .int .u64 t, .int .i64 i], .int .i64 most] w fun e w' => e = .returned (.bool true) ∧ Below w.heap.size w w' := by
  have B3 := Lib.hid b3
  clear b0 b1 b2 b3
  go_enter Try.func7, Try.ntmps7
  go_wp2_with fail
  refine (qtop_none none _ (.inl rfl)).mono ?_
  rintro e w1 ⟨he, hb1⟩
  unfold enV at he
  subst he
  have hB1 : Below w.heap.size w w1 := below_trans (by go_grown) hb1
  have hz1 := hb1.size
  simp at hz1
  have K1 := (Blk.new w 29 #[.int .u64 k, .int .u64 t, .int .i64 i]).below hb1 (by simp)
  clear hb1
  go_wp2_with fail
  refine (qpop_none none _ (.inl rfl)).mono ?_
  rintro e w2 ⟨he, hb2⟩
  unfold enV at he
  subst he
  have hB2 : Below w.heap.size w w2 := below_trans (hB1.alloc hB1.size _) hb2
  have hz2 := hb2.size
  simp at hz2
  have K2 := (K1.alloc (.cells #[.int .u64 0, .int .u64 0, .int .i64 0] 29)).below hb2 (by simp; omega)
  have A2 := (Blk.new w1 29 #[.int .u64 0, .int .u64 0, .int .i64 0]).below hb2 (by simp)
  clear hb2 hB1 K1
  have HB2 := Lib.hid (hB2.alloc hB2.size (.cells #[.int .u64 0, .int .u64 0, .int .i64 0] 29))
  have K3 := K2.alloc (.cells #[.int .u64 0, .int .u64 0, .int .i64 0] 29)
  have A3 := A2.alloc (.cells #[.int .u64 0, .int .u64 0, .int .i64 0] 29)
  have C3 := Blk.new w2 29 #[.int .u64 0, .int .u64 0, .int .i64 0]
  have zz : w2.heap.size + 1 = (w2.alloc (.cells #[.int .u64 0, .int .u64 0, .int .i64 0] 29)).heap.size := by simp
  have k0 := K3.cell 0
  have k1 := K3.cell 1
  have k2 := K3.cell 2
  simp only [List.getElem?_toArray, List.getElem?_cons_zero, List.getElem?_cons_succ] at k0 k1 k2
  have HA3 := Lib.hid A3; have HC3 := Lib.hid C3; have HZZ := Lib.hid zz
  clear K2 A2 K3 A3 C3 hB2 zz
  go_wp2_with fail
  generalize (w2.alloc (.cells #[.int .u64 0, .int .u64 0, .int .i64 0] 29)) = W at *
  refine (qpush_nil (k, t, i) W).mono ?_
  rintro e w3 ⟨rfl, hb3⟩
  have A4 := HA3.out.below hb3 HA3.out.lt
  have C4 := HC3.out.below hb3 HC3.out.lt
  have HB3 := Lib.hid (below_trans HB2.out hb3)
  have a0 := A4.cell 0
  have a1 := A4.cell 1
  have a2 := A4.cell 2
  have c0 := C4.cell 0
  have c1 := C4.cell 1
  have c2 := C4.cell 2
  simp only [List.getElem?_toArray, List.getElem?_cons_zero, List.getElem?_cons_succ] at a0 a1 a2 c0 c1 c2
  clear A4 C4 hb3 k0 k1 k2
  go_wp2_with fail
  refine (qlen_nil _).mono ?_
  rintro e w4 ⟨rfl, hw4⟩
  subst hw4
  go_wp2_with fail
  refine (qdrain_none none most _ (.inl rfl) B3.out).mono ?_
  rintro e w5 ⟨rfl, hb5⟩
  go_wp2_with fail
  refine (known_any _).mono ?_
  rintro e w6 ⟨rfl, hb6⟩
  go_wp2
  go_ret
  exact ⟨rfl, below_trans (below_trans HB3.out hb5) hb6⟩

theorem own : ownKnob Try.prog.godebug = none := by kernel_rfl
theorem laidOut : laidOutB Try.prog = true := by kernel_rfl
set_option maxRecDepth 100000 in
theorem lifted (os : Os) (started : os.Started) (H : Type) (enc : TypeId × Value → H) :
    ReturnsInHanded {} Try.checked os 7 .any (Rows.queueNilSpec.pre6 enc Try.prog Try.f7 Rows.queueNilRow.domain false) (Rows.queueNilSpec.post enc Try.prog Try.f7 false true false false) := by
  refine returnsInHanded_of_change (C := Try.checked) own started (by kernel_rfl) Try.func7
    (ChangeSpec.witness6 (enc := enc) (C := Try.checked) false ⟨#[], #[.agg #[.int .u64 0, .int .u64 0, .int .i64 0], .int .i64 0], []⟩ 8 (by kernel_rfl) (by kernel_rfl) (by kernel_rfl) (by kernel_rfl)) ?_
  intro W base args ds gs before hval0 hW hcnd _
  have hval : ∀ (j : Nat) t v, Try.f7.params[j]? = some t → args[j]? = some v → Value.okWide Try.prog W .any base t v := hval0
  have hW' := hW
  obtain ⟨p, q, hA0, hV, rfl, hfz, hnd⟩ := hW
  have hA : DataW.TrodAll enc Try.prog W 0 (fun _ => true) true Try.f7.params.toList args.toList ds p := hA0
  rw [Try.params7] at hA hval
  obtain ⟨v0, vs0, d0, ds0, p0, q0, hargs, rfl, rfl, h0, r0⟩ := trodAll_cons hA
  obtain ⟨v1, vs1, d1, ds1, p1, q1, rfl, rfl, rfl, h1, r1⟩ := trodAll_cons r0
  obtain ⟨rfl, rfl, rfl⟩ := trodAll_nil r1
  obtain rfl : args = #[v0, v1] := by cases args; simp_all
  obtain ⟨rfl, rfl⟩ := trodVars_none hV
  have k0 := h0
  have lt0 : ∀ x ∈ p0, x.block < W.heap.size := by obtain ⟨m, hm⟩ := k0; exact DataW.trod_lt m _ _ _ hm
  obtain ⟨c0_0, c0_1, c0_2, y0_0, y0_1, y0_2, m0, rfl, rfl, rfl, hy0_0, hy0_1, hy0_2⟩ := Joins.open_agg3 Try.underlying29 (by kernel_rfl) (by kernel_rfl) (hval 0 29 v0 rfl rfl) h0
  obtain ⟨a0_0, e0_0, rfl, w0_0⟩ := DataW.trod_int Try.underlying27 hy0_0
  simp only [List.cons.injEq, and_true] at e0_0
  subst e0_0
  obtain ⟨a0_1, e0_1, rfl, w0_1⟩ := DataW.trod_int Try.underlying27 hy0_1
  simp only [List.cons.injEq, and_true] at e0_1
  subst e0_1
  obtain ⟨a0_2, e0_2, rfl, w0_2⟩ := DataW.trod_int Try.underlying3 hy0_2
  simp only [List.cons.injEq, and_true] at e0_2
  subst e0_2
  have k1 := h1
  have lt1 : ∀ x ∈ p1, x.block < W.heap.size := by obtain ⟨m, hm⟩ := k1; exact DataW.trod_lt m _ _ _ hm
  obtain ⟨a1, rfl, rfl, rfl, w1⟩ := open_int Try.underlying3 (hval 1 3 v1 rfl rfl) h1
  clear hA0 hval0
  refine (walk a0_0 a0_1 a0_2 a1 W (bounds_u64 w0_0) (bounds_u64 w0_1) (bounds_i64 w0_2) (bounds_i64 w1)).mono fun e W' ⟨he, bel⟩ => ?_
  subst he
  exact ⟨_, rfl, _, _, _, [], _, [], hW', trodAll_mk1 (shut_bool Try.underlying4 _), (trodAll_cons_mk (Below.trod laidOut (by kernel_rfl) (of_decide_eq_true (by kernel_rfl)) k0 bel lt0) (trodAll_cons_mk (Below.trod laidOut (by kernel_rfl) (of_decide_eq_true (by kernel_rfl)) k1 bel lt1) trodAll_mk0)), rfl, bel.frame _, fun h => by cases h⟩
theorem over : Rows.queueNilRow.holds Try.pinned (OpenSpec.ofChange Rows.queueNilSpec) :=
  OpenClaim.holds_of_wide 7 Try.f7 rfl rfl rfl rfl rfl rfl rfl ⟨rfl, rfl, rfl, rfl, rfl⟩ rfl rfl rfl rfl rfl (by kernel_rfl) Try.func7 (by kernel_rfl)
    (of_decide_eq_true (by kernel_rfl)) (by unfold Func.isWrapper; first | (rw [if_pos (by decide +kernel)]; kernel_rfl) | (rw [if_neg (by decide +kernel)]; exact ⟨rfl, rfl⟩))
    (fun os started H enc _ => lifted os started H enc)
/-- The statement. -/
theorem proved : Rows.QueueNilSaid := over
#print axioms proved
end Go.Proofs.Ytlohbmbahagjbaa.queueNil
