/- RosterNil: (P18.1, P18.2, P18.3) a roster that is not there has no one. Conditions: none. -/
import Derived.Test.YtolbjlphpgfcpaaRo8
namespace Go.Proofs.Ytolbjlphpgfcpaa.rosterNil
set_option linter.unusedVariables false
set_option linter.unusedSimpArgs false
open Go.ChangeShapes Go.WideShapes Go.ChangeAt Go.RowKit
open Go.ChangeMaps (open_string shut_string)
theorem users_nil (w : World) : Calls Try.prog 27 #[.pointer none] w fun e w' => e = .returned (.slice none 0 0) ∧ w = w' := by
  go_enter Try.func27, Try.ntmps27
  go_wp2
  go_ret
  exact ⟨rfl, rfl⟩
theorem all_nil (w : World) : Calls Try.prog 15 #[.pointer none] w fun e w' => e = .returned (.slice none 0 0) ∧ Below w.heap.size w w' := by
  go_enter Try.func15, Try.ntmps15
  go_wp2_with fail
  refine (users_nil _).mono ?_
  rintro e w1 ⟨rfl, hw⟩
  subst hw
  go_wp2_with fail
  go_loopw [3, 5, 6, 7, 11] (fun a _ _ _ i wr => a = .slice none 0 0 ∧ i = .int .i64 0 ∧ wr = w) (fun _ _ _ _ _ _ => 0)
  case atStart => exact ⟨rfl, rfl, rfl⟩
  case round =>
    obtain ⟨rfl, rfl, rfl⟩ := hrel
    go_wp2
    go_ret
    exact ⟨rfl, Below.refl _ _⟩
set_option maxRecDepth 100000 in
set_option maxHeartbeats 8000000 in
theorem does_nil (w : World) (q : Oq) : Calls Try.prog 10 #[.pointer none, q.V] w fun e w' => e = .returned (.int .i64 3) ∧ Below w.heap.size w w' := by
  have HB := Lib.hid (show Below w.heap.size w (w.alloc (.cells #[.int .i64 q.kind, .int .i64 q.m.user, .int .i64 q.m.role, .int .i64 q.m.tier, .int .i64 q.m.quota, .int .i64 q.m.k, .int .u64 q.m.area, .int .i64 q.fk, .int .u64 q.fa, .int .i64 q.n] 36)) by go_grown)
  have HEN := Lib.hid (fun w => enrol_nil w q.m)
  obtain ⟨kd, ⟨m0, m1, m2, m3, m4, m5⟩, fk, fa, nn⟩ := q
  simp only [Mb.V] at HB HEN
  go_enter Try.func10, Try.ntmps10
  go_wp2_with (first | (go_at_call 17; refine (HEN.out _).mono ?_; rintro e w2 ⟨rfl, hb2⟩) | (go_at_call 25; refine (dismiss_nil _ _).mono ?_; rintro e w2 ⟨rfl, hb2⟩) | (go_at_call 26; refine (profile_nil _ _ _ _).mono ?_; rintro e w2 ⟨rfl, hb2⟩) | (go_at_call 21; refine (quota_nil _ _ _).mono ?_; rintro e w2 ⟨rfl, hb2⟩) | (go_at_call 20; refine (spend_nil _ _).mono ?_; rintro e w2 ⟨rfl, hb2⟩))
  all_goals
    go_ret
    exact ⟨rfl, below_trans HB.out (by assumption)⟩
set_option maxRecDepth 100000 in
set_option maxHeartbeats 8000000 in
theorem walk (q : Oq) (w : World) (h : q.I) :
    Calls Try.prog 6 #[q.V] w fun e w' => e = .returned (.bool true) ∧ Below w.heap.size w w' := by
  clear h
  obtain ⟨kd, ⟨m0, m1, m2, m3, m4, m5⟩, fk, fa, nn⟩ := q
  have hfn := rfind_nil
  simp only [Mb.V, Mb.zero] at hfn
  have HFN := Lib.hid hfn
  clear hfn
  have HDO := Lib.hid (fun w => does_nil w ⟨kd, ⟨m0, m1, m2, m3, m4, m5⟩, fk, fa, nn⟩)
  go_enter Try.func6, Try.ntmps6
  go_wp2_with fail
  refine (HFN.out _ _).mono ?_
  rintro e w2 ⟨rfl, hb⟩
  have HO2 := Lib.hid (Blk.thru0 (Blk.new w 36 #[.int .i64 kd, .int .i64 m0, .int .i64 m1, .int .i64 m2, .int .i64 m3, .int .i64 m4, .int .u64 m5, .int .i64 fk, .int .u64 fa, .int .i64 nn]) hb)
  have HB2 := Lib.hid (below_trans (show Below w.heap.size w (w.alloc (.cells #[.int .i64 kd, .int .i64 m0, .int .i64 m1, .int .i64 m2, .int .i64 m3, .int .i64 m4, .int .u64 m5, .int .i64 fk, .int .u64 fa, .int .i64 nn] 36)) by go_grown) hb)
  clear hb
  obtain ⟨xb, hxb⟩ : ∃ xb, w.heap.size = xb := ⟨_, rfl⟩
  have HXB := Lib.hid hxb
  rw [hxb] at HO2 ⊢
  clear hxb
  go_upto_region 3 with fail
  have HB3 := Lib.hid (HB2.out.alloc HB2.out.size (.cells #[.int .i64 0, .int .i64 0, .int .i64 0, .int .i64 0, .int .i64 0, .int .u64 0] 34))
  have HO3 := Lib.hid (HO2.out.alloc (.cells #[.int .i64 0, .int .i64 0, .int .i64 0, .int .i64 0, .int .i64 0, .int .u64 0] 34))
  have HZ3 := Lib.hid (Blk.new w2 34 #[.int .i64 0, .int .i64 0, .int .i64 0, .int .i64 0, .int .i64 0, .int .u64 0])
  clear HB2 HO2
  generalize (w2.alloc (.cells #[.int .i64 0, .int .i64 0, .int .i64 0, .int .i64 0, .int .i64 0, .int .u64 0] 34)) = w3 at *
  generalize w2.heap.size = zb at *
  have c0 := HO3.out.cell 0
  have c1 := HO3.out.cell 1
  have c2 := HO3.out.cell 2
  have c3 := HO3.out.cell 3
  have c4 := HO3.out.cell 4
  have c5 := HO3.out.cell 5
  have c6 := HO3.out.cell 6
  have c7 := HO3.out.cell 7
  have c8 := HO3.out.cell 8
  have c9 := HO3.out.cell 9
  simp only [List.getElem?_toArray, List.getElem?_cons_zero, List.getElem?_cons_succ] at c0 c1 c2 c3 c4 c5 c6 c7 c8 c9
  go_wp2_with fail
  refine (HDO.out _).mono ?_
  rintro e w4 ⟨rfl, hb⟩
  have HB4 := Lib.hid (below_trans HB3.out hb)
  have HZ4 := Lib.hid (Blk.thru0 HZ3.out hb)
  clear hb c0 c1 c2 c3 c4 c5 c6 c7 c8 c9 HB3 HZ3 HO3
  have z0 := HZ4.out.cell 0
  have z1 := HZ4.out.cell 1
  have z2 := HZ4.out.cell 2
  have z3 := HZ4.out.cell 3
  have z4 := HZ4.out.cell 4
  have z5 := HZ4.out.cell 5
  simp only [List.getElem?_toArray, List.getElem?_cons_zero, List.getElem?_cons_succ] at z0 z1 z2 z3 z4 z5
  go_wp2_with fail
  refine (rlen_nil _).mono ?_
  rintro e w5 ⟨rfl, hw⟩
  subst hw
  go_wp2_with fail
  refine (all_nil _).mono ?_
  rintro e w6 ⟨rfl, hb⟩
  have HB6 := Lib.hid (below_trans HB4.out hb)
  clear hb
  go_wp2_with fail
  refine (rknown_any _).mono ?_
  rintro e w7 ⟨rfl, hb⟩
  have HB7 := Lib.hid (below_trans HB6.out hb)
  clear hb
  go_wp2
  go_ret
  exact ⟨rfl, HB7.out⟩
theorem own : ownKnob Try.prog.godebug = none := by kernel_rfl
theorem laidOut : laidOutB Try.prog = true := by kernel_rfl
set_option maxRecDepth 100000 in
theorem lifted (os : Os) (started : os.Started) (H : Type) (enc : TypeId × Value → H) :
    ReturnsInHanded {} Try.checked os 6 .any (Rows.rosterNilSpec.pre6 enc Try.prog Try.f6 Rows.rosterNilRow.domain false) (Rows.rosterNilSpec.post enc Try.prog Try.f6 false true false false) := by
  refine returnsInHanded_of_change (C := Try.checked) own started (by kernel_rfl) Try.func6
    (ChangeSpec.witness6 (enc := enc) (C := Try.checked) false ⟨#[], #[wOq], []⟩ 8 (by kernel_rfl) (by kernel_rfl) (by kernel_rfl) (by kernel_rfl)) ?_
  intro W base args ds gs before hval0 hW hcnd _
  have hval : ∀ (j : Nat) t v, Try.f6.params[j]? = some t → args[j]? = some v → Value.okWide Try.prog W .any base t v := hval0
  have hW' := hW
  obtain ⟨p, q, hA0, hV, rfl, hfz, hnd⟩ := hW
  have hA : DataW.TrodAll enc Try.prog W 0 (fun _ => true) true Try.f6.params.toList args.toList ds p := hA0
  rw [Try.params6] at hA hval
  obtain ⟨v0, vs0, d0, ds0, p0, q0, hargs, rfl, rfl, h0, r0⟩ := trodAll_cons hA
  obtain ⟨rfl, rfl, rfl⟩ := trodAll_nil r0
  obtain rfl : args = #[v0] := by cases args; simp_all
  obtain ⟨rfl, rfl⟩ := trodVars_none hV
  have k0 := h0
  have lt0 : ∀ x ∈ p0, x.block < W.heap.size := by obtain ⟨m, hm⟩ := k0; exact DataW.trod_lt m _ _ _ hm
  obtain ⟨cs0, rfl, hc0⟩ := okWide_struct Try.underlying36 (hval 0 36 v0 rfl rfl)
  obtain ⟨a0, e0, w0⟩ : ∃ a, Value.agg cs0 = Oq.V a ∧ Oq.I a := by
    obtain ⟨fuel, hf⟩ := h0
    exact oq_of (cs := cs0) hf (by rw [hc0]; kernel_rfl)
  clear hA0 hval0
  have hw := walk a0 W w0
  rw [← e0] at hw
  refine hw.mono fun e W' ⟨he, bel⟩ => ?_
  subst he
  exact ⟨_, rfl, _, _, _, [], _, [], hW', trodAll_mk1 (shut_bool Try.underlying4 _), (trodAll_cons_mk (Below.trod laidOut (by kernel_rfl) (of_decide_eq_true (by kernel_rfl)) k0 bel lt0) trodAll_mk0), rfl, bel.frame _, fun h => by cases h⟩
theorem over : Rows.rosterNilRow.holds Try.pinned (OpenSpec.ofChange Rows.rosterNilSpec) :=
  OpenClaim.holds_of_wide 6 Try.f6 rfl rfl rfl rfl rfl rfl rfl ⟨rfl, rfl, rfl, rfl, rfl⟩ rfl rfl rfl rfl rfl (by kernel_rfl) Try.func6 (by kernel_rfl)
    (of_decide_eq_true (by kernel_rfl)) (by unfold Func.isWrapper; first | (rw [if_pos (by decide +kernel)]; kernel_rfl) | (rw [if_neg (by decide +kernel)]; exact ⟨rfl, rfl⟩))
    (fun os started H enc _ => lifted os started H enc)
/-- The statement. -/
theorem proved : Rows.RosterNilSaid := over
#print axioms proved
end Go.Proofs.Ytolbjlphpgfcpaa.rosterNil
