/- PyramidLevels: (P8.5) no level has more cells with points than the one below it, or than there are points. Conditions: none. -/
import Derived.Test.YtbddphmhhfncaaaPyB
import Derived.Lib.SmallJoins
namespace Go.Proofs.Ytbddphmhhfncaaa.pyramidLevels
set_option linter.unusedVariables false
set_option linter.unusedSimpArgs false
open Go.ChangeShapes Go.WideShapes Go.ChangeAt Go.RowKit
open Go.ChangeMaps (open_string shut_string)
set_option maxRecDepth 100000 in
set_option maxHeartbeats 8000000 in
theorem walk (a : Option Addr) (len cap0 : Nat) (L : Int) (w : World) (h : IsSl w 2 (PntOk w) a len cap0) (g0 : -9223372036854775808 ≤ L ∧ L ≤ 9223372036854775807) :
    Calls Try.prog 7 #[.slice a len cap0, .int .i64 L] w fun e w' => e = .returned (.bool true) ∧ Below w.heap.size w w' := by
  have hlc := h.le
  obtain ⟨hlc1, hlc2⟩ := hlc
  unfold maxLen at hlc2
  obtain ⟨S, hS⟩ := rd_of h
  clear h g0
  have HR := Lib.hid hS
  clear hS
  by_cases hbig : 100 < len
  · have hbi : (100 : Int) < (len : Int) := by omega
    go_enter Try.func7, Try.ntmps7
    go_wp2_with fail
    refine (built_big a len cap0 _ hbig).mono ?_
    rintro e w1 ⟨rfl, hb1⟩
    have HB := Lib.hid hb1
    clear hb1
    go_wp2_with fail
    refine (pyknown_any _).mono ?_
    rintro e w2 ⟨rfl, hb2⟩
    have HB2 := Lib.hid (below_trans HB.out hb2)
    clear hb2
    go_wp2
    go_ret
    exact ⟨rfl, HB2.out⟩
  · have hbi : (len : Int) ≤ 100 := by omega
    have HBT := Lib.hid (built_any a len cap0 S _ HR.out (by omega))
    have hfit := haveK_fit S len
    have hlen := haveK_len S len
    go_enter Try.func7, Try.ntmps7
    go_wp2_with fail
    refine HBT.out.mono ?_
    rintro e w1 ⟨y, cs, A1, c1', rfl, hp⟩
    have HB1 := Lib.hid hp.2.2.1
    have HPY := Lib.hid hp.1
    clear hp HBT HR
    generalize haveK S len = H at *
    have HF := Lib.hid hfit
    clear hfit
    by_cases hlv : 0 ≤ L ∧ L ≤ 15
    · have q0 : ¬ L < 0 := by omega
      have q1 : ¬ 15 < L := by omega
      have dq0 : decide (L < 0) = false := decide_eq_false q0
      have dq1 : decide (15 < L) = false := decide_eq_false q1
      have hwr : IntKind.i64.wrap (L + 1) = L + 1 := by rw [IntKind.wrap_i64]; omega
      obtain ⟨l, rfl⟩ := Int.eq_ofNat_of_zero_le hlv.1
      have e0 : levN H (l : Int) = nd (H.map (codeAt l)) := by rw [levN, if_pos ((levB_iff _).2 (by omega))]; rfl
      have e1 : levN H ((l : Int) + 1) = nd (H.map (codeAt (l + 1))) := by
        rw [levN, if_pos ((levB_iff _).2 (by omega))]
        rw [show ((l : Int) + 1).toNat = l + 1 by omega]
      have hle : levN H (l : Int) ≤ levN H ((l : Int) + 1) := by rw [e0, e1]; exact nd_up H l (by omega) HF.out
      have hle2 := levN_le H ((l : Int) + 1)
      have hz : levN H (l : Int) = 0 ↔ H.length = 0 := by rw [e0, nd_zero]; exact List.length_eq_zero_iff.symm
      have HL0 := Lib.hid (fun W hW => level_any y cs H (17 * len) (l : Int) W (HPY.out.below hW))
      have HL1 := Lib.hid (fun W hW => level_any y cs H (17 * len) ((l : Int) + 1) W (HPY.out.below hW))
      clear e0 e1 hlv
      generalize levN H (l : Int) = n0 at *
      generalize levN H ((l : Int) + 1) = n1 at *
      have t1 : (n0 : Int) ≤ (n1 : Int) := by omega
      have t2 : (n1 : Int) ≤ (H.length : Int) := by omega
      have t3 : (((H.length : Int) == 0) == ((n0 : Int) == 0)) = true := by
        by_cases hn : H.length = 0
        · have := hz.2 hn; simp [hn, this]
        · have h0 : n0 ≠ 0 := fun e => hn (hz.1 e)
          have h1 : ((H.length : Int) == 0) = false := by simpa using hn
          have h2 : ((n0 : Int) == 0) = false := by simpa using h0
          rw [h1, h2]; rfl
      generalize hg0 : ((H.length : Int) == 0) = b0' at *
      generalize hg1 : ((n0 : Int) == 0) = b1' at *
      clear hz hle hle2
      go_wp2_with fail
      refine (HL0.out _ (Below.refl _ _)).mono ?_
      rintro e w2 ⟨rfl, hb2⟩
      have HB2 := Lib.hid hb2; clear hb2
      go_wp2_with fail
      refine (HL1.out _ HB2.out).mono ?_
      rintro e w3 ⟨rfl, hb3⟩
      have HB3 := Lib.hid (below_trans HB2.out hb3); clear hb3
      go_wp2_with fail
      refine (HL1.out _ HB3.out).mono ?_
      rintro e w4 ⟨rfl, hb4⟩
      have HB4 := Lib.hid (below_trans HB3.out hb4); clear hb4
      go_wp2_with fail
      refine (HL0.out _ HB4.out).mono ?_
      rintro e w5 ⟨rfl, hb5⟩
      have HB5 := Lib.hid (below_trans HB4.out hb5); clear hb5
      go_wp2_with fail
      refine (pyknown_any _).mono ?_
      rintro e w6 ⟨rfl, hb6⟩
      have HB6 := Lib.hid (below_trans HB1.out (below_trans HB5.out hb6)); clear hb6
      go_wp2
      go_ret
      exact ⟨rfl, HB6.out⟩
    · have hlo : L < 0 ∨ 15 < L := by omega
      clear hlv
      rcases hlo with hq | hq
      all_goals
        have hq0 : (¬ L < 0) ∨ L < 0 := by omega
        rcases hq0 with hq0 | hq0
        all_goals first
          | (exfalso; omega)
          | (go_wp2_with fail
             refine (pyknown_any _).mono ?_
             rintro e w6 ⟨rfl, hb6⟩
             have HB6 := Lib.hid (below_trans HB1.out hb6); clear hb6
             go_wp2
             go_ret
             exact ⟨rfl, HB6.out⟩)

theorem own : ownKnob Try.prog.godebug = none := by kernel_rfl
theorem laidOut : laidOutB Try.prog = true := by kernel_rfl
set_option maxRecDepth 100000 in
theorem lifted (os : Os) (started : os.Started) (H : Type) (enc : TypeId × Value → H) :
    ReturnsInHanded {} Try.checked os 7 .any (Rows.pyramidLevelsSpec.pre6 enc Try.prog Try.f7 Rows.pyramidLevelsRow.domain false) (Rows.pyramidLevelsSpec.post enc Try.prog Try.f7 false true false false) := by
  refine returnsInHanded_of_change_sized (C := Try.checked) own started (by kernel_rfl) Try.func7
    (ChangeSpec.witness6 (enc := enc) (C := Try.checked) false ⟨#[], #[.slice none 0 0, .int .i64 0], []⟩ 8 (by kernel_rfl) (by kernel_rfl) (by kernel_rfl) (by kernel_rfl)) ?_
  intro W base args ds gs before hval0 hW hcnd hsz0 _
  have hval : ∀ (j : Nat) t v, Try.f7.params[j]? = some t → args[j]? = some v → Value.okWide Try.prog W .any base t v := hval0
  have hW' := hW
  obtain ⟨p, q, hA0, hV, rfl, hfz, hnd⟩ := hW
  have hA : DataW.TrodAll enc Try.prog W 0 (fun _ => true) true Try.f7.params.toList args.toList ds p := hA0
  rw [Try.params7] at hA hval
  obtain ⟨v0, vs0, d0, ds0, p0, q0, hargs, rfl, rfl, h0, r0⟩ := trodAll_cons hA
  obtain ⟨v1, vs1, d1, ds1, p1, q1, rfl, rfl, rfl, h1, r1⟩ := trodAll_cons r0
  obtain ⟨rfl, rfl, rfl⟩ := trodAll_nil r1
  obtain rfl : args = #[v0, v1] := by cases args; simp_all
  obtain ⟨rfl, rfl⟩ := trodVars_none hV
  have k0 := h0
  have lt0 : ∀ x ∈ p0, x.block < W.heap.size := by obtain ⟨m, hm⟩ := k0; exact DataW.trod_lt m _ _ _ hm
  obtain ⟨a0, len0, cap0, rfl⟩ := okWide_slice Try.underlying27 (hval 0 27 v0 rfl rfl)
  have w0 : IsSl W 2 (PntOk W) a0 len0 cap0 := by
    obtain ⟨fuel, hf⟩ := h0
    exact isSl_of Try.underlying27 (by kernel_rfl) pntOk_of hf (fun n hn => of_decide_eq_true (List.all_eq_true.1 hsz0 n (DataW.weights_mem_each (j := 0) (t := 27) (d := d0) rfl rfl n hn)))
  have k1 := h1
  have lt1 : ∀ x ∈ p1, x.block < W.heap.size := by obtain ⟨m, hm⟩ := k1; exact DataW.trod_lt m _ _ _ hm
  obtain ⟨a1, rfl, rfl, rfl, w1⟩ := open_int Try.underlying3 (hval 1 3 v1 rfl rfl) h1
  clear hA0 hval0
  refine (walk a0 len0 cap0 a1 W w0 (bounds_i64 w1)).mono fun e W' ⟨he, bel⟩ => ?_
  subst he
  exact ⟨_, rfl, _, _, _, [], _, [], hW', trodAll_mk1 (shut_bool Try.underlying4 _), (trodAll_cons_mk (Below.trod laidOut (by kernel_rfl) (of_decide_eq_true (by kernel_rfl)) k0 bel lt0) (trodAll_cons_mk (Below.trod laidOut (by kernel_rfl) (of_decide_eq_true (by kernel_rfl)) k1 bel lt1) trodAll_mk0)), rfl, bel.frame _, fun h => by cases h⟩
theorem over : Rows.pyramidLevelsRow.holds Try.pinned (OpenSpec.ofChange Rows.pyramidLevelsSpec) :=
  OpenClaim.holds_of_wide 7 Try.f7 rfl rfl rfl rfl rfl rfl rfl ⟨rfl, rfl, rfl, rfl, rfl⟩ rfl rfl rfl rfl rfl (by kernel_rfl) Try.func7 (by kernel_rfl)
    (of_decide_eq_true (by kernel_rfl)) (by unfold Func.isWrapper; first | (rw [if_pos (by decide +kernel)]; kernel_rfl) | (rw [if_neg (by decide +kernel)]; exact ⟨rfl, rfl⟩))
    (fun os started H enc _ => lifted os started H enc)
/-- The statement. -/
theorem proved : Rows.PyramidLevelsSaid := over
#print axioms proved
end Go.Proofs.Ytbddphmhhfncaaa.pyramidLevels
