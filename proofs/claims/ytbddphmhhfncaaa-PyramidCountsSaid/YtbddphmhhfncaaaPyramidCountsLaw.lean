/- PyramidCounts: (P8.2) any cell has as many points as are in its box; any level so many cells that have some. Conditions: none. -/
import Derived.Test.YtbddphmhhfncaaaPyD
import Derived.Lib.SmallJoins
namespace Go.Proofs.Ytbddphmhhfncaaa.pyramidCounts
set_option linter.unusedVariables false
set_option linter.unusedSimpArgs false
open Go.ChangeShapes Go.WideShapes Go.ChangeAt Go.RowKit
open Go.ChangeMaps (open_string shut_string)
theorem below_drew1 {B : Nat} {a w : World} (h : Below B a w) : Below B a w.drew := ⟨h.os, h.tape, h.output, h.size, h.block⟩
set_option maxRecDepth 100000 in
set_option maxHeartbeats 8000000 in
theorem walk (a : Option Addr) (len cap0 : Nat) (L cx cy lv : Int) (w : World) (h : IsSl w 2 (PntOk w) a len cap0) (g0 : -9223372036854775808 ≤ L ∧ L ≤ 9223372036854775807) (g1 : -9223372036854775808 ≤ cx ∧ cx ≤ 9223372036854775807) (g2 : -9223372036854775808 ≤ cy ∧ cy ≤ 9223372036854775807) (g3 : -9223372036854775808 ≤ lv ∧ lv ≤ 9223372036854775807) :
    Calls Try.prog 4 #[.slice a len cap0, .agg #[.int .i64 L, .int .i64 cx, .int .i64 cy], .int .i64 lv] w fun e w' => e = .returned (.bool true) ∧ Below w.heap.size w w' := by
  have hlc := h.le
  obtain ⟨hlc1, hlc2⟩ := hlc
  unfold maxLen at hlc2
  obtain ⟨S, hS⟩ := rd_of h
  clear h g0 g1 g2 g3
  have hA : Below w.heap.size w (w.alloc (.cells #[.int .i64 L, .int .i64 cx, .int .i64 cy] 24)) := (Below.refl _ _).alloc (Nat.le_refl _) _
  have hC := Blk.new w 24 #[.int .i64 L, .int .i64 cx, .int .i64 cy]
  have HR := Lib.hid (hS.below hA)
  have HA := Lib.hid hA; have HC := Lib.hid hC
  clear hS hA hC
  by_cases hbig : 100 < len
  · have hbi : (100 : Int) < (len : Int) := by omega
    go_enter Try.func4, Try.ntmps4
    go_wp2_with fail
    refine (built_big a len cap0 _ hbig).mono ?_
    rintro e w1 ⟨rfl, hb1⟩
    have HB := Lib.hid (below_trans HA.out hb1)
    clear hb1
    go_wp2_with fail
    refine (pyknown_any _).mono ?_
    rintro e w2 ⟨rfl, hb2⟩
    have HB2 := Lib.hid (below_trans HB.out hb2)
    clear hb2
    go_wp2
    go_ret
    exact ⟨rfl, HB2.out⟩
  · have hbi : (len : Int) ≤ 100 := by omega
    have HBT := Lib.hid (built_any a len cap0 S _ HR.out (by omega))
    have hfit := haveK_fit S len
    have hlen := haveK_len S len
    go_enter Try.func4, Try.ntmps4
    go_wp2_with fail
    refine HBT.out.mono ?_
    rintro e w1 ⟨y, cs, A1, c1', rfl, hp⟩
    have hcc := hp.2.2.1
    have HC1 := Lib.hid (HC.out.thru0 hcc)
    have HB1 := Lib.hid (below_trans HA.out hcc)
    have HPY := Lib.hid hp.1
    have HRD := Lib.hid hp.2.1.rd
    clear hcc hp HBT HC HR HA
    generalize haveK S len = H at *
    have HF := Lib.hid hfit
    clear hfit
    go_wp2_with fail
    go_loopw [9, 10] (fun n i wr => ∃ (k : Nat), k ≤ 17 ∧ i = .int .i64 k ∧ n = .int .i64 (cellsN H k : Int) ∧ Hid (Below w1.heap.size w1 wr)) (fun _ i _ => 17 - (intOf i).toNat)
    case atStart => exact ⟨0, by omega, rfl, rfl, Lib.hid (Below.refl _ _)⟩
    case round =>
      obtain ⟨k, hk, rfl, rfl, hrel⟩ := hrel
      by_cases hlt : k < 17
      · have hki : (k : Int) ≤ 16 := by omega
        have HLV := Lib.hid (fun W hW => rlevel_u A1 H.length c1' H (k : Int) W (HRD.out.below hW) (by omega) HF.out)
        have HX := Lib.hid (show cellsN H (k + 1) = cellsN H k + levN H (k : Int) from rfl)
        have hl1 := cellsN_le H k
        have hl2 := levN_le H (k : Int)
        have hl3 : k * H.length ≤ 17 * H.length := Nat.mul_le_mul_right _ (by omega)
        generalize levN H (k : Int) = n1 at *
        generalize hmm : cellsN H k = m1 at *
        generalize hqq : cellsN H (k + 1) = q1 at *
        have hwr : IntKind.i64.wrap ((m1 : Int) + (n1 : Int)) = (m1 : Int) + (n1 : Int) := by rw [IntKind.wrap_i64]; omega
        clear hl1 hl2 hl3
        go_wp2_with fail
        refine (HLV.out _ hrel.out).mono ?_
        rintro e w3 ⟨rfl, hb3⟩
        have HB3 := Lib.hid (below_trans hrel.out hb3)
        clear hb3
        go_wp2_with fail
        go_roundw
        case rel => exact ⟨k + 1, by omega, by go_num, by rw [hqq, HX.out]; simp, HB3⟩
        case measure => simp [intOf]; omega
      · obtain rfl : k = 17 := by omega
        have HCT := Lib.hid (fun W hW => count_any y cs H (17 * len) L cx cy W (HPY.out.below hW))
        have HRC := Lib.hid (fun W hW => rcount_any A1 H.length c1' H L cx cy W (HRD.out.below hW) (by omega))
        have HLE := Lib.hid (fun W hW => level_any y cs H (17 * len) lv W (HPY.out.below hW))
        have HRL := Lib.hid (fun W hW => rlevel_u A1 H.length c1' H lv W (HRD.out.below hW) (by omega) HF.out)
        have HCE := Lib.hid (fun W hW => cells_any y cs H (17 * len) W (HPY.out.below hW) (by omega))
        rw [rcntN_cell H HF.out L cx cy] at HRC
        generalize cntC H L cx cy = n1 at *
        generalize levN H lv = n2 at *
        generalize cellsN H 17 = n3 at *
        have HK0 := Lib.hid (HC1.out.thru0 hrel.out)
        have x0 := HK0.out.cell 0
        have x1 := HK0.out.cell 1
        have x2 := HK0.out.cell 2
        simp only [List.getElem?_toArray, List.getElem?_cons_zero, List.getElem?_cons_succ] at x0 x1 x2
        have z0 := hrel.out
        have z1 := HB1.out
        generalize hbc : w.heap.size = bc at *
        clear HC1 HK0 hrel HB1
        go_wp2_with fail
        go_region_held3 (fun w' => w'.cell? ⟨bc, 0, none⟩ = some (.int .i64 L) ∧ w'.cell? ⟨bc, 1, none⟩ = some (.int .i64 cx) ∧ w'.cell? ⟨bc, 2, none⟩ = some (.int .i64 cy) ∧ Below w1.heap.size w1 w') (first | (refine ⟨?_, ?_, ?_, ?_⟩ <;> first | (exact cell_later (by assumption) (by assumption)) | (exact below_trans (by assumption) (by assumption)) | (exact below_drew1 (by assumption))) | (go_split_ands; refine ⟨?_, ?_, ?_, ?_⟩ <;> first | (exact cell_later (by assumption) (by assumption)) | (exact below_trans (by assumption) (by assumption)) | (exact below_drew1 (by assumption)) | go_keep))
          (first
            | (go_at_call 17; refine (HCT.out _ (by first | assumption | (go_split_ands; assumption))).mono ?_; rintro e w9 ⟨rfl, hb9⟩)
            | (go_at_call 18; refine (HRC.out _ (by first | assumption | (go_split_ands; assumption))).mono ?_; rintro e w9 ⟨rfl, hb9⟩)
            | (go_at_call 24; refine (HLE.out _ (by first | assumption | (go_split_ands; assumption))).mono ?_; rintro e w9 ⟨rfl, hb9⟩)
            | (go_at_call 23; refine (HRL.out _ (by first | assumption | (go_split_ands; assumption))).mono ?_; rintro e w9 ⟨rfl, hb9⟩)
            | (go_at_call 25; refine (HCE.out _ (by first | assumption | (go_split_ands; assumption))).mono ?_; rintro e w9 ⟨rfl, hb9⟩)
            | (go_at_call 21; refine (pyknown_any _).mono ?_; rintro e w9 ⟨rfl, hb9⟩))
        all_goals
          go_split_ands
          go_wp2
          go_ret
          refine ⟨rfl, ?_⟩
          subst hbc
          exact below_trans z1 (by assumption)

theorem own : ownKnob Try.prog.godebug = none := by kernel_rfl
theorem laidOut : laidOutB Try.prog = true := by kernel_rfl
set_option maxRecDepth 100000 in
theorem lifted (os : Os) (started : os.Started) (H : Type) (enc : TypeId × Value → H) :
    ReturnsInHanded {} Try.checked os 4 .any (Rows.pyramidCountsSpec.pre6 enc Try.prog Try.f4 Rows.pyramidCountsRow.domain false) (Rows.pyramidCountsSpec.post enc Try.prog Try.f4 false true false false) := by
  refine returnsInHanded_of_change_sized (C := Try.checked) own started (by kernel_rfl) Try.func4
    (ChangeSpec.witness6 (enc := enc) (C := Try.checked) false ⟨#[], #[.slice none 0 0, .agg #[.int .i64 0, .int .i64 0, .int .i64 0], .int .i64 0], []⟩ 8 (by kernel_rfl) (by kernel_rfl) (by kernel_rfl) (by kernel_rfl)) ?_
  intro W base args ds gs before hval0 hW hcnd hsz0 _
  have hval : ∀ (j : Nat) t v, Try.f4.params[j]? = some t → args[j]? = some v → Value.okWide Try.prog W .any base t v := hval0
  have hW' := hW
  obtain ⟨p, q, hA0, hV, rfl, hfz, hnd⟩ := hW
  have hA : DataW.TrodAll enc Try.prog W 0 (fun _ => true) true Try.f4.params.toList args.toList ds p := hA0
  rw [Try.params4] at hA hval
  obtain ⟨v0, vs0, d0, ds0, p0, q0, hargs, rfl, rfl, h0, r0⟩ := trodAll_cons hA
  obtain ⟨v1, vs1, d1, ds1, p1, q1, rfl, rfl, rfl, h1, r1⟩ := trodAll_cons r0
  obtain ⟨v2, vs2, d2, ds2, p2, q2, rfl, rfl, rfl, h2, r2⟩ := trodAll_cons r1
  obtain ⟨rfl, rfl, rfl⟩ := trodAll_nil r2
  obtain rfl : args = #[v0, v1, v2] := by cases args; simp_all
  obtain ⟨rfl, rfl⟩ := trodVars_none hV
  have k0 := h0
  have lt0 : ∀ x ∈ p0, x.block < W.heap.size := by obtain ⟨m, hm⟩ := k0; exact DataW.trod_lt m _ _ _ hm
  obtain ⟨a0, len0, cap0, rfl⟩ := okWide_slice Try.underlying27 (hval 0 27 v0 rfl rfl)
  have w0 : IsSl W 2 (PntOk W) a0 len0 cap0 := by
    obtain ⟨fuel, hf⟩ := h0
    exact isSl_of Try.underlying27 (by kernel_rfl) pntOk_of hf (fun n hn => of_decide_eq_true (List.all_eq_true.1 hsz0 n (DataW.weights_mem_each (j := 0) (t := 27) (d := d0) rfl rfl n hn)))
  have k1 := h1
  have lt1 : ∀ x ∈ p1, x.block < W.heap.size := by obtain ⟨m, hm⟩ := k1; exact DataW.trod_lt m _ _ _ hm
  obtain ⟨c1_0, c1_1, c1_2, y1_0, y1_1, y1_2, m1, rfl, rfl, rfl, hy1_0, hy1_1, hy1_2⟩ := Joins.open_agg3 Try.underlying24 (by kernel_rfl) (by kernel_rfl) (hval 1 24 v1 rfl rfl) h1
  obtain ⟨a1_0, e1_0, rfl, w1_0⟩ := DataW.trod_int Try.underlying3 hy1_0
  simp only [List.cons.injEq, and_true] at e1_0
  subst e1_0
  obtain ⟨a1_1, e1_1, rfl, w1_1⟩ := DataW.trod_int Try.underlying3 hy1_1
  simp only [List.cons.injEq, and_true] at e1_1
  subst e1_1
  obtain ⟨a1_2, e1_2, rfl, w1_2⟩ := DataW.trod_int Try.underlying3 hy1_2
  simp only [List.cons.injEq, and_true] at e1_2
  subst e1_2
  have k2 := h2
  have lt2 : ∀ x ∈ p2, x.block < W.heap.size := by obtain ⟨m, hm⟩ := k2; exact DataW.trod_lt m _ _ _ hm
  obtain ⟨a2, rfl, rfl, rfl, w2⟩ := open_int Try.underlying3 (hval 2 3 v2 rfl rfl) h2
  clear hA0 hval0
  refine (walk a0 len0 cap0 a1_0 a1_1 a1_2 a2 W w0 (bounds_i64 w1_0) (bounds_i64 w1_1) (bounds_i64 w1_2) (bounds_i64 w2)).mono fun e W' ⟨he, bel⟩ => ?_
  subst he
  exact ⟨_, rfl, _, _, _, [], _, [], hW', trodAll_mk1 (shut_bool Try.underlying4 _), (trodAll_cons_mk (Below.trod laidOut (by kernel_rfl) (of_decide_eq_true (by kernel_rfl)) k0 bel lt0) (trodAll_cons_mk (Below.trod laidOut (by kernel_rfl) (of_decide_eq_true (by kernel_rfl)) k1 bel lt1) (trodAll_cons_mk (Below.trod laidOut (by kernel_rfl) (of_decide_eq_true (by kernel_rfl)) k2 bel lt2) trodAll_mk0))), rfl, bel.frame _, fun h => by cases h⟩
theorem over : Rows.pyramidCountsRow.holds Try.pinned (OpenSpec.ofChange Rows.pyramidCountsSpec) :=
  OpenClaim.holds_of_wide 4 Try.f4 rfl rfl rfl rfl rfl rfl rfl ⟨rfl, rfl, rfl, rfl, rfl⟩ rfl rfl rfl rfl rfl (by kernel_rfl) Try.func4 (by kernel_rfl)
    (of_decide_eq_true (by kernel_rfl)) (by unfold Func.isWrapper; first | (rw [if_pos (by decide +kernel)]; kernel_rfl) | (rw [if_neg (by decide +kernel)]; exact ⟨rfl, rfl⟩))
    (fun os started H enc _ => lifted os started H enc)
/-- The statement. -/
theorem proved : Rows.PyramidCountsSaid := over
#print axioms proved
end Go.Proofs.Ytbddphmhhfncaaa.pyramidCounts
