/- PyramidSums: (P8.3) a cell's count is that of its children together. Conditions: none. -/
import Derived.Test.YtbddphmhhfncaaaPyB
import Derived.Test.YtbddphmhhfncaaaCellRef3
import Derived.Lib.SmallJoins
namespace Go.Proofs.Ytbddphmhhfncaaa.pyramidSums
set_option linter.unusedVariables false
set_option linter.unusedSimpArgs false
open Go.ChangeShapes Go.WideShapes Go.ChangeAt Go.RowKit
open Go.ChangeMaps (open_string shut_string)
/-- The first k children's counts together. -/
def kidN (S : List Pn) (L x y : Int) : Nat → Nat
  | 0 => 0
  | k + 1 => kidN S L x y k + cntC S (c0 L x y (k : Int)) (c1 L x y (k : Int)) (c2 L x y (k : Int))
theorem kidN_four (S : List Pn) (hS : FitS S) (L x y : Int) (h : okC L x y = true) (hL : L ≠ 16) : kidN S L x y 4 = cntC S L x y := by
  rw [cntC_four S hS L x y h hL]
  simp [kidN]
theorem cntC_le (S : List Pn) (L x y : Int) : cntC S L x y ≤ S.length := by
  unfold cntC
  split
  · exact List.countP_le_length
  · omega
theorem kidN_le (S : List Pn) (L x y : Int) (k : Nat) : kidN S L x y k ≤ k * S.length := by
  induction k with
  | zero => simp [kidN]
  | succ k ih => have := cntC_le S (c0 L x y (k : Int)) (c1 L x y (k : Int)) (c2 L x y (k : Int)); rw [kidN, Nat.succ_mul]; omega
set_option maxRecDepth 100000 in
set_option maxHeartbeats 8000000 in
theorem walk (a : Option Addr) (len cap0 : Nat) (L cx cy : Int) (w : World) (h : IsSl w 2 (PntOk w) a len cap0) (g0 : -9223372036854775808 ≤ L ∧ L ≤ 9223372036854775807) (g1 : -9223372036854775808 ≤ cx ∧ cx ≤ 9223372036854775807) (g2 : -9223372036854775808 ≤ cy ∧ cy ≤ 9223372036854775807) :
    Calls Try.prog 5 #[.slice a len cap0, .agg #[.int .i64 L, .int .i64 cx, .int .i64 cy]] w fun e w' => e = .returned (.bool true) ∧ Below w.heap.size w w' := by
  have hlc := h.le
  obtain ⟨hlc1, hlc2⟩ := hlc
  unfold maxLen at hlc2
  obtain ⟨S, hS⟩ := rd_of h
  clear h g0 g1 g2
  have hA : Below w.heap.size w (w.alloc (.cells #[.int .i64 L, .int .i64 cx, .int .i64 cy] 24)) := (Below.refl _ _).alloc (Nat.le_refl _) _
  have hC := Blk.new w 24 #[.int .i64 L, .int .i64 cx, .int .i64 cy]
  have HR := Lib.hid (hS.below hA)
  have HA := Lib.hid hA; have HC := Lib.hid hC
  clear hS hA hC
  by_cases hbig : 100 < len
  · have hbi : (100 : Int) < (len : Int) := by omega
    go_enter Try.func5, Try.ntmps5
    go_wp2_with fail
    refine (built_big a len cap0 _ hbig).mono ?_
    rintro e w1 ⟨rfl, hb1⟩
    have HB := Lib.hid (below_trans HA.out hb1)
    clear hb1
    go_wp2_with fail
    refine (pyknown_any _).mono ?_
    rintro e w2 ⟨rfl, hb2⟩
    have HB2 := Lib.hid (below_trans HB.out hb2)
    clear hb2
    go_wp2
    go_ret
    exact ⟨rfl, HB2.out⟩
  · have hbi : (len : Int) ≤ 100 := by omega
    have HBT := Lib.hid (built_any a len cap0 S _ HR.out (by omega))
    have hfit := haveK_fit S len
    have hlen := haveK_len S len
    go_enter Try.func5, Try.ntmps5
    go_wp2_with fail
    refine HBT.out.mono ?_
    rintro e w1 ⟨y, cs, A1, c1', rfl, hp⟩
    have hcc := hp.2.2.1
    have HC1 := Lib.hid (HC.out.thru0 hcc)
    have HB1 := Lib.hid (below_trans HA.out hcc)
    have HPY := Lib.hid hp.1
    clear hcc hp HBT HC HR
    generalize haveK S len = H at *
    have HF := Lib.hid hfit
    have x0 := HC1.out.cell 0
    have x1 := HC1.out.cell 1
    have x2 := HC1.out.cell 2
    simp only [List.getElem?_toArray, List.getElem?_cons_zero, List.getElem?_cons_succ] at x0 x1 x2
    have HRT := Lib.hid (rright_any L cx cy)
    clear hfit
    cases hok : okC L cx cy with
    | false =>
      rw [hok] at HRT
      go_wp2_with fail
      refine (HRT.out _).mono ?_
      rintro e w2 ⟨rfl, hb2⟩
      have HB2 := Lib.hid (below_trans HB1.out hb2)
      clear hb2
      go_wp2_with fail
      refine (pyknown_any _).mono ?_
      rintro e w3 ⟨rfl, hb3⟩
      have HB3 := Lib.hid (below_trans HB2.out hb3)
      clear hb3
      go_wp2
      go_ret
      exact ⟨rfl, HB3.out⟩
    | true =>
      rw [hok] at HRT
      have HK1 := Lib.hid hok
      clear hok
      go_wp2_with fail
      refine (HRT.out _).mono ?_
      rintro e w2 ⟨rfl, hb2⟩
      have HB2 := Lib.hid (below_trans HB1.out hb2)
      have HC2 := Lib.hid (HC1.out.thru0 hb2)
      have HPY2 := Lib.hid (HPY.out.below hb2)
      clear hb2 x0 x1 x2 HPY HC1 HB1
      have x0 := HC2.out.cell 0
      have x1 := HC2.out.cell 1
      have x2 := HC2.out.cell 2
      simp only [List.getElem?_toArray, List.getElem?_cons_zero, List.getElem?_cons_succ] at x0 x1 x2
      by_cases h16 : L = 16
      · subst h16
        go_wp2_with fail
        refine (pyknown_any _).mono ?_
        rintro e w3 ⟨rfl, hb3⟩
        have HB3 := Lib.hid (below_trans HB2.out hb3)
        clear hb3
        go_wp2
        go_ret
        exact ⟨rfl, HB3.out⟩
      · have hb16 : (L == 16) = false := by simpa using h16
        have HSUM := Lib.hid (kidN_four H HF.out L cx cy HK1.out h16)
        clear h16
        go_wp2_with fail
        go_loopw [7, 8] (fun n i wr => ∃ (k : Nat), k ≤ 4 ∧ i = .int .i64 k ∧ n = .int .i64 (kidN H L cx cy k : Int) ∧ Hid (Below w2.heap.size w2 wr)) (fun _ i _ => 4 - (intOf i).toNat)
        case atStart => exact ⟨0, by omega, rfl, rfl, Lib.hid (Below.refl _ _)⟩
        case round =>
          obtain ⟨k, hk, rfl, rfl, hrel⟩ := hrel
          clear x0 x1 x2
          have HCW := Lib.hid (HC2.out.thru0 hrel.out)
          have x0 := HCW.out.cell 0
          have x1 := HCW.out.cell 1
          have x2 := HCW.out.cell 2
          simp only [List.getElem?_toArray, List.getElem?_cons_zero, List.getElem?_cons_succ] at x0 x1 x2
          by_cases hlt : k < 4
          · have hki : (k : Int) < 4 := by omega
            have HCH := Lib.hid (rchild_u L cx cy (k : Int))
            have HX := Lib.hid (show kidN H L cx cy (k + 1) = kidN H L cx cy k + cntC H (c0 L cx cy (k : Int)) (c1 L cx cy (k : Int)) (c2 L cx cy (k : Int)) from rfl)
            have hl1 := kidN_le H L cx cy k
            have hl2 := cntC_le H (c0 L cx cy (k : Int)) (c1 L cx cy (k : Int)) (c2 L cx cy (k : Int))
            have hl3 : k * H.length ≤ 4 * H.length := Nat.mul_le_mul_right _ (by omega)
            have HCT := Lib.hid (fun W hW => count_any y cs H (17 * len) (c0 L cx cy (k : Int)) (c1 L cx cy (k : Int)) (c2 L cx cy (k : Int)) W (HPY2.out.below hW))
            generalize c0 L cx cy (k : Int) = d0 at *
            generalize c1 L cx cy (k : Int) = d1 at *
            generalize c2 L cx cy (k : Int) = d2 at *
            generalize okK L cx cy (k : Int) = ob at *
            generalize hnn : cntC H d0 d1 d2 = n1 at *
            generalize hmm : kidN H L cx cy k = m1 at *
            generalize hqq : kidN H L cx cy (k + 1) = q1 at *
            have hwr : IntKind.i64.wrap ((m1 : Int) + (n1 : Int)) = (m1 : Int) + (n1 : Int) := by rw [IntKind.wrap_i64]; omega
            clear hl1 hl2 hl3
            go_wp2_with fail
            refine (HCH.out _).mono ?_
            rintro e w3 ⟨rfl, hb3⟩
            have HB3 := Lib.hid (below_trans hrel.out hb3)
            have ha3 : Below w3.heap.size w3 (w3.alloc (.cells #[.int .i64 d0, .int .i64 d1, .int .i64 d2] 24)) := (Below.refl _ _).alloc (Nat.le_refl _) _
            have HB4 := Lib.hid (below_trans HB3.out ha3)
            have y0 := (Blk.new w3 24 #[.int .i64 d0, .int .i64 d1, .int .i64 d2]).cell 0
            have y1 := (Blk.new w3 24 #[.int .i64 d0, .int .i64 d1, .int .i64 d2]).cell 1
            have y2 := (Blk.new w3 24 #[.int .i64 d0, .int .i64 d1, .int .i64 d2]).cell 2
            simp only [List.getElem?_toArray, List.getElem?_cons_zero, List.getElem?_cons_succ] at y0 y1 y2
            clear hb3 ha3 x0 x1 x2
            go_wp2_with fail
            refine (HCT.out _ HB4.out).mono ?_
            rintro e w4 ⟨rfl, hb4⟩
            have HB5 := Lib.hid (below_trans HB4.out hb4)
            clear hb4 y0 y1 y2
            go_wp2_with fail
            go_roundw
            case rel => exact ⟨k + 1, by omega, by go_num, by rw [hqq, HX.out]; simp, HB5⟩
            case measure => simp [intOf]; omega
          · obtain rfl : k = 4 := by omega
            have HCT := Lib.hid (fun W hW => count_any y cs H (17 * len) L cx cy W (HPY2.out.below hW))
            rw [← HSUM.out] at HCT
            generalize kidN H L cx cy 4 = m1 at *
            go_wp2_with fail
            refine (HCT.out _ hrel.out).mono ?_
            rintro e w3 ⟨rfl, hb3⟩
            have HB3 := Lib.hid (below_trans hrel.out hb3)
            clear hb3 x0 x1 x2
            go_wp2_with fail
            refine (pyknown_any _).mono ?_
            rintro e w4 ⟨rfl, hb4⟩
            have HB4 := Lib.hid (below_trans HB2.out (below_trans HB3.out hb4))
            clear hb4
            go_wp2
            go_ret
            exact ⟨rfl, HB4.out⟩

theorem own : ownKnob Try.prog.godebug = none := by kernel_rfl
theorem laidOut : laidOutB Try.prog = true := by kernel_rfl
set_option maxRecDepth 100000 in
theorem lifted (os : Os) (started : os.Started) (H : Type) (enc : TypeId × Value → H) :
    ReturnsInHanded {} Try.checked os 5 .any (Rows.pyramidSumsSpec.pre6 enc Try.prog Try.f5 Rows.pyramidSumsRow.domain false) (Rows.pyramidSumsSpec.post enc Try.prog Try.f5 false true false false) := by
  refine returnsInHanded_of_change_sized (C := Try.checked) own started (by kernel_rfl) Try.func5
    (ChangeSpec.witness6 (enc := enc) (C := Try.checked) false ⟨#[], #[.slice none 0 0, .agg #[.int .i64 0, .int .i64 0, .int .i64 0]], []⟩ 8 (by kernel_rfl) (by kernel_rfl) (by kernel_rfl) (by kernel_rfl)) ?_
  intro W base args ds gs before hval0 hW hcnd hsz0 _
  have hval : ∀ (j : Nat) t v, Try.f5.params[j]? = some t → args[j]? = some v → Value.okWide Try.prog W .any base t v := hval0
  have hW' := hW
  obtain ⟨p, q, hA0, hV, rfl, hfz, hnd⟩ := hW
  have hA : DataW.TrodAll enc Try.prog W 0 (fun _ => true) true Try.f5.params.toList args.toList ds p := hA0
  rw [Try.params5] at hA hval
  obtain ⟨v0, vs0, d0, ds0, p0, q0, hargs, rfl, rfl, h0, r0⟩ := trodAll_cons hA
  obtain ⟨v1, vs1, d1, ds1, p1, q1, rfl, rfl, rfl, h1, r1⟩ := trodAll_cons r0
  obtain ⟨rfl, rfl, rfl⟩ := trodAll_nil r1
  obtain rfl : args = #[v0, v1] := by cases args; simp_all
  obtain ⟨rfl, rfl⟩ := trodVars_none hV
  have k0 := h0
  have lt0 : ∀ x ∈ p0, x.block < W.heap.size := by obtain ⟨m, hm⟩ := k0; exact DataW.trod_lt m _ _ _ hm
  obtain ⟨a0, len0, cap0, rfl⟩ := okWide_slice Try.underlying27 (hval 0 27 v0 rfl rfl)
  have w0 : IsSl W 2 (PntOk W) a0 len0 cap0 := by
    obtain ⟨fuel, hf⟩ := h0
    exact isSl_of Try.underlying27 (by kernel_rfl) pntOk_of hf (fun n hn => of_decide_eq_true (List.all_eq_true.1 hsz0 n (DataW.weights_mem_each (j := 0) (t := 27) (d := d0) rfl rfl n hn)))
  have k1 := h1
  have lt1 : ∀ x ∈ p1, x.block < W.heap.size := by obtain ⟨m, hm⟩ := k1; exact DataW.trod_lt m _ _ _ hm
  obtain ⟨c1_0, c1_1, c1_2, y1_0, y1_1, y1_2, m1, rfl, rfl, rfl, hy1_0, hy1_1, hy1_2⟩ := Joins.open_agg3 Try.underlying24 (by kernel_rfl) (by kernel_rfl) (hval 1 24 v1 rfl rfl) h1
  obtain ⟨a1_0, e1_0, rfl, w1_0⟩ := DataW.trod_int Try.underlying3 hy1_0
  simp only [List.cons.injEq, and_true] at e1_0
  subst e1_0
  obtain ⟨a1_1, e1_1, rfl, w1_1⟩ := DataW.trod_int Try.underlying3 hy1_1
  simp only [List.cons.injEq, and_true] at e1_1
  subst e1_1
  obtain ⟨a1_2, e1_2, rfl, w1_2⟩ := DataW.trod_int Try.underlying3 hy1_2
  simp only [List.cons.injEq, and_true] at e1_2
  subst e1_2
  clear hA0 hval0
  refine (walk a0 len0 cap0 a1_0 a1_1 a1_2 W w0 (bounds_i64 w1_0) (bounds_i64 w1_1) (bounds_i64 w1_2)).mono fun e W' ⟨he, bel⟩ => ?_
  subst he
  exact ⟨_, rfl, _, _, _, [], _, [], hW', trodAll_mk1 (shut_bool Try.underlying4 _), (trodAll_cons_mk (Below.trod laidOut (by kernel_rfl) (of_decide_eq_true (by kernel_rfl)) k0 bel lt0) (trodAll_cons_mk (Below.trod laidOut (by kernel_rfl) (of_decide_eq_true (by kernel_rfl)) k1 bel lt1) trodAll_mk0)), rfl, bel.frame _, fun h => by cases h⟩
theorem over : Rows.pyramidSumsRow.holds Try.pinned (OpenSpec.ofChange Rows.pyramidSumsSpec) :=
  OpenClaim.holds_of_wide 5 Try.f5 rfl rfl rfl rfl rfl rfl rfl ⟨rfl, rfl, rfl, rfl, rfl⟩ rfl rfl rfl rfl rfl (by kernel_rfl) Try.func5 (by kernel_rfl)
    (of_decide_eq_true (by kernel_rfl)) (by unfold Func.isWrapper; first | (rw [if_pos (by decide +kernel)]; kernel_rfl) | (rw [if_neg (by decide +kernel)]; exact ⟨rfl, rfl⟩))
    (fun os started H enc _ => lifted os started H enc)
/-- The statement. -/
theorem proved : Rows.PyramidSumsSaid := over
#print axioms proved
end Go.Proofs.Ytbddphmhhfncaaa.pyramidSums
