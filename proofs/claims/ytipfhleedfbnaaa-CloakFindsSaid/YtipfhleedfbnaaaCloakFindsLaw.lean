/- CloakFinds: (P9.2) any point has, for any profile, the cloak that the document says, or none. Conditions: none. -/
import Derived.Test.YtipfhleedfbnaaaCk13
import Derived.Lib.SmallJoins
namespace Go.Proofs.Ytipfhleedfbnaaa.cloakFinds
set_option linter.unusedVariables false
set_option linter.unusedSimpArgs false
open Go.ChangeShapes Go.WideShapes Go.ChangeAt Go.RowKit
open Go.ChangeMaps (open_string shut_string)
theorem eq_ckV (a b c d e f g h i : Int) (w : World) : (Op.equalIn 10000 37 (.agg #[.int .i64 a, .int .i64 b, .int .i64 c, .int .i64 d, .int .i64 e, .int .i64 f, .int .i64 g, .int .i64 h, .int .i64 i]) (.agg #[.int .i64 a, .int .i64 b, .int .i64 c, .int .i64 d, .int .i64 e, .int .i64 f, .int .i64 g, .int .i64 h, .int .i64 i])).run Try.prog w = .ok true w := by
  have u3 := Try.underlying3
  have a3 := Try.isAgg3
  have z3 := Try.sizeOf3
  have r1 := eq_rectV a b c d a b c d w
  have r2 := eq_cellV e f g e f g w
  have hS : Try.prog.underlying 37 = some (.struct (Try.prog.fieldsOf 37)) := by kernel_rfl
  have hp : Try.prog.stoodInHeld 37 = false := by kernel_rfl
  rw [show (10000 : Nat) = 9999 + 1 from rfl, run_equalIn_agg w 9999 37 _ _ hS hp]
  simp only [Program.fieldsOf, Try.underlying37]
  go_simp
theorem eq_rckV (a b c d e f g h i : Int) (w : World) : (Op.equalIn 10000 43 (.agg #[.int .i64 a, .int .i64 b, .int .i64 c, .int .i64 d, .int .i64 e, .int .i64 f, .int .i64 g, .int .i64 h, .int .i64 i]) (.agg #[.int .i64 a, .int .i64 b, .int .i64 c, .int .i64 d, .int .i64 e, .int .i64 f, .int .i64 g, .int .i64 h, .int .i64 i])).run Try.prog w = .ok true w := by
  have u3 := Try.underlying3
  have a3 := Try.isAgg3
  have z3 := Try.sizeOf3
  have r1 := eq_rectV a b c d a b c d w
  have r2 := eq_cellV e f g e f g w
  have hS : Try.prog.underlying 43 = some (.struct (Try.prog.fieldsOf 43)) := by kernel_rfl
  have hp : Try.prog.stoodInHeld 43 = false := by kernel_rfl
  rw [show (10000 : Nat) = 9999 + 1 from rfl, run_equalIn_agg w 9999 43 _ _ hS hp]
  simp only [Program.fieldsOf, Try.underlying43]
  go_simp
def Two_ (w0 : World) (px py K A : Int) (W : World) : Prop := Blk W w0.heap.size 24 #[.int .i64 px, .int .i64 py] ∧ Blk W (w0.heap.size + 1) 27 #[.int .i64 K, .int .u64 A]
theorem Two_.below {w0 W X : World} {px py K A : Int} (h : Two_ w0 px py K A W) (hb : Below W.heap.size W X) : Two_ w0 px py K A X := ⟨h.1.thru0 hb, h.2.thru0 hb⟩
attribute [local go_sem] eq_ckV eq_rckV
set_option maxRecDepth 100000 in
set_option maxHeartbeats 8000000 in
theorem walk (a : Option Addr) (len cap0 : Nat) (px py K A : Int) (w : World) (h : IsSl w 2 (PntOk w) a len cap0) (c0 : -9223372036854775808 ≤ px ∧ px ≤ 9223372036854775807) (c1 : -9223372036854775808 ≤ py ∧ py ≤ 9223372036854775807) (c2 : -9223372036854775808 ≤ K ∧ K ≤ 9223372036854775807) (c3 : 0 ≤ A ∧ A ≤ 18446744073709551615) :
    Calls Try.prog 3 #[.slice a len cap0, .agg #[.int .i64 px, .int .i64 py], .agg #[.int .i64 K, .int .u64 A]] w fun e w' => e = .returned (.bool true) ∧ Below w.heap.size w w' := by
  have hlc := h.le
  obtain ⟨hlc1, hlc2⟩ := hlc
  unfold maxLen at hlc2
  obtain ⟨S, hS⟩ := rd_of h
  clear h c0 c1 c2 c3
  have hA : Below w.heap.size w ((w.alloc (.cells #[.int .i64 px, .int .i64 py] 24)).alloc (.cells #[.int .i64 K, .int .u64 A] 27)) := ((Below.refl _ _).alloc (Nat.le_refl _) _).alloc (by simp) _
  have HK : Hid (Two_ w px py K A ((w.alloc (.cells #[.int .i64 px, .int .i64 py] 24)).alloc (.cells #[.int .i64 K, .int .u64 A] 27))) := Lib.hid (blk_two w 24 27 #[.int .i64 px, .int .i64 py] #[.int .i64 K, .int .u64 A])
  have HR := Lib.hid (hS.below hA)
  have HA := Lib.hid hA
  clear hS hA
  by_cases hbig : 60 < len
  · have hbi : (60 : Int) < (len : Int) := by omega
    go_enter Try.func3, Try.ntmps3
    go_wp2_with fail
    refine (built_big a len cap0 _ hbig).mono ?_
    rintro e w1 ⟨rfl, hb1⟩
    have HB := Lib.hid (below_trans HA.out hb1)
    clear hb1
    go_wp2_with fail
    refine (ckknown_any _).mono ?_
    rintro e w5 ⟨rfl, hb5⟩
    have HB5 := Lib.hid (below_trans HB.out hb5)
    clear hb5
    go_wp2
    go_ret
    exact ⟨rfl, HB5.out⟩
  · have hbi : (len : Int) ≤ 60 := by omega
    have HBT := Lib.hid (built_any a len cap0 S _ HR.out (by omega))
    have hlen := haveK_len S len
    have hfit := haveK_fit S len
    go_enter Try.func3, Try.ntmps3
    go_wp2_with fail
    refine HBT.out.mono ?_
    rintro e w1 ⟨y, cs, A1, c1', rfl, hp⟩
    have HB1 := Lib.hid (below_trans HA.out hp.2.2.1)
    have HPY := Lib.hid hp.1
    have HRD := Lib.hid hp.2.1.rd
    replace HK := Lib.hid (HK.out.below hp.2.2.1)
    clear hp HBT HR HA
    have HL : Hid ((haveK S len).length ≤ 500000) := Lib.hid (by omega)
    have HF := Lib.hid hfit
    clear hlen hfit
    generalize haveK S len = H at *
    have p0 : _ = some (Value.int .i64 px) := HK.out.1.cell 0
    have p1 : _ = some (Value.int .i64 py) := HK.out.1.cell 1
    have f0 : _ = some (Value.int .i64 K) := HK.out.2.cell 0
    have f1 : _ = some (Value.int .u64 A) := HK.out.2.cell 1
    have HFA := Lib.hid (find_any y cs H (17 * len) px py K A w1 HPY.out HL.out)
    unfold FindP at HFA
    have HFN : Hid (¬ (fitsB px py = true ∧ rightP K = true) → findK H K A px py = none ∧ findE H K A px py = 1) := Lib.hid (fun hh => ⟨by rw [findK, if_neg hh], by rw [findE, if_neg hh]⟩)
    have HFY : Hid (fitsB px py = true ∧ rightP K = true → findK H K A px py = seekK H K A 16 px py ∧ findE H K A px py = if (seekK H K A 16 px py).isSome then 0 else 21) := Lib.hid (fun hh => ⟨by rw [findK, if_pos hh], by rw [findE, if_pos hh]⟩)
    have HFT := Lib.hid (ref_fits px py)
    have HRR := Lib.hid (rright_pr K A)
    have HRF := Lib.hid (fun W hW hf => rfind_any A1 H.length c1' H K A px py W (HRD.out.below hW) HF.out (by have := HL.out; omega) hf)
    generalize hff : fitsB px py = ff at *
    generalize hrr : rightP K = rr at *
    generalize findK H K A px py = T at *
    generalize findE H K A px py = E at *
    unfold AtP at HRF
    clear hff hrr
    go_wp2_with fail
    refine HFA.out.mono ?_
    rintro e w2 ⟨rfl, hb2⟩
    generalize hk : T.getD ck0 = k at *
    have hA2 : Below w2.heap.size w2 (w2.alloc (.cells #[.int .i64 k.a, .int .i64 k.b, .int .i64 k.c, .int .i64 k.d, .int .i64 k.L, .int .i64 k.x, .int .i64 k.y, .int .i64 k.kd, .int .i64 k.n] 37)) := (Below.refl _ _).alloc (Nat.le_refl _) _
    have HB2 := Lib.hid (below_trans (below_trans HB1.out hb2) hA2)
    have HBS := Lib.hid (below_trans hb2 hA2)
    replace HK := Lib.hid ((HK.out.below hb2).below hA2)
    have HQ := Lib.hid (Blk.new w2 37 #[.int .i64 k.a, .int .i64 k.b, .int .i64 k.c, .int .i64 k.d, .int .i64 k.L, .int .i64 k.x, .int .i64 k.y, .int .i64 k.kd, .int .i64 k.n])
    clear hb2 hA2 HFA HPY HB1 p0 p1 f0 f1
    unfold Ck.val
    go_upto_region 5 with fail
    generalize hp9 : w2.heap.size = p9 at *
    generalize (w2.alloc (.cells #[.int .i64 k.a, .int .i64 k.b, .int .i64 k.c, .int .i64 k.d, .int .i64 k.L, .int .i64 k.x, .int .i64 k.y, .int .i64 k.kd, .int .i64 k.n] 37)) = W at *
    have p0 : _ = some (Value.int .i64 px) := HK.out.1.cell 0
    have p1 : _ = some (Value.int .i64 py) := HK.out.1.cell 1
    cases ff with
    | false =>
      obtain ⟨hT, hE⟩ := HFN.out (by simp)
      subst hT; subst hE
      obtain rfl : ck0 = k := hk
      clear HFN HFY HRF
      unfold ck0 at HQ
      go_wp2_with fail
      refine (HFT.out _).mono ?_
      rintro e w3 ⟨rfl, hb3⟩
      have HB3 := Lib.hid (below_trans HB2.out hb3)
      have HQ3 := Lib.hid (HQ.out.thru0 hb3)
      clear hb3
      have q0 : _ = some (Value.int .i64 0) := HQ3.out.cell 0
      have q1 : _ = some (Value.int .i64 0) := HQ3.out.cell 1
      have q2 : _ = some (Value.int .i64 0) := HQ3.out.cell 2
      have q3 : _ = some (Value.int .i64 0) := HQ3.out.cell 3
      have q4 : _ = some (Value.int .i64 0) := HQ3.out.cell 4
      have q5 : _ = some (Value.int .i64 0) := HQ3.out.cell 5
      have q6 : _ = some (Value.int .i64 0) := HQ3.out.cell 6
      have q7 : _ = some (Value.int .i64 0) := HQ3.out.cell 7
      have q8 : _ = some (Value.int .i64 0) := HQ3.out.cell 8
      go_wp2_with fail
      refine (ckknown_any _).mono ?_
      rintro e w9 ⟨rfl, hb9⟩
      have HB9 := Lib.hid (below_trans HB3.out hb9)
      clear hb9
      go_wp2
      go_ret
      exact ⟨rfl, HB9.out⟩
    | true =>
      go_wp2_with fail
      refine (HFT.out _).mono ?_
      rintro e w3 ⟨rfl, hb3⟩
      have HB3 := Lib.hid (below_trans HB2.out hb3)
      have HQ3 := Lib.hid (HQ.out.thru0 hb3)
      replace HK := Lib.hid (HK.out.below hb3)
      replace HBS := Lib.hid (below_trans HBS.out hb3)
      clear hb3 p0 p1 HQ HB2
      have f0 : _ = some (Value.int .i64 K) := HK.out.2.cell 0
      have f1 : _ = some (Value.int .u64 A) := HK.out.2.cell 1
      go_wp2_with fail
      refine (HRR.out _).mono ?_
      rintro e w4 ⟨rfl, hb4⟩
      have HB4 := Lib.hid (below_trans HB3.out hb4)
      have HQ4 := Lib.hid (HQ3.out.thru0 hb4)
      replace HK := Lib.hid (HK.out.below hb4)
      replace HBS := Lib.hid (below_trans HBS.out hb4)
      clear hb4 f0 f1 HQ3 HB3
      cases rr with
      | false =>
        obtain ⟨hT, hE⟩ := HFN.out (by simp)
        subst hT; subst hE
        obtain rfl : ck0 = k := hk
        clear HFN HFY HRF
        unfold ck0 at HQ4
        have q0 : _ = some (Value.int .i64 0) := HQ4.out.cell 0
        have q1 : _ = some (Value.int .i64 0) := HQ4.out.cell 1
        have q2 : _ = some (Value.int .i64 0) := HQ4.out.cell 2
        have q3 : _ = some (Value.int .i64 0) := HQ4.out.cell 3
        have q4 : _ = some (Value.int .i64 0) := HQ4.out.cell 4
        have q5 : _ = some (Value.int .i64 0) := HQ4.out.cell 5
        have q6 : _ = some (Value.int .i64 0) := HQ4.out.cell 6
        have q7 : _ = some (Value.int .i64 0) := HQ4.out.cell 7
        have q8 : _ = some (Value.int .i64 0) := HQ4.out.cell 8
        go_wp2_with fail
        refine (ckknown_any _).mono ?_
        rintro e w9 ⟨rfl, hb9⟩
        have HB9 := Lib.hid (below_trans HB4.out hb9)
        clear hb9
        go_wp2
        go_ret
        exact ⟨rfl, HB9.out⟩
      | true =>
        obtain ⟨hT, hE⟩ := HFY.out (by simp)
        have HR2 := Lib.hid (HRF.out w4 HBS.out (by simp))
        rw [← hT] at HR2
        rw [← hT] at hE
        rw [hk] at HR2
        clear HFN HFY HRF hT
        have p0 : _ = some (Value.int .i64 px) := HK.out.1.cell 0
        have p1 : _ = some (Value.int .i64 py) := HK.out.1.cell 1
        have f0 : _ = some (Value.int .i64 K) := HK.out.2.cell 0
        have f1 : _ = some (Value.int .u64 A) := HK.out.2.cell 1
        generalize hi : T.isSome = ii at *
        unfold Ck.val at HR2
        have HEE := Lib.hid hE
        have HII := Lib.hid hi
        have HKK := Lib.hid hk
        clear hE hi hk
        go_wp2_with fail
        refine HR2.out.mono ?_
        rintro e w5 ⟨rfl, hb5⟩
        have hA5 : Below w5.heap.size w5 (w5.alloc (.cells #[.int .i64 k.a, .int .i64 k.b, .int .i64 k.c, .int .i64 k.d, .int .i64 k.L, .int .i64 k.x, .int .i64 k.y, .int .i64 k.kd, .int .i64 k.n] 43)) := (Below.refl _ _).alloc (Nat.le_refl _) _
        have HB5 := Lib.hid (below_trans (below_trans HB4.out hb5) hA5)
        have HQ5 := Lib.hid ((HQ4.out.thru0 hb5).thru0 hA5)
        have HX5 := Lib.hid (Blk.new w5 43 #[.int .i64 k.a, .int .i64 k.b, .int .i64 k.c, .int .i64 k.d, .int .i64 k.L, .int .i64 k.x, .int .i64 k.y, .int .i64 k.kd, .int .i64 k.n])
        clear hb5 hA5 p0 p1 f0 f1 HQ4 HB4 HR2
        go_upto_region 8 with fail
        generalize hp11 : w5.heap.size = p11 at *
        generalize (w5.alloc (.cells #[.int .i64 k.a, .int .i64 k.b, .int .i64 k.c, .int .i64 k.d, .int .i64 k.L, .int .i64 k.x, .int .i64 k.y, .int .i64 k.kd, .int .i64 k.n] 43)) = W5 at *
        cases ii with
        | false =>
          have hT : T = none := by
            have hi := HII.out
            cases T with
            | none => rfl
            | some _ => cases hi
          subst hT
          obtain rfl : ck0 = k := HKK.out
          have hE2 : E = 21 := HEE.out
          subst hE2
          unfold ck0 at HQ5
          have q0 : _ = some (Value.int .i64 0) := HQ5.out.cell 0
          have q1 : _ = some (Value.int .i64 0) := HQ5.out.cell 1
          have q2 : _ = some (Value.int .i64 0) := HQ5.out.cell 2
          have q3 : _ = some (Value.int .i64 0) := HQ5.out.cell 3
          have q4 : _ = some (Value.int .i64 0) := HQ5.out.cell 4
          have q5 : _ = some (Value.int .i64 0) := HQ5.out.cell 5
          have q6 : _ = some (Value.int .i64 0) := HQ5.out.cell 6
          have q7 : _ = some (Value.int .i64 0) := HQ5.out.cell 7
          have q8 : _ = some (Value.int .i64 0) := HQ5.out.cell 8
          go_wp2_with fail
          refine (ckknown_any _).mono ?_
          rintro e w9 ⟨rfl, hb9⟩
          have HB9 := Lib.hid (below_trans HB5.out hb9)
          clear hb9
          go_wp2
          go_ret
          exact ⟨rfl, HB9.out⟩
        | true =>
          have hE2 : E = 0 := HEE.out
          subst hE2
          have q0 : _ = some (Value.int .i64 k.a) := HQ5.out.cell 0
          have q1 : _ = some (Value.int .i64 k.b) := HQ5.out.cell 1
          have q2 : _ = some (Value.int .i64 k.c) := HQ5.out.cell 2
          have q3 : _ = some (Value.int .i64 k.d) := HQ5.out.cell 3
          have q4 : _ = some (Value.int .i64 k.L) := HQ5.out.cell 4
          have q5 : _ = some (Value.int .i64 k.x) := HQ5.out.cell 5
          have q6 : _ = some (Value.int .i64 k.y) := HQ5.out.cell 6
          have q7 : _ = some (Value.int .i64 k.kd) := HQ5.out.cell 7
          have q8 : _ = some (Value.int .i64 k.n) := HQ5.out.cell 8
          have x0 : _ = some (Value.int .i64 k.a) := HX5.out.cell 0
          have x1 : _ = some (Value.int .i64 k.b) := HX5.out.cell 1
          have x2 : _ = some (Value.int .i64 k.c) := HX5.out.cell 2
          have x3 : _ = some (Value.int .i64 k.d) := HX5.out.cell 3
          have x4 : _ = some (Value.int .i64 k.L) := HX5.out.cell 4
          have x5 : _ = some (Value.int .i64 k.x) := HX5.out.cell 5
          have x6 : _ = some (Value.int .i64 k.y) := HX5.out.cell 6
          have x7 : _ = some (Value.int .i64 k.kd) := HX5.out.cell 7
          have x8 : _ = some (Value.int .i64 k.n) := HX5.out.cell 8
          go_wp2_with fail
          refine (ckknown_any _).mono ?_
          rintro e w9 ⟨rfl, hb9⟩
          have HB9 := Lib.hid (below_trans HB5.out hb9)
          clear hb9
          go_wp2
          go_ret
          exact ⟨rfl, HB9.out⟩

theorem own : ownKnob Try.prog.godebug = none := by kernel_rfl
theorem laidOut : laidOutB Try.prog = true := by kernel_rfl
set_option maxRecDepth 100000 in
theorem lifted (os : Os) (started : os.Started) (H : Type) (enc : TypeId × Value → H) :
    ReturnsInHanded {} Try.checked os 3 .any (Rows.cloakFindsSpec.pre6 enc Try.prog Try.f3 Rows.cloakFindsRow.domain false) (Rows.cloakFindsSpec.post enc Try.prog Try.f3 false true false false) := by
  refine returnsInHanded_of_change_sized (C := Try.checked) own started (by kernel_rfl) Try.func3
    (ChangeSpec.witness6 (enc := enc) (C := Try.checked) false ⟨#[], #[.slice none 0 0, .agg #[.int .i64 0, .int .i64 0], .agg #[.int .i64 0, .int .u64 0]], []⟩ 8 (by kernel_rfl) (by kernel_rfl) (by kernel_rfl) (by kernel_rfl)) ?_
  intro W base args ds gs before hval0 hW hcnd hsz0 _
  have hval : ∀ (j : Nat) t v, Try.f3.params[j]? = some t → args[j]? = some v → Value.okWide Try.prog W .any base t v := hval0
  have hW' := hW
  obtain ⟨p, q, hA0, hV, rfl, hfz, hnd⟩ := hW
  have hA : DataW.TrodAll enc Try.prog W 0 (fun _ => true) true Try.f3.params.toList args.toList ds p := hA0
  rw [Try.params3] at hA hval
  obtain ⟨v0, vs0, d0, ds0, p0, q0, hargs, rfl, rfl, h0, r0⟩ := trodAll_cons hA
  obtain ⟨v1, vs1, d1, ds1, p1, q1, rfl, rfl, rfl, h1, r1⟩ := trodAll_cons r0
  obtain ⟨v2, vs2, d2, ds2, p2, q2, rfl, rfl, rfl, h2, r2⟩ := trodAll_cons r1
  obtain ⟨rfl, rfl, rfl⟩ := trodAll_nil r2
  obtain rfl : args = #[v0, v1, v2] := by cases args; simp_all
  obtain ⟨rfl, rfl⟩ := trodVars_none hV
  have k0 := h0
  have lt0 : ∀ x ∈ p0, x.block < W.heap.size := by obtain ⟨m, hm⟩ := k0; exact DataW.trod_lt m _ _ _ hm
  obtain ⟨a0, len0, cap0, rfl⟩ := okWide_slice Try.underlying22 (hval 0 22 v0 rfl rfl)
  have w0 : IsSl W 2 (PntOk W) a0 len0 cap0 := by
    obtain ⟨fuel, hf⟩ := h0
    exact isSl_of Try.underlying22 (by kernel_rfl) pntOk_of hf (fun n hn => of_decide_eq_true (List.all_eq_true.1 hsz0 n (DataW.weights_mem_each (j := 0) (t := 22) (d := d0) rfl rfl n hn)))
  have k1 := h1
  have lt1 : ∀ x ∈ p1, x.block < W.heap.size := by obtain ⟨m, hm⟩ := k1; exact DataW.trod_lt m _ _ _ hm
  obtain ⟨c1_0, c1_1, y1_0, y1_1, m1, rfl, rfl, rfl, hy1_0, hy1_1⟩ := Joins.open_agg2 Try.underlying24 (by kernel_rfl) (by kernel_rfl) (hval 1 24 v1 rfl rfl) h1
  obtain ⟨a1_0, e1_0, rfl, w1_0⟩ := DataW.trod_int Try.underlying3 hy1_0
  simp only [List.cons.injEq, and_true] at e1_0
  subst e1_0
  obtain ⟨a1_1, e1_1, rfl, w1_1⟩ := DataW.trod_int Try.underlying3 hy1_1
  simp only [List.cons.injEq, and_true] at e1_1
  subst e1_1
  have k2 := h2
  have lt2 : ∀ x ∈ p2, x.block < W.heap.size := by obtain ⟨m, hm⟩ := k2; exact DataW.trod_lt m _ _ _ hm
  obtain ⟨c2_0, c2_1, y2_0, y2_1, m2, rfl, rfl, rfl, hy2_0, hy2_1⟩ := Joins.open_agg2 Try.underlying27 (by kernel_rfl) (by kernel_rfl) (hval 2 27 v2 rfl rfl) h2
  obtain ⟨a2_0, e2_0, rfl, w2_0⟩ := DataW.trod_int Try.underlying3 hy2_0
  simp only [List.cons.injEq, and_true] at e2_0
  subst e2_0
  obtain ⟨a2_1, e2_1, rfl, w2_1⟩ := DataW.trod_int Try.underlying25 hy2_1
  simp only [List.cons.injEq, and_true] at e2_1
  subst e2_1
  clear hA0 hval0
  refine (walk a0 len0 cap0 a1_0 a1_1 a2_0 a2_1 W w0 (bounds_i64 w1_0) (bounds_i64 w1_1) (bounds_i64 w2_0) (bounds_u64 w2_1)).mono fun e W' ⟨he, bel⟩ => ?_
  subst he
  exact ⟨_, rfl, _, _, _, [], _, [], hW', trodAll_mk1 (shut_bool Try.underlying4 _), (trodAll_cons_mk (Below.trod laidOut (by kernel_rfl) (of_decide_eq_true (by kernel_rfl)) k0 bel lt0) (trodAll_cons_mk (Below.trod laidOut (by kernel_rfl) (of_decide_eq_true (by kernel_rfl)) k1 bel lt1) (trodAll_cons_mk (Below.trod laidOut (by kernel_rfl) (of_decide_eq_true (by kernel_rfl)) k2 bel lt2) trodAll_mk0))), rfl, bel.frame _, fun h => by cases h⟩
theorem over : Rows.cloakFindsRow.holds Try.pinned (OpenSpec.ofChange Rows.cloakFindsSpec) :=
  OpenClaim.holds_of_wide 3 Try.f3 rfl rfl rfl rfl rfl rfl rfl ⟨rfl, rfl, rfl, rfl, rfl⟩ rfl rfl rfl rfl rfl (by kernel_rfl) Try.func3 (by kernel_rfl)
    (of_decide_eq_true (by kernel_rfl)) (by unfold Func.isWrapper; first | (rw [if_pos (by decide +kernel)]; kernel_rfl) | (rw [if_neg (by decide +kernel)]; exact ⟨rfl, rfl⟩))
    (fun os started H enc _ => lifted os started H enc)
/-- The statement. -/
theorem proved : Rows.CloakFindsSaid := over
#print axioms proved
end Go.Proofs.Ytipfhleedfbnaaa.cloakFinds
