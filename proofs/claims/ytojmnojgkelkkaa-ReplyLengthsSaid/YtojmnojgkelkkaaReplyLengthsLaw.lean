/- ReplyLengths: (P20.1) of any operation and bound it is told how long an answer is; what is no request has three bytes. Conditions: none. -/
import Derived.Test.YtojmnojgkelkkaaRe6
import Derived.Test.YtojmnojgkelkkaaFrame
namespace Go.Proofs.Ytojmnojgkelkkaa.replyLengths
set_option linter.unusedVariables false
set_option linter.unusedSimpArgs false
open Go.ChangeShapes Go.WideShapes Go.ChangeAt Go.RowKit
open Go.ChangeMaps (open_string shut_string)
theorem mod8 {s : Nat} (h : s ≤ 12) : (s : Int) = ((UInt8.ofNat s).toNat : Int) := by
  have hs : s = 0 ∨ s = 1 ∨ s = 2 ∨ s = 3 ∨ s = 4 ∨ s = 5 ∨ s = 6 ∨ s = 7 ∨ s = 8 ∨ s = 9 ∨ s = 10 ∨ s = 11 ∨ s = 12 := by omega
  rcases hs with rfl | rfl | rfl | rfl | rfl | rfl | rfl | rfl | rfl | rfl | rfl | rfl | rfl <;> rfl
set_option maxRecDepth 100000 in
set_option maxHeartbeats 8000000 in
theorem walk (op m st : Int) (w : World) (hop : -9223372036854775808 ≤ op ∧ op ≤ 9223372036854775807) (hm : -9223372036854775808 ≤ m ∧ m ≤ 9223372036854775807) (hs : -9223372036854775808 ≤ st ∧ st ≤ 9223372036854775807) :
    Calls Try.prog 3 #[.int .i64 op, .int .i64 m, .int .i64 st] w fun e w' => e = .returned (.bool true) ∧ Below w.heap.size w w' := by
  have HL := Lib.hid (length_any op m w)
  have HR := Lib.hid (fun w => rlength_any op m w)
  have HF := Lib.hid (fun w => fault_any st w)
  have hs12 := stN_le st
  have HWR := Lib.hid (mod8 hs12)
  generalize lenN op m = ln at *
  have HST : Hid (if 0 ≤ st ∧ st ≤ 12 then st = (stN st : Int) else stN st = 1) := Lib.hid (by unfold stN; split <;> omega)
  clear hop hm hs
  by_cases h : 0 ≤ st ∧ st ≤ 12
  · have HE : Hid (st = (stN st : Int)) := Lib.hid (by have := HST.out; rwa [if_pos h] at this)
    obtain ⟨s, hse⟩ : ∃ s, s = stN st := ⟨_, rfl⟩
    rw [← hse] at HE HF HWR hs12
    obtain rfl : st = (s : Int) := HE.out
    have HX8 : Hid (#[Value.int .u8 (s : Int), .int .u8 0, .int .u8 0] = (bv [UInt8.ofNat s, 0, 0]).toArray) := Lib.hid (by rw [HWR.out]; rfl)
    clear HST HE hse h
    have h1 : ¬ ((s : Int) < 0) := by omega
    have h2 : ¬ ((12 : Int) < (s : Int)) := by omega
    go_enter Try.func3, Try.ntmps3
    go_wp2_with fail
    refine HL.out.mono ?_
    rintro e w1 ⟨rfl, hw1⟩
    subst hw1
    go_wp2_with fail
    refine (HR.out _).mono ?_
    rintro e w2 ⟨rfl, hb2⟩
    have HB2 := Lib.hid hb2
    clear hb2
    go_wp2_with fail
    refine (HF.out _).mono ?_
    rintro e w3 ⟨v3, rfl, hf3⟩
    obtain ⟨A3, c3, hv3, _, _⟩ := hf3.own.slice
    have hx3 : v3 = .slice A3 3 c3 := hv3
    clear hv3
    subst hx3
    have HF3 := Lib.hid hf3
    have HB3 := Lib.hid (below_trans HB2.out hf3.bel)
    obtain ⟨Y, hY⟩ : ∃ Y, Y = w3.alloc (.cells #[.int .u8 (s : Int), .int .u8 0, .int .u8 0] 5) := ⟨_, rfl⟩
    have HBY := Lib.hid (show Below w3.heap.size w3 Y by rw [hY]; exact (Below.refl _ _).alloc (Nat.le_refl _) _)
    have HYY := Lib.hid (show Blk Y w3.heap.size 5 (bv [UInt8.ofNat s, 0, 0]).toArray by rw [hY, HX8.out]; exact Blk.new _ _ _)
    have HS2 := Lib.hid (same_any A3 _ 3 3 c3 3 [UInt8.ofNat s, 0, 0] [UInt8.ofNat s, 0, 0] Y (by have := EOwn.reads (M := [UInt8.ofNat s, 0, 0]) elB_ok (HF3.out.below HBY.out).own; rw [rbv_encs] at this; exact this) (RB_of_row (off := 0) HYY.out (by rfl)) (by decide) (by decide))
    rw [decide_eq_true rfl] at HS2
    have hYs := hY.symm
    clear hY hf3
    go_wp2_with fail
    refine HS2.out.mono ?_
    rintro e w4 ⟨rfl, q, hw4⟩
    have HB4 := Lib.hid (show Below w3.heap.size w3 w4 by rw [hw4]; exact below_drawn HBY.out q)
    clear hw4 hYs HS2 HBY HYY
    go_wp2_with fail
    refine (rknown_any _).mono ?_
    rintro e w5 ⟨rfl, hb5⟩
    have HB5 := Lib.hid (below_trans (below_trans HB3.out HB4.out) hb5)
    clear hb5
    go_wp2_with fail
    go_ret
    exact ⟨rfl, HB5.out⟩
  · have HE : Hid (stN st = 1) := Lib.hid (by have := HST.out; rwa [if_neg h] at this)
    rw [HE.out] at HF
    rw [show ([UInt8.ofNat 1, 0, 0] : Bs) = [1, 0, 0] from rfl] at HF
    clear HST HWR hs12
    have hcase : st < 0 ∨ 12 < st := by omega
    clear h
    rcases hcase with h1 | h1
    all_goals
      go_enter Try.func3, Try.ntmps3
      go_wp2_with fail
      refine HL.out.mono ?_
      rintro e w1 ⟨rfl, hw1⟩
      subst hw1
      go_wp2_with fail
      refine (HR.out _).mono ?_
      rintro e w2 ⟨rfl, hb2⟩
      have HB2 := Lib.hid hb2
      clear hb2
      go_wp2_with fail
      refine (HF.out _).mono ?_
      rintro e w3 ⟨v3, rfl, hf3⟩
      obtain ⟨A3, c3, hv3, _, _⟩ := hf3.own.slice
      have hx3 : v3 = .slice A3 3 c3 := hv3
      clear hv3
      subst hx3
      have HF3 := Lib.hid hf3
      have HB3 := Lib.hid (below_trans HB2.out hf3.bel)
      obtain ⟨Y, hY⟩ : ∃ Y, Y = w3.alloc (.cells #[.int .u8 1, .int .u8 0, .int .u8 0] 5) := ⟨_, rfl⟩
      have HBY := Lib.hid (show Below w3.heap.size w3 Y by rw [hY]; exact (Below.refl _ _).alloc (Nat.le_refl _) _)
      have HYY := Lib.hid (show Blk Y w3.heap.size 5 (bv [1, 0, 0]).toArray by rw [hY]; exact Blk.new _ _ _)
      have HS2 := Lib.hid (same_any A3 _ 3 3 c3 3 [1, 0, 0] [1, 0, 0] Y (by have := EOwn.reads (M := [1, 0, 0]) elB_ok (HF3.out.below HBY.out).own; rw [rbv_encs] at this; exact this) (RB_of_row (off := 0) HYY.out (by rfl)) (by decide) (by decide))
      rw [decide_eq_true rfl] at HS2
      have hYs := hY.symm
      clear hY hf3
      go_wp2_with fail
      refine HS2.out.mono ?_
      rintro e w4 ⟨rfl, q, hw4⟩
      have HB4 := Lib.hid (show Below w3.heap.size w3 w4 by rw [hw4]; exact below_drawn HBY.out q)
      clear hw4 hYs HS2 HBY HYY
      go_wp2_with fail
      refine (rknown_any _).mono ?_
      rintro e w5 ⟨rfl, hb5⟩
      have HB5 := Lib.hid (below_trans (below_trans HB3.out HB4.out) hb5)
      clear hb5
      go_wp2_with fail
      go_ret
      exact ⟨rfl, HB5.out⟩
theorem own : ownKnob Try.prog.godebug = none := by kernel_rfl
theorem laidOut : laidOutB Try.prog = true := by kernel_rfl
set_option maxRecDepth 100000 in
theorem lifted (os : Os) (started : os.Started) (H : Type) (enc : TypeId × Value → H) :
    ReturnsInHanded {} Try.checked os 3 .any (Rows.replyLengthsSpec.pre6 enc Try.prog Try.f3 Rows.replyLengthsRow.domain false) (Rows.replyLengthsSpec.post enc Try.prog Try.f3 false true false false) := by
  refine returnsInHanded_of_change (C := Try.checked) own started (by kernel_rfl) Try.func3
    (ChangeSpec.witness6 (enc := enc) (C := Try.checked) false ⟨#[], #[.int .i64 0, .int .i64 0, .int .i64 0], []⟩ 8 (by kernel_rfl) (by kernel_rfl) (by kernel_rfl) (by kernel_rfl)) ?_
  intro W base args ds gs before hval0 hW hcnd _
  have hval : ∀ (j : Nat) t v, Try.f3.params[j]? = some t → args[j]? = some v → Value.okWide Try.prog W .any base t v := hval0
  have hW' := hW
  obtain ⟨p, q, hA0, hV, rfl, hfz, hnd⟩ := hW
  have hA : DataW.TrodAll enc Try.prog W 0 (fun _ => true) true Try.f3.params.toList args.toList ds p := hA0
  rw [Try.params3] at hA hval
  obtain ⟨v0, vs0, d0, ds0, p0, q0, hargs, rfl, rfl, h0, r0⟩ := trodAll_cons hA
  obtain ⟨v1, vs1, d1, ds1, p1, q1, rfl, rfl, rfl, h1, r1⟩ := trodAll_cons r0
  obtain ⟨v2, vs2, d2, ds2, p2, q2, rfl, rfl, rfl, h2, r2⟩ := trodAll_cons r1
  obtain ⟨rfl, rfl, rfl⟩ := trodAll_nil r2
  obtain rfl : args = #[v0, v1, v2] := by cases args; simp_all
  obtain ⟨rfl, rfl⟩ := trodVars_none hV
  have k0 := h0
  have lt0 : ∀ x ∈ p0, x.block < W.heap.size := by obtain ⟨m, hm⟩ := k0; exact DataW.trod_lt m _ _ _ hm
  obtain ⟨a0, rfl, rfl, rfl, w0⟩ := open_int Try.underlying3 (hval 0 3 v0 rfl rfl) h0
  have k1 := h1
  have lt1 : ∀ x ∈ p1, x.block < W.heap.size := by obtain ⟨m, hm⟩ := k1; exact DataW.trod_lt m _ _ _ hm
  obtain ⟨a1, rfl, rfl, rfl, w1⟩ := open_int Try.underlying3 (hval 1 3 v1 rfl rfl) h1
  have k2 := h2
  have lt2 : ∀ x ∈ p2, x.block < W.heap.size := by obtain ⟨m, hm⟩ := k2; exact DataW.trod_lt m _ _ _ hm
  obtain ⟨a2, rfl, rfl, rfl, w2⟩ := open_int Try.underlying3 (hval 2 3 v2 rfl rfl) h2
  clear hA0 hval0
  refine (walk a0 a1 a2 W (bounds_i64 w0) (bounds_i64 w1) (bounds_i64 w2)).mono fun e W' ⟨he, bel⟩ => ?_
  subst he
  exact ⟨_, rfl, _, _, _, [], _, [], hW', trodAll_mk1 (shut_bool Try.underlying4 _), (trodAll_cons_mk (Below.trod laidOut (by kernel_rfl) (of_decide_eq_true (by kernel_rfl)) k0 bel lt0) (trodAll_cons_mk (Below.trod laidOut (by kernel_rfl) (of_decide_eq_true (by kernel_rfl)) k1 bel lt1) (trodAll_cons_mk (Below.trod laidOut (by kernel_rfl) (of_decide_eq_true (by kernel_rfl)) k2 bel lt2) trodAll_mk0))), rfl, bel.frame _, fun h => by cases h⟩
theorem over : Rows.replyLengthsRow.holds Try.pinned (OpenSpec.ofChange Rows.replyLengthsSpec) :=
  OpenClaim.holds_of_wide 3 Try.f3 rfl rfl rfl rfl rfl rfl rfl ⟨rfl, rfl, rfl, rfl, rfl⟩ rfl rfl rfl rfl rfl (by kernel_rfl) Try.func3 (by kernel_rfl)
    (of_decide_eq_true (by kernel_rfl)) (by unfold Func.isWrapper; first | (rw [if_pos (by decide +kernel)]; kernel_rfl) | (rw [if_neg (by decide +kernel)]; exact ⟨rfl, rfl⟩))
    (fun os started H enc _ => lifted os started H enc)
/-- The statement. -/
theorem proved : Rows.ReplyLengthsSaid := over
#print axioms proved
end Go.Proofs.Ytojmnojgkelkkaa.replyLengths
