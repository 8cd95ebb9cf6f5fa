/- ReplyBack: (P20.2, P20.4) what is written is read as it was. Conditions: none. -/
import Derived.Test.YtfckicioobjihaaRe29
import Derived.Test.YtfckicioobjihaaRe30
import Derived.Test.YtfckicioobjihaaReH
import Derived.Test.YtfckicioobjihaaRe6
import Derived.Test.YtfckicioobjihaaFrame
namespace Go.Proofs.Ytfckicioobjihaa.replyBack
set_option linter.unusedVariables false
set_option linter.unusedSimpArgs false
open Go.ChangeShapes Go.WideShapes Go.ChangeAt Go.RowKit
open Go.ChangeMaps (open_string shut_string)
set_option maxRecDepth 100000 in
set_option maxHeartbeats 8000000 in
theorem walk (op m : Int) (a : An) (L : List Snt) (M : List Evt) (w : World) (hop : -9223372036854775808 ≤ op ∧ op ≤ 9223372036854775807) (hm : -9223372036854775808 ≤ m ∧ m ≤ 9223372036854775807) (hA : AnI w a L M) :
    Calls Try.prog 6 #[.int .i64 op, .int .i64 m, a.V] w fun e w' => e = .returned (.bool true) ∧ Below w.heap.size w w' := by
  obtain ⟨W, hW⟩ : ∃ W, W = w.alloc (.cells a.cs TA) := ⟨_, rfl⟩
  have HBW := Lib.hid (show Below w.heap.size w W by rw [hW]; exact (Below.refl _ _).alloc (Nat.le_refl _) _)
  have HKA := Lib.hid (show Blk W w.heap.size TA a.cs by rw [hW]; exact Blk.new _ _ _)
  have HAW := Lib.hid (hA.r.below HBW.out)
  have HE := Lib.hid (encode_any W op m a L M HAW.out hA.sec)
  have HSC := Lib.hid hA.sec
  have HKN := Lib.hid (fun w => rknown_any w)
  have ea0 : a.cs[0]? = some (.int .i64 a.st) := rfl
  have ea1 : a.cs[1]? = some (.int .u64 (a.sec : Int)) := rfl
  have ea2 : a.cs[2]? = some (.int .i64 a.rid) := rfl
  have ea3 : a.cs[3]? = some (.int .i64 a.rx) := rfl
  have ea4 : a.cs[4]? = some (.int .i64 a.ry) := rfl
  have ea5 : a.cs[5]? = some (.int .i64 a.lab) := rfl
  have ea6 : a.cs[6]? = some (.int .i64 a.b0) := rfl
  have ea7 : a.cs[7]? = some (.int .i64 a.b1) := rfl
  have ea8 : a.cs[8]? = some (.int .i64 a.b2) := rfl
  have ea9 : a.cs[9]? = some (.int .i64 a.b3) := rfl
  have ea10 : a.cs[10]? = some (.slice a.sA a.sn a.sc) := rfl
  have ea11 : a.cs[11]? = some (.slice a.eA a.en a.ec) := rfl
  unfold EncP at HE
  have hWs := hW.symm
  clear hW hA hop hm
  have ka0 := HKA.out.cell 0; simp only [ea0] at ka0
  have ka1 := HKA.out.cell 1; simp only [ea1] at ka1
  have ka2 := HKA.out.cell 2; simp only [ea2] at ka2
  have ka3 := HKA.out.cell 3; simp only [ea3] at ka3
  have ka4 := HKA.out.cell 4; simp only [ea4] at ka4
  have ka5 := HKA.out.cell 5; simp only [ea5] at ka5
  have ka6 := HKA.out.cell 6; simp only [ea6] at ka6
  have ka7 := HKA.out.cell 7; simp only [ea7] at ka7
  have ka8 := HKA.out.cell 8; simp only [ea8] at ka8
  have ka9 := HKA.out.cell 9; simp only [ea9] at ka9
  have ka10 := HKA.out.cell 10; simp only [ea10] at ka10
  have ka11 := HKA.out.cell 11; simp only [ea11] at ka11
  go_enter Try.func6, Try.ntmps6
  go_wp2_with fail
  refine HE.out.mono ?_
  rintro e w1 ⟨hb1, hE⟩
  have HB1 := Lib.hid (below_trans HBW.out hb1)
  have HBD := Lib.hid hb1
  have HK1 := Lib.hid (HKA.out.thru0 hb1)
  clear hb1 hWs HE ka0 ka1 ka2 ka3 ka4 ka5 ka6 ka7 ka8 ka9 ka10 ka11
  rcases hE with ⟨_, rfl⟩ | ⟨_, _, rfl⟩ | ⟨_, hma, g, n, hn, hzl, hge, rfl, hbk⟩
  · go_wp2_with fail
    refine (HKN.out _).mono ?_
    rintro e w4 ⟨rfl, hb4⟩
    have HB4 := Lib.hid (below_trans HB1.out hb4)
    clear hb4
    go_wp2_with fail
    go_ret
    exact ⟨rfl, HB4.out⟩
  · go_wp2_with fail
    refine (HKN.out _).mono ?_
    rintro e w4 ⟨rfl, hb4⟩
    have HB4 := Lib.hid (below_trans HB1.out hb4)
    clear hb4
    go_wp2_with fail
    go_ret
    exact ⟨rfl, HB4.out⟩
  · have h800 : n ≤ 800 := by rw [hn]; exact (wr_fit HAW.out hma).2.1
    obtain ⟨R, hRe⟩ : ∃ R, R = encW op m a L M := ⟨_, rfl⟩
    rw [← hRe] at hzl hbk
    have hrb : RB w1 (some ⟨g, 0, none⟩) n R := by rw [← hzl]; exact RB_of_row (off := 0) hbk (by simp)
    have HDB := Lib.hid (decode_back w1 W op m a L M R (some ⟨g, 0, none⟩) n n HAW.out hma HSC.out hRe hzl.symm (Nat.le_refl _) (by simp only [maxLen]; omega) hrb)
    clear hma hn hzl hge hbk hrb hRe
    go_wp2_with fail
    refine HDB.out.mono ?_
    rintro e w2 ⟨hb2, sA, sc, eA, ec, rfl, har⟩
    have hcs : (reA a sA sc eA ec).cs = #[.int .i64 a.st, .int .u64 (a.sec : Int), .int .i64 a.rid, .int .i64 a.rx, .int .i64 a.ry, .int .i64 a.lab, .int .i64 a.b0, .int .i64 a.b1, .int .i64 a.b2, .int .i64 a.b3, .slice sA a.sn sc, .slice eA a.en ec] := rfl
    rw [hcs]
    clear hcs
    have HB2 := Lib.hid (below_trans HB1.out hb2)
    have HK2 := Lib.hid (HK1.out.thru0 hb2)
    have HBX := Lib.hid (show Below w2.heap.size w2 (w2.alloc (.cells #[.int .i64 a.st, .int .u64 (a.sec : Int), .int .i64 a.rid, .int .i64 a.rx, .int .i64 a.ry, .int .i64 a.lab, .int .i64 a.b0, .int .i64 a.b1, .int .i64 a.b2, .int .i64 a.b3, .slice sA a.sn sc, .slice eA a.en ec] TA)) from (Below.refl _ _).alloc (Nat.le_refl _) _)
    have HSA := Lib.hid (rsame_ans (w2.alloc (.cells #[.int .i64 a.st, .int .u64 (a.sec : Int), .int .i64 a.rid, .int .i64 a.rx, .int .i64 a.ry, .int .i64 a.lab, .int .i64 a.b0, .int .i64 a.b1, .int .i64 a.b2, .int .i64 a.b3, .slice sA a.sn sc, .slice eA a.en ec] TA)) a L M sA sc eA ec (((HAW.out.below HBD.out).below hb2).below HBX.out) (har.seen.below HBX.out) (har.evs.below HBX.out))
    have hcb : ({ a with sA := sA, sc := sc, eA := eA, ec := ec } : An).cs = #[.int .i64 a.st, .int .u64 (a.sec : Int), .int .i64 a.rid, .int .i64 a.rx, .int .i64 a.ry, .int .i64 a.lab, .int .i64 a.b0, .int .i64 a.b1, .int .i64 a.b2, .int .i64 a.b3, .slice sA a.sn sc, .slice eA a.en ec] := rfl
    rw [hcb] at HSA
    have HB3 := Lib.hid (below_trans HB2.out HBX.out)
    have HK3 := Lib.hid (HK2.out.thru0 HBX.out)
    clear hb2 har hcb HDB
    have ka0 := HK3.out.cell 0; simp only [ea0] at ka0
    have ka1 := HK3.out.cell 1; simp only [ea1] at ka1
    have ka2 := HK3.out.cell 2; simp only [ea2] at ka2
    have ka3 := HK3.out.cell 3; simp only [ea3] at ka3
    have ka4 := HK3.out.cell 4; simp only [ea4] at ka4
    have ka5 := HK3.out.cell 5; simp only [ea5] at ka5
    have ka6 := HK3.out.cell 6; simp only [ea6] at ka6
    have ka7 := HK3.out.cell 7; simp only [ea7] at ka7
    have ka8 := HK3.out.cell 8; simp only [ea8] at ka8
    have ka9 := HK3.out.cell 9; simp only [ea9] at ka9
    have ka10 := HK3.out.cell 10; simp only [ea10] at ka10
    have ka11 := HK3.out.cell 11; simp only [ea11] at ka11
    go_wp2_with fail
    refine HSA.out.mono ?_
    rintro e w3 ⟨rfl, hb3⟩
    have HB4 := Lib.hid (below_trans HB3.out hb3)
    clear hb3 ka0 ka1 ka2 ka3 ka4 ka5 ka6 ka7 ka8 ka9 ka10 ka11
    go_wp2_with fail
    refine (HKN.out _).mono ?_
    rintro e w4 ⟨rfl, hb4⟩
    have HB5 := Lib.hid (below_trans HB4.out hb4)
    clear hb4
    go_wp2_with fail
    go_ret
    exact ⟨rfl, HB5.out⟩
theorem own : ownKnob Try.prog.godebug = none := by kernel_rfl
theorem laidOut : laidOutB Try.prog = true := by kernel_rfl
set_option maxRecDepth 100000 in
theorem lifted (os : Os) (started : os.Started) (H : Type) (enc : TypeId × Value → H) :
    ReturnsInHanded {} Try.checked os 6 .any (Rows.replyBackSpec.pre6 enc Try.prog Try.f6 Rows.replyBackRow.domain false) (Rows.replyBackSpec.post enc Try.prog Try.f6 false true false false) := by
  refine returnsInHanded_of_change_sized (C := Try.checked) own started (by kernel_rfl) Try.func6
    (ChangeSpec.witness6 (enc := enc) (C := Try.checked) false ⟨#[], #[.int .i64 0, .int .i64 0, wAn], []⟩ 8 (by kernel_rfl) (by kernel_rfl) (by kernel_rfl) (by kernel_rfl)) ?_
  intro W base args ds gs before hval0 hW hcnd hsz0 _
  have hval : ∀ (j : Nat) t v, Try.f6.params[j]? = some t → args[j]? = some v → Value.okWide Try.prog W .any base t v := hval0
  have hW' := hW
  obtain ⟨p, q, hA0, hV, rfl, hfz, hnd⟩ := hW
  have hA : DataW.TrodAll enc Try.prog W 0 (fun _ => true) true Try.f6.params.toList args.toList ds p := hA0
  rw [Try.params6] at hA hval
  obtain ⟨v0, vs0, d0, ds0, p0, q0, hargs, rfl, rfl, h0, r0⟩ := trodAll_cons hA
  obtain ⟨v1, vs1, d1, ds1, p1, q1, rfl, rfl, rfl, h1, r1⟩ := trodAll_cons r0
  obtain ⟨v2, vs2, d2, ds2, p2, q2, rfl, rfl, rfl, h2, r2⟩ := trodAll_cons r1
  obtain ⟨rfl, rfl, rfl⟩ := trodAll_nil r2
  obtain rfl : args = #[v0, v1, v2] := by cases args; simp_all
  obtain ⟨rfl, rfl⟩ := trodVars_none hV
  have k0 := h0
  have lt0 : ∀ x ∈ p0, x.block < W.heap.size := by obtain ⟨m, hm⟩ := k0; exact DataW.trod_lt m _ _ _ hm
  obtain ⟨a0, rfl, rfl, rfl, w0⟩ := open_int Try.underlying3 (hval 0 3 v0 rfl rfl) h0
  have k1 := h1
  have lt1 : ∀ x ∈ p1, x.block < W.heap.size := by obtain ⟨m, hm⟩ := k1; exact DataW.trod_lt m _ _ _ hm
  obtain ⟨a1, rfl, rfl, rfl, w1⟩ := open_int Try.underlying3 (hval 1 3 v1 rfl rfl) h1
  have k2 := h2
  have lt2 : ∀ x ∈ p2, x.block < W.heap.size := by obtain ⟨m, hm⟩ := k2; exact DataW.trod_lt m _ _ _ hm
  obtain ⟨cs2, rfl, hc2⟩ := okWide_struct Try.underlying38 (hval 2 38 v2 rfl rfl)
  obtain ⟨a2, L2, M2, e2, w2⟩ : ∃ a L M, Value.agg cs2 = An.V a ∧ AnI W a L M := by
    obtain ⟨fuel, hf⟩ := h2
    exact ans_of (cs := cs2) hf (by rw [hc2]; kernel_rfl) (fun n hn => of_decide_eq_true (List.all_eq_true.1 hsz0 n (DataW.weights_mem_each (j := 2) (t := 38) (d := d2) rfl rfl n hn)))
  clear hA0 hval0
  have hw := walk a0 a1 a2 L2 M2 W (bounds_i64 w0) (bounds_i64 w1) w2
  rw [← e2] at hw
  refine hw.mono fun e W' ⟨he, bel⟩ => ?_
  subst he
  exact ⟨_, rfl, _, _, _, [], _, [], hW', trodAll_mk1 (shut_bool Try.underlying4 _), (trodAll_cons_mk (Below.trod laidOut (by kernel_rfl) (of_decide_eq_true (by kernel_rfl)) k0 bel lt0) (trodAll_cons_mk (Below.trod laidOut (by kernel_rfl) (of_decide_eq_true (by kernel_rfl)) k1 bel lt1) (trodAll_cons_mk (Below.trod laidOut (by kernel_rfl) (of_decide_eq_true (by kernel_rfl)) k2 bel lt2) trodAll_mk0))), rfl, bel.frame _, fun h => by cases h⟩
theorem over : Rows.replyBackRow.holds Try.pinned (OpenSpec.ofChange Rows.replyBackSpec) :=
  OpenClaim.holds_of_wide 6 Try.f6 rfl rfl rfl rfl rfl rfl rfl ⟨rfl, rfl, rfl, rfl, rfl⟩ rfl rfl rfl rfl rfl (by kernel_rfl) Try.func6 (by kernel_rfl)
    (of_decide_eq_true (by kernel_rfl)) (by unfold Func.isWrapper; first | (rw [if_pos (by decide +kernel)]; kernel_rfl) | (rw [if_neg (by decide +kernel)]; exact ⟨rfl, rfl⟩))
    (fun os started H enc _ => lifted os started H enc)
/-- The statement. -/
theorem proved : Rows.ReplyBackSaid := over
#print axioms proved
end Go.Proofs.Ytfckicioobjihaa.replyBack
