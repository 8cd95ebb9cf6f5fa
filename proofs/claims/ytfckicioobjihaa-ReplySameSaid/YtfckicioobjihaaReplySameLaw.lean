/- ReplySame: (P20.3) each answer has as many bytes as each other one to the same operation and bound. Conditions: none. -/
import Derived.Test.YtfckicioobjihaaRe15
import Derived.Test.YtfckicioobjihaaReH
import Derived.Test.YtfckicioobjihaaRe6
import Derived.Test.YtfckicioobjihaaFrame
namespace Go.Proofs.Ytfckicioobjihaa.replySame
set_option linter.unusedVariables false
set_option linter.unusedSimpArgs false
open Go.ChangeShapes Go.WideShapes Go.ChangeAt Go.RowKit
open Go.ChangeMaps (open_string shut_string)
def EncQ (op m : Int) (w : World) (e : Ending) (w' : World) : Prop := ∃ (A : Option Addr) (n c : Nat) (er : Int), e = .returned (.tuple #[.slice A n c, .int .i64 er]) ∧ (er = 0 → (n : Int) = lenN op m) ∧ Below w.heap.size w w'
theorem encode_q (w : World) (op m : Int) (a : An) (L : List Snt) (M : List Evt) (h : AnR w a L M) (hs : a.sec ≤ 18446744073709551615) :
    Calls Try.prog 14 #[.int .i64 op, .int .i64 m, .agg a.cs] w (EncQ op m w) := by
  refine (encode_any w op m a L M h hs).mono ?_
  rintro e w' ⟨hb, h1⟩
  rcases h1 with ⟨_, rfl⟩ | ⟨_, _, rfl⟩ | ⟨_, hm, g, n, hn, _, _, rfl, _⟩
  · exact ⟨none, 0, 0, 51, rfl, fun h => absurd h (by decide), hb⟩
  · exact ⟨none, 0, 0, 1, rfl, fun h => absurd h (by decide), hb⟩
  · exact ⟨_, _, _, 0, rfl, fun _ => by rw [hn]; exact (wr_fit h hm).2.2, hb⟩
set_option maxRecDepth 100000 in
set_option maxHeartbeats 8000000 in
theorem walk (op m : Int) (a : An) (L : List Snt) (M : List Evt) (b : An) (K : List Snt) (N : List Evt) (w : World) (hop : -9223372036854775808 ≤ op ∧ op ≤ 9223372036854775807) (hm : -9223372036854775808 ≤ m ∧ m ≤ 9223372036854775807) (hA : AnI w a L M) (hB : AnI w b K N) :
    Calls Try.prog 5 #[.int .i64 op, .int .i64 m, a.V, b.V] w fun e w' => e = .returned (.bool true) ∧ Below w.heap.size w w' := by
  obtain ⟨W, hW⟩ : ∃ W, W = (w.alloc (.cells a.cs TA)).alloc (.cells b.cs TA) := ⟨_, rfl⟩
  have HBW := Lib.hid (show Below w.heap.size w W by rw [hW]; exact ((Below.refl _ _).alloc (Nat.le_refl _) _).alloc (by simp) _)
  have HKA := Lib.hid (show Blk W w.heap.size TA a.cs by rw [hW]; exact (Blk.new w TA a.cs).alloc _)
  have HKB := Lib.hid (show Blk W (w.heap.size + 1) TA b.cs by rw [hW]; exact Blk.newAt (by simp))
  have HE1 := Lib.hid (encode_q W op m a L M (hA.r.below HBW.out) hA.sec)
  have HE2 := Lib.hid (fun W (hW : Below w.heap.size w W) => encode_q W op m b K N (hB.r.below hW) hB.sec)
  have HLN := Lib.hid (fun w => length_any op m w)
  have ea0 : a.cs[0]? = some (.int .i64 a.st) := rfl
  have ea1 : a.cs[1]? = some (.int .u64 (a.sec : Int)) := rfl
  have ea2 : a.cs[2]? = some (.int .i64 a.rid) := rfl
  have ea3 : a.cs[3]? = some (.int .i64 a.rx) := rfl
  have ea4 : a.cs[4]? = some (.int .i64 a.ry) := rfl
  have ea5 : a.cs[5]? = some (.int .i64 a.lab) := rfl
  have ea6 : a.cs[6]? = some (.int .i64 a.b0) := rfl
  have ea7 : a.cs[7]? = some (.int .i64 a.b1) := rfl
  have ea8 : a.cs[8]? = some (.int .i64 a.b2) := rfl
  have ea9 : a.cs[9]? = some (.int .i64 a.b3) := rfl
  have ea10 : a.cs[10]? = some (.slice a.sA a.sn a.sc) := rfl
  have ea11 : a.cs[11]? = some (.slice a.eA a.en a.ec) := rfl
  have eb0 : b.cs[0]? = some (.int .i64 b.st) := rfl
  have eb1 : b.cs[1]? = some (.int .u64 (b.sec : Int)) := rfl
  have eb2 : b.cs[2]? = some (.int .i64 b.rid) := rfl
  have eb3 : b.cs[3]? = some (.int .i64 b.rx) := rfl
  have eb4 : b.cs[4]? = some (.int .i64 b.ry) := rfl
  have eb5 : b.cs[5]? = some (.int .i64 b.lab) := rfl
  have eb6 : b.cs[6]? = some (.int .i64 b.b0) := rfl
  have eb7 : b.cs[7]? = some (.int .i64 b.b1) := rfl
  have eb8 : b.cs[8]? = some (.int .i64 b.b2) := rfl
  have eb9 : b.cs[9]? = some (.int .i64 b.b3) := rfl
  have eb10 : b.cs[10]? = some (.slice b.sA b.sn b.sc) := rfl
  have eb11 : b.cs[11]? = some (.slice b.eA b.en b.ec) := rfl
  unfold EncQ at HE1 HE2
  generalize lenN op m = ln at *
  clear hA hB hop hm
  have hWs := hW.symm
  clear hW
  have ka0 := HKA.out.cell 0; simp only [ea0] at ka0
  have ka1 := HKA.out.cell 1; simp only [ea1] at ka1
  have ka2 := HKA.out.cell 2; simp only [ea2] at ka2
  have ka3 := HKA.out.cell 3; simp only [ea3] at ka3
  have ka4 := HKA.out.cell 4; simp only [ea4] at ka4
  have ka5 := HKA.out.cell 5; simp only [ea5] at ka5
  have ka6 := HKA.out.cell 6; simp only [ea6] at ka6
  have ka7 := HKA.out.cell 7; simp only [ea7] at ka7
  have ka8 := HKA.out.cell 8; simp only [ea8] at ka8
  have ka9 := HKA.out.cell 9; simp only [ea9] at ka9
  have ka10 := HKA.out.cell 10; simp only [ea10] at ka10
  have ka11 := HKA.out.cell 11; simp only [ea11] at ka11
  go_enter Try.func5, Try.ntmps5
  go_wp2_with fail
  refine HE1.out.mono ?_
  rintro e w1 ⟨A1, n1, c1, r1, rfl, hz1, hb1⟩
  have HB1 := Lib.hid (below_trans HBW.out hb1)
  have HZ1 := Lib.hid hz1
  have kb0 := (HKB.out.thru0 hb1).cell 0; simp only [eb0] at kb0
  have kb1 := (HKB.out.thru0 hb1).cell 1; simp only [eb1] at kb1
  have kb2 := (HKB.out.thru0 hb1).cell 2; simp only [eb2] at kb2
  have kb3 := (HKB.out.thru0 hb1).cell 3; simp only [eb3] at kb3
  have kb4 := (HKB.out.thru0 hb1).cell 4; simp only [eb4] at kb4
  have kb5 := (HKB.out.thru0 hb1).cell 5; simp only [eb5] at kb5
  have kb6 := (HKB.out.thru0 hb1).cell 6; simp only [eb6] at kb6
  have kb7 := (HKB.out.thru0 hb1).cell 7; simp only [eb7] at kb7
  have kb8 := (HKB.out.thru0 hb1).cell 8; simp only [eb8] at kb8
  have kb9 := (HKB.out.thru0 hb1).cell 9; simp only [eb9] at kb9
  have kb10 := (HKB.out.thru0 hb1).cell 10; simp only [eb10] at kb10
  have kb11 := (HKB.out.thru0 hb1).cell 11; simp only [eb11] at kb11
  clear hb1 hz1 hWs ka0 ka1 ka2 ka3 ka4 ka5 ka6 ka7 ka8 ka9 ka10 ka11
  go_wp2_with fail
  refine (HE2.out _ HB1.out).mono ?_
  rintro e w2 ⟨A2, n2, c2, r2, rfl, hz2, hb2⟩
  have HB2 := Lib.hid (below_trans HB1.out hb2)
  have HZ2 := Lib.hid hz2
  clear hb2 hz2 kb0 kb1 kb2 kb3 kb4 kb5 kb6 kb7 kb8 kb9 kb10 kb11
  by_cases h1 : r1 = 0
  · subst h1
    by_cases h2 : r2 = 0
    · subst h2
      have e1 := HZ1.out rfl
      have e2 := HZ2.out rfl
      obtain rfl : n2 = n1 := by omega
      subst e1
      clear e2 HZ1 HZ2
      go_wp2_with fail
      refine (HLN.out _).mono ?_
      rintro e w3 ⟨rfl, hw3⟩
      subst hw3
      go_wp2_with fail
      refine (rknown_any _).mono ?_
      rintro e w4 ⟨rfl, hb4⟩
      have HB4 := Lib.hid (below_trans HB2.out hb4)
      clear hb4
      go_wp2_with fail
      go_ret
      exact ⟨rfl, HB4.out⟩
    · have hne : (r2 != 0) = true := by simpa using h2
      go_wp2_with fail
      refine (rknown_any _).mono ?_
      rintro e w4 ⟨rfl, hb4⟩
      have HB4 := Lib.hid (below_trans HB2.out hb4)
      clear hb4
      go_wp2_with fail
      go_ret
      exact ⟨rfl, HB4.out⟩
  · have hne : (r1 != 0) = true := by simpa using h1
    go_wp2_with fail
    refine (rknown_any _).mono ?_
    rintro e w4 ⟨rfl, hb4⟩
    have HB4 := Lib.hid (below_trans HB2.out hb4)
    clear hb4
    go_wp2_with fail
    go_ret
    exact ⟨rfl, HB4.out⟩
theorem own : ownKnob Try.prog.godebug = none := by kernel_rfl
theorem laidOut : laidOutB Try.prog = true := by kernel_rfl
set_option maxRecDepth 100000 in
theorem lifted (os : Os) (started : os.Started) (H : Type) (enc : TypeId × Value → H) :
    ReturnsInHanded {} Try.checked os 5 .any (Rows.replySameSpec.pre6 enc Try.prog Try.f5 Rows.replySameRow.domain false) (Rows.replySameSpec.post enc Try.prog Try.f5 false true false false) := by
  refine returnsInHanded_of_change_sized (C := Try.checked) own started (by kernel_rfl) Try.func5
    (ChangeSpec.witness6 (enc := enc) (C := Try.checked) false ⟨#[], #[.int .i64 0, .int .i64 0, wAn, wAn], []⟩ 8 (by kernel_rfl) (by kernel_rfl) (by kernel_rfl) (by kernel_rfl)) ?_
  intro W base args ds gs before hval0 hW hcnd hsz0 _
  have hval : ∀ (j : Nat) t v, Try.f5.params[j]? = some t → args[j]? = some v → Value.okWide Try.prog W .any base t v := hval0
  have hW' := hW
  obtain ⟨p, q, hA0, hV, rfl, hfz, hnd⟩ := hW
  have hA : DataW.TrodAll enc Try.prog W 0 (fun _ => true) true Try.f5.params.toList args.toList ds p := hA0
  rw [Try.params5] at hA hval
  obtain ⟨v0, vs0, d0, ds0, p0, q0, hargs, rfl, rfl, h0, r0⟩ := trodAll_cons hA
  obtain ⟨v1, vs1, d1, ds1, p1, q1, rfl, rfl, rfl, h1, r1⟩ := trodAll_cons r0
  obtain ⟨v2, vs2, d2, ds2, p2, q2, rfl, rfl, rfl, h2, r2⟩ := trodAll_cons r1
  obtain ⟨v3, vs3, d3, ds3, p3, q3, rfl, rfl, rfl, h3, r3⟩ := trodAll_cons r2
  obtain ⟨rfl, rfl, rfl⟩ := trodAll_nil r3
  obtain rfl : args = #[v0, v1, v2, v3] := by cases args; simp_all
  obtain ⟨rfl, rfl⟩ := trodVars_none hV
  have k0 := h0
  have lt0 : ∀ x ∈ p0, x.block < W.heap.size := by obtain ⟨m, hm⟩ := k0; exact DataW.trod_lt m _ _ _ hm
  obtain ⟨a0, rfl, rfl, rfl, w0⟩ := open_int Try.underlying3 (hval 0 3 v0 rfl rfl) h0
  have k1 := h1
  have lt1 : ∀ x ∈ p1, x.block < W.heap.size := by obtain ⟨m, hm⟩ := k1; exact DataW.trod_lt m _ _ _ hm
  obtain ⟨a1, rfl, rfl, rfl, w1⟩ := open_int Try.underlying3 (hval 1 3 v1 rfl rfl) h1
  have k2 := h2
  have lt2 : ∀ x ∈ p2, x.block < W.heap.size := by obtain ⟨m, hm⟩ := k2; exact DataW.trod_lt m _ _ _ hm
  obtain ⟨cs2, rfl, hc2⟩ := okWide_struct Try.underlying38 (hval 2 38 v2 rfl rfl)
  obtain ⟨a2, L2, M2, e2, w2⟩ : ∃ a L M, Value.agg cs2 = An.V a ∧ AnI W a L M := by
    obtain ⟨fuel, hf⟩ := h2
    exact ans_of (cs := cs2) hf (by rw [hc2]; kernel_rfl) (fun n hn => of_decide_eq_true (List.all_eq_true.1 hsz0 n (DataW.weights_mem_each (j := 2) (t := 38) (d := d2) rfl rfl n hn)))
  have k3 := h3
  have lt3 : ∀ x ∈ p3, x.block < W.heap.size := by obtain ⟨m, hm⟩ := k3; exact DataW.trod_lt m _ _ _ hm
  obtain ⟨cs3, rfl, hc3⟩ := okWide_struct Try.underlying38 (hval 3 38 v3 rfl rfl)
  obtain ⟨a3, L3, M3, e3, w3⟩ : ∃ a L M, Value.agg cs3 = An.V a ∧ AnI W a L M := by
    obtain ⟨fuel, hf⟩ := h3
    exact ans_of (cs := cs3) hf (by rw [hc3]; kernel_rfl) (fun n hn => of_decide_eq_true (List.all_eq_true.1 hsz0 n (DataW.weights_mem_each (j := 3) (t := 38) (d := d3) rfl rfl n hn)))
  clear hA0 hval0
  have hw := walk a0 a1 a2 L2 M2 a3 L3 M3 W (bounds_i64 w0) (bounds_i64 w1) w2 w3
  rw [← e2] at hw
  rw [← e3] at hw
  refine hw.mono fun e W' ⟨he, bel⟩ => ?_
  subst he
  exact ⟨_, rfl, _, _, _, [], _, [], hW', trodAll_mk1 (shut_bool Try.underlying4 _), (trodAll_cons_mk (Below.trod laidOut (by kernel_rfl) (of_decide_eq_true (by kernel_rfl)) k0 bel lt0) (trodAll_cons_mk (Below.trod laidOut (by kernel_rfl) (of_decide_eq_true (by kernel_rfl)) k1 bel lt1) (trodAll_cons_mk (Below.trod laidOut (by kernel_rfl) (of_decide_eq_true (by kernel_rfl)) k2 bel lt2) (trodAll_cons_mk (Below.trod laidOut (by kernel_rfl) (of_decide_eq_true (by kernel_rfl)) k3 bel lt3) trodAll_mk0)))), rfl, bel.frame _, fun h => by cases h⟩
theorem over : Rows.replySameRow.holds Try.pinned (OpenSpec.ofChange Rows.replySameSpec) :=
  OpenClaim.holds_of_wide 5 Try.f5 rfl rfl rfl rfl rfl rfl rfl ⟨rfl, rfl, rfl, rfl, rfl⟩ rfl rfl rfl rfl rfl (by kernel_rfl) Try.func5 (by kernel_rfl)
    (of_decide_eq_true (by kernel_rfl)) (by unfold Func.isWrapper; first | (rw [if_pos (by decide +kernel)]; kernel_rfl) | (rw [if_neg (by decide +kernel)]; exact ⟨rfl, rfl⟩))
    (fun os started H enc _ => lifted os started H enc)
/-- The statement. -/
theorem proved : Rows.ReplySameSaid := over
#print axioms proved
end Go.Proofs.Ytfckicioobjihaa.replySame
