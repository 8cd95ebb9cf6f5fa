/- ReplyReads: (P20.2, P20.4) any bytes are an answer that fits, whose bytes they are, or refused. Conditions: none. -/
import Derived.Test.YtmapcdmegkfheaaZbRe36
import Derived.Test.YtmapcdmegkfheaaZbRe31
import Derived.Test.YtmapcdmegkfheaaZbRe33M
import Derived.Test.YtmapcdmegkfheaaZbReH
import Derived.Test.YtmapcdmegkfheaaZbRe6
import Derived.Test.YtmapcdmegkfheaaZbSame
import Derived.Test.YtmapcdmegkfheaaZbFrame
namespace Go.Proofs.Ytmapcdmegkfheaa.replyReads
set_option linter.unusedVariables false
set_option linter.unusedSimpArgs false
open Go.ChangeShapes Go.WideShapes Go.ChangeAt Go.RowKit
open Go.ChangeMaps (open_string shut_string)
set_option maxRecDepth 100000 in
set_option maxHeartbeats 8000000 in
theorem walk (op m : Int) (A : Option Addr) (n cap : Nat) (z0 : List Int) (w : World) (hop : -9223372036854775808 ≤ op ∧ op ≤ 9223372036854775807) (hm : -9223372036854775808 ≤ m ∧ m ≤ 9223372036854775807) (h : IsRow .u8 w A n cap z0) :
    Calls Try.prog 7 #[.int .i64 op, .int .i64 m, .slice A n cap] w fun e w' => e = .returned (.bool true) ∧ Below w.heap.size w w' := by
  have hlc : n ≤ cap ∧ cap ≤ maxLen := by
    rcases h with ⟨rfl, rfl, rfl, rfl⟩ | ⟨x, rfl, hl, hm, _⟩
    · exact ⟨Nat.le_refl _, by decide⟩
    · exact ⟨hl, hm⟩
  obtain ⟨hlm, R, hrb⟩ := h.rb
  have hRn : R.length = n := hrb.len
  have HKN := Lib.hid (fun w => rknown_any w)
  have HZS := Lib.hid (fun w => rsame_zero w)
  have HRL := Lib.hid (fun w => rlength_any op m w)
  clear h
  have hlm2 := hlm
  unfold maxLen at hlm2
  by_cases hop1 : opB op = true
  rotate_left
  · have hop0 : opB op = false := by simpa using hop1
    have HD := Lib.hid (decode_op w op m A n cap hop0)
    have HO : Hid (op < 1 ∨ 19 < op) := Lib.hid (by have : ¬ (1 ≤ op ∧ op ≤ 19) := by simpa [opB] using hop0
                                                    omega)
    clear hop1 hop0 hlc hrb hRn
    go_enter Try.func7, Try.ntmps7
    go_wp2_with fail
    refine HD.out.mono ?_
    rintro e w1 ⟨hb1, rfl⟩
    have HB1 := Lib.hid (hb1.alloc hb1.size (.cells #[.int .i64 0, .int .u64 0, .int .i64 0, .int .i64 0, .int .i64 0, .int .i64 0, .int .i64 0, .int .i64 0, .int .i64 0, .int .i64 0, .slice none 0 0, .slice none 0 0] TA))
    clear hb1 HD
    rcases HO.out with h9 | h9
    · go_wp2_with fail
      refine (HKN.out _).mono ?_
      rintro e w8 ⟨rfl, hb8⟩
      have HB8 := Lib.hid (below_trans HB1.out hb8)
      clear hb8
      go_wp2_with fail
      go_ret
      exact ⟨rfl, HB8.out⟩
    · have h8 : ¬ op < 1 := by omega
      go_wp2_with fail
      refine (HKN.out _).mono ?_
      rintro e w8 ⟨rfl, hb8⟩
      have HB8 := Lib.hid (below_trans HB1.out hb8)
      clear hb8
      go_wp2_with fail
      go_ret
      exact ⟨rfl, HB8.out⟩
  have ho2 : 1 ≤ op ∧ op ≤ 19 := by simpa [opB] using hop1
  obtain ⟨ho3, ho4⟩ := ho2
  have h8 : ¬ op < 1 := by omega
  have h7 : ¬ 19 < op := by omega
  by_cases hm1 : mB m = true
  rotate_left
  · have hm0 : mB m = false := by simpa using hm1
    have HD := Lib.hid (decode_m w op m A n cap hop1 hm0)
    have HO : Hid (m < 0 ∨ 64 < m) := Lib.hid (by have : ¬ (0 ≤ m ∧ m ≤ 64) := by simpa [mB] using hm0
                                                  omega)
    clear hop1 hm0 hm1 hlc hrb hRn
    go_enter Try.func7, Try.ntmps7
    go_wp2_with fail
    refine HD.out.mono ?_
    rintro e w1 ⟨hb1, rfl⟩
    have HB1 := Lib.hid (hb1.alloc hb1.size (.cells #[.int .i64 0, .int .u64 0, .int .i64 0, .int .i64 0, .int .i64 0, .int .i64 0, .int .i64 0, .int .i64 0, .int .i64 0, .int .i64 0, .slice none 0 0, .slice none 0 0] TA))
    clear hb1 HD
    rcases HO.out with h9 | h9
    · go_wp2_with fail
      refine (HKN.out _).mono ?_
      rintro e w8 ⟨rfl, hb8⟩
      have HB8 := Lib.hid (below_trans HB1.out hb8)
      clear hb8
      go_wp2_with fail
      go_ret
      exact ⟨rfl, HB8.out⟩
    · have h6 : ¬ m < 0 := by omega
      go_wp2_with fail
      refine (HKN.out _).mono ?_
      rintro e w8 ⟨rfl, hb8⟩
      have HB8 := Lib.hid (below_trans HB1.out hb8)
      clear hb8
      go_wp2_with fail
      go_ret
      exact ⟨rfl, HB8.out⟩
  have hm2 : 0 ≤ m ∧ m ≤ 64 := by simpa [mB] using hm1
  obtain ⟨hm3, hm4⟩ := hm2
  have h6 : ¬ m < 0 := by omega
  have h5 : ¬ 64 < m := by omega
  by_cases hln : lenN op m = (n : Int)
  rotate_left
  · have HD := Lib.hid (decode_len w op m A n cap hop1 hm1 hln hlm)
    generalize lenN op m = ln at *
    have hne : ¬ (n : Int) = ln := fun h => hln h.symm
    have hb9 : ((n : Int) != ln) = true := by simpa using hne
    clear hop1 hm1 hlc hrb hRn hln hop hm
    go_enter Try.func7, Try.ntmps7
    go_wp2_with fail
    refine HD.out.mono ?_
    rintro e w1 ⟨hb1, rfl⟩
    have HB1 := Lib.hid (hb1.alloc hb1.size (.cells #[.int .i64 0, .int .u64 0, .int .i64 0, .int .i64 0, .int .i64 0, .int .i64 0, .int .i64 0, .int .i64 0, .int .i64 0, .int .i64 0, .slice none 0 0, .slice none 0 0] TA))
    have HK1 := Lib.hid (Blk.new w1 TA #[.int .i64 0, .int .u64 0, .int .i64 0, .int .i64 0, .int .i64 0, .int .i64 0, .int .i64 0, .int .i64 0, .int .i64 0, .int .i64 0, .slice none 0 0, .slice none 0 0])
    clear hb1 HD
    go_wp2_with fail
    refine (HRL.out _).mono ?_
    rintro e w2 ⟨rfl, hb2⟩
    have HB2 := Lib.hid (below_trans HB1.out hb2)
    have HK2 := Lib.hid (HK1.out.thru0 hb2)
    clear hb2
    have s0 := HK2.out.cell 0
    have s1 := HK2.out.cell 1
    have s2 := HK2.out.cell 2
    have s3 := HK2.out.cell 3
    have s4 := HK2.out.cell 4
    have s5 := HK2.out.cell 5
    have s6 := HK2.out.cell 6
    have s7 := HK2.out.cell 7
    have s8 := HK2.out.cell 8
    have s9 := HK2.out.cell 9
    have s10 := HK2.out.cell 10
    have s11 := HK2.out.cell 11
    simp only [List.getElem?_toArray, List.getElem?_cons_zero, List.getElem?_cons_succ] at s0 s1 s2 s3 s4 s5 s6 s7 s8 s9 s10 s11
    go_wp2_with fail
    refine (HZS.out _).mono ?_
    rintro e w3 ⟨rfl, hb3⟩
    have HB3 := Lib.hid (below_trans HB2.out hb3)
    clear hb3
    go_wp2_with fail
    refine (HKN.out _).mono ?_
    rintro e w8 ⟨rfl, hb8⟩
    have HB8 := Lib.hid (below_trans HB3.out hb8)
    clear hb8
    go_wp2_with fail
    go_ret
    exact ⟨rfl, HB8.out⟩
  have hEL : R.length = (lenN op m).toNat := by omega
  have h800 : n ≤ 800 := by
    have r9 := len_eq ho3 ho4 hm3 hm4
    have a6 := eachN_le op.toNat
    have a5 := onceN_le op.toNat
    have a7 : m.toNat * eachN op.toNat ≤ 64 * 11 := Nat.mul_le_mul (by omega) a6
    rw [hln] at r9
    omega
  have HD := Lib.hid (decode_any w op m R A cap n ho3 ho4 hm3 hm4 hEL hRn.symm hlc.1 hlc.2 hrb)
  have HRB := Lib.hid hrb
  have HRN := Lib.hid hRn
  have HLC := Lib.hid (Nat.le_trans hlc.1 hlc.2)
  have HLC2 := Lib.hid hlc.2
  have hbn : ((n : Int) != (n : Int)) = false := by simp
  rw [hln] at HRL
  unfold DecB at HD
  clear hop1 hm1 hlc hrb hRn hln hop hm hEL
  go_enter Try.func7, Try.ntmps7
  go_wp2_with fail
  refine HD.out.mono ?_
  rintro e w1 ⟨hb1, sA, sn, sc, eA, en, ec, har, hE⟩
  have HSX := Lib.hid (anr_sec op R sA sn sc eA en ec)
  generalize anR op R sA sn sc eA en ec = a at *
  generalize seensR op R = L at *
  generalize evtsR op R = M at *
  have HAR := Lib.hid har
  clear har HD
  rcases hE with ⟨rfl, hma, hen⟩ | ⟨rfl, hno⟩
  · have HMA := Lib.hid hma
    have HEN := Lib.hid hen
    have HB1 := Lib.hid (hb1.alloc hb1.size (.cells a.cs TA))
    have HK1 := Lib.hid (Blk.new w1 TA #[.int .i64 a.st, .int .u64 (a.sec : Int), .int .i64 a.rid, .int .i64 a.rx, .int .i64 a.ry, .int .i64 a.lab, .int .i64 a.b0, .int .i64 a.b1, .int .i64 a.b2, .int .i64 a.b3, .slice a.sA a.sn a.sc, .slice a.eA a.en a.ec])
    have HAX := Lib.hid (HAR.out.below ((Below.refl _ _).alloc (Nat.le_refl _) (.cells #[.int .i64 a.st, .int .u64 (a.sec : Int), .int .i64 a.rid, .int .i64 a.rx, .int .i64 a.ry, .int .i64 a.lab, .int .i64 a.b0, .int .i64 a.b1, .int .i64 a.b2, .int .i64 a.b3, .slice a.sA a.sn a.sc, .slice a.eA a.en a.ec] TA)))
    have HRX := Lib.hid ((HRB.out.below hb1).alloc (.cells #[.int .i64 a.st, .int .u64 (a.sec : Int), .int .i64 a.rid, .int .i64 a.rx, .int .i64 a.ry, .int .i64 a.lab, .int .i64 a.b0, .int .i64 a.b1, .int .i64 a.b2, .int .i64 a.b3, .slice a.sA a.sn a.sc, .slice a.eA a.en a.ec] TA))
    have HFI := Lib.hid (fun W (hW : AnR W a L M) => refits_any W op m a L M hW)
    have HBY := Lib.hid (fun W (hW : AnR W a L M) => rbytes_any W op m a L M hW HMA.out HSX.out)
    have HEQ := Lib.hid (byt_enc HAR.out HMA.out HSX.out)
    simp only [HEQ.out, HEN.out] at HBY
    simp only [HMA.out] at HFI
    have hcs : a.cs = #[.int .i64 a.st, .int .u64 (a.sec : Int), .int .i64 a.rid, .int .i64 a.rx, .int .i64 a.ry, .int .i64 a.lab, .int .i64 a.b0, .int .i64 a.b1, .int .i64 a.b2, .int .i64 a.b3, .slice a.sA a.sn a.sc, .slice a.eA a.en a.ec] := rfl
    simp only [hcs] at HFI HBY HB1 ⊢
    clear hma hen hcs hb1 HEQ HEN HMA
    go_wp2_with fail
    refine (HRL.out _).mono ?_
    rintro e w2 ⟨rfl, hb2⟩
    have HB2 := Lib.hid (below_trans HB1.out hb2)
    have HK2 := Lib.hid (HK1.out.thru0 hb2)
    have HA2 := Lib.hid (HAX.out.below hb2)
    have HR2 := Lib.hid (HRX.out.below hb2)
    clear hb2
    have s0 := HK2.out.cell 0
    have s1 := HK2.out.cell 1
    have s2 := HK2.out.cell 2
    have s3 := HK2.out.cell 3
    have s4 := HK2.out.cell 4
    have s5 := HK2.out.cell 5
    have s6 := HK2.out.cell 6
    have s7 := HK2.out.cell 7
    have s8 := HK2.out.cell 8
    have s9 := HK2.out.cell 9
    have s10 := HK2.out.cell 10
    have s11 := HK2.out.cell 11
    simp only [List.getElem?_toArray, List.getElem?_cons_zero, List.getElem?_cons_succ] at s0 s1 s2 s3 s4 s5 s6 s7 s8 s9 s10 s11
    go_wp2_with fail
    refine (HFI.out _ HA2.out).mono ?_
    rintro e w3 ⟨rfl, hb3⟩
    have HB3 := Lib.hid (below_trans HB2.out hb3)
    have HK3 := Lib.hid (HK2.out.thru0 hb3)
    have HA3 := Lib.hid (HA2.out.below hb3)
    have HR3 := Lib.hid (HR2.out.below hb3)
    clear hb3 s0 s1 s2 s3 s4 s5 s6 s7 s8 s9 s10 s11
    have s0 := HK3.out.cell 0
    have s1 := HK3.out.cell 1
    have s2 := HK3.out.cell 2
    have s3 := HK3.out.cell 3
    have s4 := HK3.out.cell 4
    have s5 := HK3.out.cell 5
    have s6 := HK3.out.cell 6
    have s7 := HK3.out.cell 7
    have s8 := HK3.out.cell 8
    have s9 := HK3.out.cell 9
    have s10 := HK3.out.cell 10
    have s11 := HK3.out.cell 11
    simp only [List.getElem?_toArray, List.getElem?_cons_zero, List.getElem?_cons_succ] at s0 s1 s2 s3 s4 s5 s6 s7 s8 s9 s10 s11
    go_wp2_with fail
    refine (HBY.out _ HA3.out).mono ?_
    rintro e w4 ⟨v4, rfl, hf4⟩
    have HB4 := Lib.hid (below_trans HB3.out hf4.bel)
    have HR4 := Lib.hid (HR3.out.below hf4.bel)
    have HO4 := Lib.hid hf4.own
    obtain ⟨A4, c4, hv4, hl4, hm4⟩ := hf4.own.slice
    subst hv4
    have HM4 := Lib.hid (Nat.le_trans hl4 hm4)
    clear hf4 hl4 hm4 s0 s1 s2 s3 s4 s5 s6 s7 s8 s9 s10 s11
    have HSM := Lib.hid (same_any A4 A R.length n c4 cap R R w4 (by have h9 := EOwn.reads (M := R) elB_ok HO4.out; rw [rbv_encs] at h9; exact h9) HR4.out HM4.out HLC.out)
    rw [decide_eq_true rfl] at HSM
    have hrn := HRN.out
    rw [hrn] at HSM ⊢
    go_wp2_with fail
    refine HSM.out.mono ?_
    rintro e w5 ⟨rfl, q, hw5⟩
    have HB5 : Hid (Below w.heap.size w w5) := Lib.hid (by rw [hw5]; exact below_drawn HB4.out q)
    clear hw5
    go_wp2_with fail
    refine (HKN.out _).mono ?_
    rintro e w8 ⟨rfl, hb8⟩
    have HB8 := Lib.hid (below_trans HB5.out hb8)
    clear hb8
    go_wp2_with fail
    go_ret
    exact ⟨rfl, HB8.out⟩
  · have HB1 := Lib.hid (hb1.alloc hb1.size (.cells #[.int .i64 0, .int .u64 0, .int .i64 0, .int .i64 0, .int .i64 0, .int .i64 0, .int .i64 0, .int .i64 0, .int .i64 0, .int .i64 0, .slice none 0 0, .slice none 0 0] TA))
    have HK1 := Lib.hid (Blk.new w1 TA #[.int .i64 0, .int .u64 0, .int .i64 0, .int .i64 0, .int .i64 0, .int .i64 0, .int .i64 0, .int .i64 0, .int .i64 0, .int .i64 0, .slice none 0 0, .slice none 0 0])
    clear hb1 hno
    go_wp2_with fail
    refine (HRL.out _).mono ?_
    rintro e w2 ⟨rfl, hb2⟩
    have HB2 := Lib.hid (below_trans HB1.out hb2)
    have HK2 := Lib.hid (HK1.out.thru0 hb2)
    clear hb2
    have s0 := HK2.out.cell 0
    have s1 := HK2.out.cell 1
    have s2 := HK2.out.cell 2
    have s3 := HK2.out.cell 3
    have s4 := HK2.out.cell 4
    have s5 := HK2.out.cell 5
    have s6 := HK2.out.cell 6
    have s7 := HK2.out.cell 7
    have s8 := HK2.out.cell 8
    have s9 := HK2.out.cell 9
    have s10 := HK2.out.cell 10
    have s11 := HK2.out.cell 11
    simp only [List.getElem?_toArray, List.getElem?_cons_zero, List.getElem?_cons_succ] at s0 s1 s2 s3 s4 s5 s6 s7 s8 s9 s10 s11
    go_wp2_with fail
    refine (HZS.out _).mono ?_
    rintro e w3 ⟨rfl, hb3⟩
    have HB3 := Lib.hid (below_trans HB2.out hb3)
    clear hb3
    go_wp2_with fail
    refine (HKN.out _).mono ?_
    rintro e w8 ⟨rfl, hb8⟩
    have HB8 := Lib.hid (below_trans HB3.out hb8)
    clear hb8
    go_wp2_with fail
    go_ret
    exact ⟨rfl, HB8.out⟩
theorem own : ownKnob Try.prog.godebug = none := by kernel_rfl
theorem laidOut : laidOutB Try.prog = true := by kernel_rfl
set_option maxRecDepth 100000 in
theorem lifted (os : Os) (started : os.Started) (H : Type) (enc : TypeId × Value → H) :
    ReturnsInHanded {} Try.checked os 7 .any (Rows.replyReadsSpec.pre6 enc Try.prog Try.f7 Rows.replyReadsRow.domain false) (Rows.replyReadsSpec.post enc Try.prog Try.f7 false true false false) := by
  refine returnsInHanded_of_change (C := Try.checked) own started (by kernel_rfl) Try.func7
    (ChangeSpec.witness6 (enc := enc) (C := Try.checked) false ⟨#[], #[.int .i64 0, .int .i64 0, .slice none 0 0], []⟩ 8 (by kernel_rfl) (by kernel_rfl) (by kernel_rfl) (by kernel_rfl)) ?_
  intro W base args ds gs before hval0 hW hcnd _
  have hval : ∀ (j : Nat) t v, Try.f7.params[j]? = some t → args[j]? = some v → Value.okWide Try.prog W .any base t v := hval0
  have hW' := hW
  obtain ⟨p, q, hA0, hV, rfl, hfz, hnd⟩ := hW
  have hA : DataW.TrodAll enc Try.prog W 0 (fun _ => true) true Try.f7.params.toList args.toList ds p := hA0
  rw [Try.params7] at hA hval
  obtain ⟨v0, vs0, d0, ds0, p0, q0, hargs, rfl, rfl, h0, r0⟩ := trodAll_cons hA
  obtain ⟨v1, vs1, d1, ds1, p1, q1, rfl, rfl, rfl, h1, r1⟩ := trodAll_cons r0
  obtain ⟨v2, vs2, d2, ds2, p2, q2, rfl, rfl, rfl, h2, r2⟩ := trodAll_cons r1
  obtain ⟨rfl, rfl, rfl⟩ := trodAll_nil r2
  obtain rfl : args = #[v0, v1, v2] := by cases args; simp_all
  obtain ⟨rfl, rfl⟩ := trodVars_none hV
  have k0 := h0
  have lt0 : ∀ x ∈ p0, x.block < W.heap.size := by obtain ⟨m, hm⟩ := k0; exact DataW.trod_lt m _ _ _ hm
  obtain ⟨a0, rfl, rfl, rfl, w0⟩ := open_int Try.underlying3 (hval 0 3 v0 rfl rfl) h0
  have k1 := h1
  have lt1 : ∀ x ∈ p1, x.block < W.heap.size := by obtain ⟨m, hm⟩ := k1; exact DataW.trod_lt m _ _ _ hm
  obtain ⟨a1, rfl, rfl, rfl, w1⟩ := open_int Try.underlying3 (hval 1 3 v1 rfl rfl) h1
  have k2 := h2
  have lt2 : ∀ x ∈ p2, x.block < W.heap.size := by obtain ⟨m, hm⟩ := k2; exact DataW.trod_lt m _ _ _ hm
  obtain ⟨a2, len2, cap2, rfl⟩ := okWide_slice Try.underlying24 (hval 2 24 v2 rfl rfl)
  obtain ⟨z2, w2⟩ : ∃ zs, IsRow .u8 W a2 len2 cap2 zs := by
    obtain ⟨fuel, hf⟩ := h2
    rcases open_ints Try.underlying24 Try.underlying5 (by kernel_rfl) hf with ⟨hcs, _⟩ | ⟨x, l, c, zs, hcs, _, hl, hm, hz, _, hcell, hwz⟩
    · simp [Value.cells] at hcs
      obtain ⟨rfl, rfl, rfl⟩ := hcs
      exact ⟨[], .inl ⟨rfl, rfl, rfl, rfl⟩⟩
    · simp [Value.cells] at hcs
      obtain ⟨rfl, rfl, rfl⟩ := hcs
      exact ⟨zs, .inr ⟨_, rfl, hl, hm, by simpa using hz, hcell, hwz⟩⟩
  clear hA0 hval0
  refine (walk a0 a1 a2 len2 cap2 z2 W (bounds_i64 w0) (bounds_i64 w1) w2).mono fun e W' ⟨he, bel⟩ => ?_
  subst he
  exact ⟨_, rfl, _, _, _, [], _, [], hW', trodAll_mk1 (shut_bool Try.underlying4 _), (trodAll_cons_mk (Below.trod laidOut (by kernel_rfl) (of_decide_eq_true (by kernel_rfl)) k0 bel lt0) (trodAll_cons_mk (Below.trod laidOut (by kernel_rfl) (of_decide_eq_true (by kernel_rfl)) k1 bel lt1) (trodAll_cons_mk (Below.trod laidOut (by kernel_rfl) (of_decide_eq_true (by kernel_rfl)) k2 bel lt2) trodAll_mk0))), rfl, bel.frame _, fun h => by cases h⟩
theorem over : Rows.replyReadsRow.holds Try.pinned (OpenSpec.ofChange Rows.replyReadsSpec) :=
  OpenClaim.holds_of_wide 7 Try.f7 rfl rfl rfl rfl rfl rfl rfl ⟨rfl, rfl, rfl, rfl, rfl⟩ rfl rfl rfl rfl rfl (by kernel_rfl) Try.func7 (by kernel_rfl)
    (of_decide_eq_true (by kernel_rfl)) (by unfold Func.isWrapper; first | (rw [if_pos (by decide +kernel)]; kernel_rfl) | (rw [if_neg (by decide +kernel)]; exact ⟨rfl, rfl⟩))
    (fun os started H enc _ => lifted os started H enc)
/-- The statement. -/
theorem proved : Rows.ReplyReadsSaid := over
#print axioms proved
end Go.Proofs.Ytmapcdmegkfheaa.replyReads
