/- LexBack, the walk. -/
import Derived.Test.YtplkcbbbcflngaaDoorLrJoin
namespace Go.Proofs.YtplkcbbbcflngaaDoor
set_option linter.unusedVariables false
set_option linter.unusedSimpArgs false
open Go.RowKit
set_option maxRecDepth 100000 in
set_option maxHeartbeats 4000000 in
theorem lexBack_walk (l : Bs) (w : World) (hV : Vs w) (hl : l.length ≤ 9223372036854775807) : Calls Tryd.prog 4 #[.string (bs l)] w fun e w' => e = .returned (.bool true) ∧ Below w.heap.size w w' := by
  have HV := Lib.hid hV
  have HT := Lib.hid (tokens_any l w hV hl)
  have HG := Lib.hid (toks_good l)
  have HFW := Lib.hid (toks_few l)
  have HSH := Lib.hid (toks_shape l)
  have HFN := Lib.hid (fun f h => @fl_ne l f h)
  have HTR := Lib.hid (toks_trip [32] rfl skip_blank (toks l).1 (toks_good l))
  have HT2 := Lib.hid (fun W hW (h : (jnX [32] (toks l).1).length ≤ 9223372036854775807) => tokens_any (jnX [32] (toks l).1) W hW h)
  have e32 : bs [32] = ⟨#[32]⟩ := rfl
  have HJ := Lib.hid (fun A c W h => joined_any A c (toks l).1 [32] W h (toks_few l) (by have := jn_len [32] (toks l).1 (toks_good l); have := toks_few l; simp only [List.length_singleton] at *; omega))
  rw [e32] at HJ
  unfold TokensP at HT HT2
  clear hV e32
  generalize toks l = R at *
  go_enter Tryd.func4, Tryd.ntmps4
  go_wp2_with fail
  refine HT.out.mono ?_
  rintro e w1 ⟨v1, rfl, hown1, hb1, hf1⟩
  obtain ⟨A1, c1, rfl, hle1, hm1⟩ := hown1.slice
  have ha1 := fault_below w1 #[.int .i64 (flE R.2), .int .i64 (flP R.2).1, .int .i64 (flP R.2).2]
  have HB1 := Lib.hid (below_trans hb1 ha1)
  have HOW1 := Lib.hid (hown1.below ha1)
  have HF1 := Lib.hid (Blk.new w1 27 #[.int .i64 (flE R.2), .int .i64 (flP R.2).1, .int .i64 (flP R.2).2])
  have HV1 := Lib.hid (HV.out.below HB1.out)
  clear hown1 hb1 hf1 ha1 hle1 hm1 HT
  go_upto_region 2 with fail
  generalize hq1 : w1.heap.size = q1 at *
  generalize (w1.alloc (.cells #[.int .i64 (flE R.2), .int .i64 (flP R.2).1, .int .i64 (flP R.2).2] 27)) = W1 at *
  have f0 : W1.cell? ⟨q1, 0, none⟩ = some (.int .i64 (flE R.2)) := HF1.out.cell 0
  have HJ1 := Lib.hid (HJ.out A1 c1 W1 HOW1.out)
  obtain ⟨L, f⟩ := R
  simp only at *
  have hjs : ((bs (jnX [32] L)).size : Int) = ((jnX [32] L).length : Int) := by rw [bs_size]
  go_wp2_with fail
  refine HJ1.out.mono ?_
  rintro e w9 ⟨rfl, hw9⟩
  subst hw9
  clear HJ HJ1
  cases f with
  | some fl =>
    have hL : L = [] := by
      rcases HSH.out with h | h
      · cases h
      · exact h
    subst hL
    have hfe : (flE (some fl) == 0) = false := beq_eq_false_iff_ne.2 (HFN.out fl rfl)
    clear HSH HFN HTR HT2 HOW1 HF1 HG HFW
    generalize flE (some fl) = fe at *
    have hne : (fe != 0) = true := by simp [bne, hfe]
    go_wp2_with fail
    refine (known_any _ HV1.out).mono ?_
    rintro e w6 ⟨rfl, hb6⟩
    have HB6 := Lib.hid (below_trans HB1.out hb6)
    clear hb6
    go_wp2
    go_ret
    exact ⟨by simp, HB6.out⟩
  | none =>
    have hfe : (flE none : Int) = 0 := rfl
    rw [hfe] at f0
    clear HSH HFN HF1 hfe
    by_cases h512 : 512 < (jnX [32] L).length
    · have hgt : (512 : Int) < ((jnX [32] L).length : Int) := by omega
      clear HTR HT2 HOW1 HG HFW
      go_wp2_with fail
      refine (known_any _ HV1.out).mono ?_
      rintro e w6 ⟨rfl, hb6⟩
      have HB6 := Lib.hid (below_trans HB1.out hb6)
      clear hb6
      go_wp2
      go_ret
      exact ⟨by simp, HB6.out⟩
    · have hgt : ((jnX [32] L).length : Int) ≤ 512 := by omega
      obtain ⟨g1, g2⟩ := HTR.out (by omega)
      have HTT := Lib.hid (HT2.out W1 HV1.out (by omega))
      rw [g1] at HTT
      have HG2 := Lib.hid g2
      clear HTR HT2 g1 g2 HG
      generalize (toks (jnX [32] L)).1 = M at *
      go_wp2_with fail
      refine HTT.out.mono ?_
      rintro e w2 ⟨v2, rfl, hown2, hb2, hf2⟩
      obtain ⟨A2, c2, rfl, hle2, hm2⟩ := hown2.slice
      have ha2 := fault_below w2 #[.int .i64 0, .int .i64 0, .int .i64 0]
      have hbb2 := below_trans hb2 ha2
      have HB2 := Lib.hid (below_trans HB1.out hbb2)
      have HOW12 := Lib.hid (HOW1.out.below hbb2)
      have HOW2 := Lib.hid (hown2.below ha2)
      have HV2 := Lib.hid (HV1.out.below hbb2)
      have HF2 := Lib.hid (Blk.new w2 27 #[.int .i64 0, .int .i64 0, .int .i64 0])
      clear hown2 hb2 hf2 ha2 hle2 hm2 hbb2 HTT HB1 HOW1 HV1 f0
      have z1 : flE none = 0 := rfl
      have z2 : flP none = (0, 0) := rfl
      rw [z1, z2]
      simp only
      go_upto_region 6 with fail
      generalize hq2 : w2.heap.size = q2 at *
      generalize (w2.alloc (.cells #[.int .i64 0, .int .i64 0, .int .i64 0] 27)) = W2 at *
      have f2 : W2.cell? ⟨q2, 0, none⟩ = some (.int .i64 0) := HF2.out.cell 0
      have hml : M.length = L.length := by have := congrArg List.length HG2.out; simpa using this
      rw [hml] at HOW2
      have HSM := Lib.hid (same2_any A1 A2 c1 c2 L M HG2.out.symm W2 HOW12.out (by rw [hml]; exact HOW2.out) HFW.out)
      rw [hml]
      go_wp2_with fail
      refine HSM.out.mono ?_
      rintro e w3 ⟨rfl, hb3⟩
      have HB3 := Lib.hid (below_trans HB2.out hb3)
      have HV3 := Lib.hid (HV2.out.below hb3)
      clear hb3
      go_wp2_with fail
      refine (known_any _ HV3.out).mono ?_
      rintro e w6 ⟨rfl, hb6⟩
      have HB6 := Lib.hid (below_trans HB3.out hb6)
      clear hb6
      go_wp2
      go_ret
      exact ⟨by simp, HB6.out⟩
end Go.Proofs.YtplkcbbbcflngaaDoor
