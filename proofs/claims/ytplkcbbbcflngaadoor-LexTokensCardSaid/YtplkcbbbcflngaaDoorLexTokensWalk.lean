/- LexTokens, the walk. -/
import Derived.Test.YtplkcbbbcflngaaDoorLr5
import Derived.Test.YtplkcbbbcflngaaDoorLr9
import Derived.Test.YtplkcbbbcflngaaDoorLrEnd
import Derived.Test.YtplkcbbbcflngaaDoorLrSame
namespace Go.Proofs.YtplkcbbbcflngaaDoor
set_option linter.unusedVariables false
set_option linter.unusedSimpArgs false
open Go.RowKit
attribute [local go_sem] eq_faultV ne_posV
set_option maxRecDepth 100000 in
set_option maxHeartbeats 4000000 in
theorem lexTokens_walk (s : ByteArray) (w : World) (hV : Vs w) (hl : s.size ≤ 140737488355328) : Calls Tryd.prog 3 #[.string s] w fun e w' => e = .returned (.bool true) ∧ Below w.heap.size w w' := by
  have HV := Lib.hid hV
  have hln : s.data.toList.length = s.size := rfl
  have HT := Lib.hid (tokens_any s.data.toList w hV (by rw [hln]; omega))
  have HR := Lib.hid (fun W => rtokens_any s W hl)
  rw [bs_self] at HT
  have HE := Lib.hid (fun W => end_any s W hl)
  have HP := Lib.hid (fun W => place_any s s.size W hl (Nat.le_refl _))
  have htk : s.data.toList.take s.size = s.data.toList := List.take_of_length_le (by rw [hln]; exact Nat.le_refl _)
  rw [htk] at HP
  have HLN := Lib.hid (show (toks s.data.toList).1.length ≤ 1000000 from toks_few _)
  unfold TokensP at HT HR
  clear hV htk hln
  generalize (toks s.data.toList).1 = L at *
  generalize flE (toks s.data.toList).2 = fe at *
  generalize flP (toks s.data.toList).2 = fp at *
  generalize advs (1, 1) s.data.toList = pe at *
  go_enter Tryd.func3, Tryd.ntmps3
  go_wp2_with fail
  refine HT.out.mono ?_
  rintro e w1 ⟨v1, rfl, hown1, hb1, hf1⟩
  obtain ⟨A1, c1, rfl, hle1, hm1⟩ := hown1.slice
  have ha1 := fault_below w1 #[.int .i64 fe, .int .i64 fp.1, .int .i64 fp.2]
  have HB1 := Lib.hid (below_trans hb1 ha1)
  have HOW1 := Lib.hid (hown1.below ha1)
  have HF1 := Lib.hid (Blk.new w1 27 #[.int .i64 fe, .int .i64 fp.1, .int .i64 fp.2])
  clear hown1 hb1 hf1 ha1 hle1 hm1 HT
  go_upto_region 2 with fail
  generalize hq1 : w1.heap.size = q1 at *
  generalize (w1.alloc (.cells #[.int .i64 fe, .int .i64 fp.1, .int .i64 fp.2] 27)) = W1 at *
  go_wp2_with fail
  refine (HR.out _).mono ?_
  rintro e w2 ⟨v2, rfl, hown2, hb2, hf2⟩
  obtain ⟨A2, c2, rfl, hle2, hm2⟩ := hown2.slice
  have ha2 := fault_below w2 #[.int .i64 fe, .int .i64 fp.1, .int .i64 fp.2]
  have hbb2 := below_trans hb2 ha2
  have HB2 := Lib.hid (below_trans HB1.out hbb2)
  have HOW12 := Lib.hid (HOW1.out.below hbb2)
  have HF12 := Lib.hid (HF1.out.thru0 hbb2)
  have HOW2 := Lib.hid (hown2.below ha2)
  have HF2 := Lib.hid (Blk.new w2 27 #[.int .i64 fe, .int .i64 fp.1, .int .i64 fp.2])
  clear hown2 hb2 hf2 ha2 hle2 hm2 hbb2 HR HB1 HOW1 HF1
  go_upto_region 3 with fail
  generalize hq2 : w2.heap.size = q2 at *
  generalize (w2.alloc (.cells #[.int .i64 fe, .int .i64 fp.1, .int .i64 fp.2] 27)) = W2 at *
  have HSM := Lib.hid (same_any A1 A2 c1 c2 L W2 HOW12.out HOW2.out HLN.out)
  go_wp2_with fail
  refine HSM.out.mono ?_
  rintro e w3 ⟨rfl, hb3⟩
  have HB3 := Lib.hid (below_trans HB2.out hb3)
  have HF13 := Lib.hid (HF12.out.thru0 hb3)
  have HF23 := Lib.hid (HF2.out.thru0 hb3)
  clear hb3 HB2 HF12 HF2 HOW12 HOW2 HSM HLN
  have x0 : w3.cell? ⟨q1, 0, none⟩ = some (.int .i64 fe) := HF13.out.cell 0
  have x1 : w3.cell? ⟨q1, 1, none⟩ = some (.int .i64 fp.1) := HF13.out.cell 1
  have x2 : w3.cell? ⟨q1, 2, none⟩ = some (.int .i64 fp.2) := HF13.out.cell 2
  have y0 : w3.cell? ⟨q2, 0, none⟩ = some (.int .i64 fe) := HF23.out.cell 0
  have y1 : w3.cell? ⟨q2, 1, none⟩ = some (.int .i64 fp.1) := HF23.out.cell 1
  have y2 : w3.cell? ⟨q2, 2, none⟩ = some (.int .i64 fp.2) := HF23.out.cell 2
  go_wp2_with fail
  refine (HE.out _).mono ?_
  rintro e w4 ⟨rfl, hb4⟩
  have HB4 := Lib.hid (below_trans HB3.out hb4)
  clear hb4 HB3
  go_wp2_with fail
  refine (HP.out _).mono ?_
  rintro e w5 ⟨rfl, hb5⟩
  have HB5 := Lib.hid (below_trans HB4.out hb5)
  clear hb5 HB4
  have HV5 := Lib.hid (HV.out.below HB5.out)
  go_wp2_with fail
  refine (known_any _ HV5.out).mono ?_
  rintro e w6 ⟨rfl, hb6⟩
  have HB6 := Lib.hid (below_trans HB5.out hb6)
  clear hb6
  go_wp2
  go_ret
  exact ⟨rfl, HB6.out⟩
end Go.Proofs.YtplkcbbbcflngaaDoor
