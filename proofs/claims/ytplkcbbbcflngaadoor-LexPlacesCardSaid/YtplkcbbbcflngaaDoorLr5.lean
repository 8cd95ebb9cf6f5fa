/- lex: what must come of fixed calls. -/
import Derived.Test.YtplkcbbbcflngaaDoorLr4
namespace Go.Proofs.YtplkcbbbcflngaaDoor
set_option linter.unusedVariables false
set_option linter.unusedSimpArgs false
open Go.RowKit
theorem eq_faultV (a b c : Int) (w : World) : (Op.equalIn 10000 27 (.agg #[.int .i64 a, .int .i64 b, .int .i64 c]) (.agg #[.int .i64 a, .int .i64 b, .int .i64 c])).run Tryd.prog w = .ok true w := by
  have u3 := Tryd.underlying3
  have a3 := Tryd.isAgg3
  have z3 := Tryd.sizeOf3
  have hS : Tryd.prog.underlying 27 = some (.struct (Tryd.prog.fieldsOf 27)) := by kernel_rfl
  have hp : Tryd.prog.stoodInHeld 27 = false := by kernel_rfl
  rw [show (10000 : Nat) = 9999 + 1 from rfl, run_equalIn_agg w 9999 27 _ _ hS hp]
  simp only [Program.fieldsOf, Tryd.underlying27]
  go_simp
attribute [local go_sem] eq_faultV
theorem at_map {α β : Type} {f : α → β} {L : List α} {M : List β} (h : L.map f = M) {i : Nat} {y : β} (hy : M[i]? = some y) : ∃ x, L[i]? = some x ∧ f x = y := by
  rw [← h, List.getElem?_map] at hy
  exact Option.map_eq_some_iff.1 hy
set_option maxRecDepth 100000 in
set_option maxHeartbeats 4000000 in
theorem known_any (w : World) (hV : Vs w) : Calls Tryd.prog 13 #[] w fun e w' => e = .returned (.bool true) ∧ Below w.heap.size w w' := by
  have HTA := Lib.hid (tokens_any kA w hV (by decide))
  have HTB := Lib.hid (fun W hW => tokens_any kB W hW (by decide))
  have HTC := Lib.hid (fun W hW => tokens_any kC W hW (by decide))
  have eA : bs kA = ⟨#[114, 111, 108, 101, 32, 110, 117, 114, 115, 101, 32, 61, 32, 51, 59]⟩ := rfl
  have eB : bs kB = ⟨#[32, 48, 48, 55]⟩ := rfl
  have eC : bs kC = ⟨#[49, 46, 46, 52]⟩ := rfl
  rw [eA] at HTA; rw [eB] at HTB; rw [eC] at HTC
  clear eA eB eC
  unfold TokensP at HTA HTB HTC
  rw [kA_toks.2] at HTA
  rw [kB_toks.1, kB_toks.2] at HTB
  rw [kC_toks.2] at HTC
  have HMA := Lib.hid kA_toks.1
  have HLC := Lib.hid kC_toks.1
  have HV := Lib.hid hV
  clear hV
  generalize (toks kA).1 = LA at *
  generalize flP (toks kA).2 = pA at *
  generalize (toks kB).1 = LB at *
  generalize (toks kC).1 = LC at *
  generalize flP (toks kC).2 = pC at *
  go_enter Tryd.func13, Tryd.ntmps13
  go_wp2_with fail
  refine HTA.out.mono ?_
  rintro e w1 ⟨v1, rfl, hown1, hb1, hf1⟩
  obtain ⟨A1, c1, rfl, hle1, hm1⟩ := hown1.slice
  have ha1 := fault_below w1 #[.int .i64 0, .int .i64 pA.1, .int .i64 pA.2]
  have HB1 := Lib.hid (below_trans hb1 ha1)
  have HOW1 := Lib.hid (hown1.below ha1)
  have HF1 := Lib.hid (Blk.new w1 27 #[.int .i64 0, .int .i64 pA.1, .int .i64 pA.2])
  have HV1 := Lib.hid (HV.out.below HB1.out)
  clear hown1 hb1 hf1 ha1 hle1 hm1 HTA
  go_upto_region 2 with fail
  generalize hq1 : w1.heap.size = q1 at *
  generalize (w1.alloc (.cells #[.int .i64 0, .int .i64 pA.1, .int .i64 pA.2] 27)) = W1 at *
  have HTB1 := Lib.hid (HTB.out W1 HV1.out)
  go_wp2_with fail
  refine HTB1.out.mono ?_
  rintro e w2 ⟨v2, rfl, hown2, hb2, hf2⟩
  obtain ⟨A2, c2, rfl, hle2, hm2⟩ := hown2.slice
  have ha2 := fault_below w2 #[.int .i64 10, .int .i64 1, .int .i64 2]
  have hbb2 := below_trans hb2 ha2
  have HB2 := Lib.hid (below_trans HB1.out hbb2)
  have HOW2 := Lib.hid (HOW1.out.below hbb2)
  have HF12 := Lib.hid (HF1.out.thru0 hbb2)
  have HF2 := Lib.hid (Blk.new w2 27 #[.int .i64 10, .int .i64 1, .int .i64 2])
  have HV2 := Lib.hid (HV1.out.below hbb2)
  clear hown2 hb2 hf2 ha2 hle2 hm2 hbb2 HTB HTB1 HB1 HOW1 HF1 HV1
  go_upto_region 3 with fail
  generalize hq2 : w2.heap.size = q2 at *
  generalize (w2.alloc (.cells #[.int .i64 10, .int .i64 1, .int .i64 2] 27)) = W2 at *
  have HTC1 := Lib.hid (HTC.out W2 HV2.out)
  go_wp2_with fail
  refine HTC1.out.mono ?_
  rintro e w3 ⟨v3, rfl, hown3, hb3, hf3⟩
  obtain ⟨A3, c3, rfl, hle3, hm3⟩ := hown3.slice
  have ha3 := fault_below w3 #[.int .i64 0, .int .i64 pC.1, .int .i64 pC.2]
  have hbb3 := below_trans hb3 ha3
  have HB3 := Lib.hid (below_trans HB2.out hbb3)
  have HOW3 := Lib.hid (HOW2.out.below hbb3)
  have HF13 := Lib.hid (HF12.out.thru0 hbb3)
  have HF23 := Lib.hid (HF2.out.thru0 hbb3)
  have HF3 := Lib.hid (Blk.new w3 27 #[.int .i64 0, .int .i64 pC.1, .int .i64 pC.2])
  clear hown3 hb3 hf3 ha3 hle3 hm3 hbb3 HTC HTC1 HB2 HOW2 HF12 HF2 HV2
  go_upto_region 4 with fail
  generalize hq3 : w3.heap.size = q3 at *
  generalize (w3.alloc (.cells #[.int .i64 0, .int .i64 pC.1, .int .i64 pC.2] 27)) = W3 at *
  have hl5 : LA.length = 5 := by have := congrArg List.length HMA.out; simpa using this
  have hl3 : LC.length = 3 := HLC.out
  obtain ⟨x0, i0, e0⟩ := at_map HMA.out (i := 0) rfl
  obtain ⟨x1, i1, e1⟩ := at_map HMA.out (i := 1) rfl
  obtain ⟨x3, i3, e3⟩ := at_map HMA.out (i := 3) rfl
  simp only [Prod.mk.injEq] at e0 e1 e3
  obtain ⟨_, g, rfl, hc0⟩ := EOwn.cell elT_ok HOW3.out i0
  obtain ⟨_, g1, eg1, hc1⟩ := EOwn.cell elT_ok HOW3.out i1
  obtain ⟨_, g3, eg3, hc3⟩ := EOwn.cell elT_ok HOW3.out i3
  have d0 : W3.cell? ⟨g, 0, none⟩ = some (.int .i64 2) := by rw [← e0.1]; simpa [elT] using hc0 0 _ rfl
  have d1 : W3.cell? ⟨g, 5, none⟩ = some (.int .i64 1) := by
    obtain rfl : g = g1 := by simpa using eg1
    rw [← e1.1]; simpa [elT] using hc1 0 _ rfl
  have d3 : W3.cell? ⟨g, 17, none⟩ = some (.int .i64 3) := by
    obtain rfl : g = g3 := by simpa using eg3
    rw [← e3.2]; simpa [elT] using hc3 2 _ rfl
  have f0 : W3.cell? ⟨q1, 0, none⟩ = some (.int .i64 0) := HF13.out.cell 0
  have f1 : W3.cell? ⟨q2, 0, none⟩ = some (.int .i64 10) := HF23.out.cell 0
  have f2 : W3.cell? ⟨q2, 1, none⟩ = some (.int .i64 1) := HF23.out.cell 1
  have f3 : W3.cell? ⟨q2, 2, none⟩ = some (.int .i64 2) := HF23.out.cell 2
  have f4 : W3.cell? ⟨q3, 0, none⟩ = some (.int .i64 0) := HF3.out.cell 0
  clear hc0 hc1 hc3 eg1 eg3 e0 e1 e3 i0 i1 i3 HOW3 HMA HLC
  rw [hl5, hl3]
  go_wp2
  go_ret
  exact ⟨rfl, HB3.out⟩
end Go.Proofs.YtplkcbbbcflngaaDoor
