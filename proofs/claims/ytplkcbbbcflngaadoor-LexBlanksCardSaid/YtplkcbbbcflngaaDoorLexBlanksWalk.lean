/- LexBlanks, the walk. -/
import Derived.Test.YtplkcbbbcflngaaDoorLrTrip2
namespace Go.Proofs.YtplkcbbbcflngaaDoor
set_option linter.unusedVariables false
set_option linter.unusedSimpArgs false
open Go.RowKit
/-- What is between two tokens. -/
structure Btw (b : Bs) : Prop where
  bl : on isBl b = true
  skip : ∀ (x : Bs) (p : Pl), on isBl x = false → nx x ≠ 35 → (skp false (b ++ x) p).1 = x
  len : b.length ≤ 30
def remB : Bs := [10, 35, 32, 97, 32, 114, 101, 109, 97, 114, 107, 44, 32, 114, 111, 108, 101, 32, 110, 117, 114, 115, 101, 32, 61, 32, 51, 59, 10]
theorem btw_rem : Btw remB := by
  refine ⟨rfl, fun x p h1 h2 => ?_, by decide⟩
  exact skip_remark [32] [32, 97, 32, 114, 101, 109, 97, 114, 107, 44, 32, 114, 111, 108, 101, 32, 110, 117, 114, 115, 101, 32, 61, 32, 51, 59] x (by decide) p h1 h2
def blB (m : Nat) : Bs := List.replicate m 32 ++ [10]
theorem btw_bl (m : Nat) (h : m < 9) : Btw (blB m) := by
  refine ⟨?_, fun x p h1 h2 => ?_, by simp [blB]; omega⟩
  · cases m with
    | zero => rfl
    | succ m => rfl
  · refine skip_bls (blB m) x ?_ p h1 h2
    intro c hc
    simp only [blB, List.mem_append, List.mem_replicate, List.mem_singleton] at hc
    rcases hc with ⟨_, rfl⟩ | rfl <;> rfl
theorem skip_end (p : Pl) : (skp false [32, 35] p).1 = [] := rfl
theorem ends_end : Ends [32, 35] := .inr rfl
set_option maxRecDepth 100000 in
set_option maxHeartbeats 4000000 in
theorem lexBlanks_walk (l : Bs) (m : Int) (w : World) (hV : Vs w) (hl : l.length ≤ 9223372036854775807) (hm : -9223372036854775808 ≤ m ∧ m ≤ 9223372036854775807) : Calls Tryd.prog 5 #[.string (bs l), .int .i64 m] w fun e w' => e = .returned (.bool true) ∧ Below w.heap.size w w' := by
  have HV := Lib.hid hV
  have HT := Lib.hid (tokens_any l w hV hl)
  have HG := Lib.hid (toks_good l)
  have HFW := Lib.hid (toks_few l)
  have HSH := Lib.hid (toks_shape l)
  have HFN := Lib.hid (fun f h => @fl_ne l f h)
  unfold TokensP at HT
  clear hV
  generalize toks l = R at *
  go_enter Tryd.func5, Tryd.ntmps5
  go_wp2_with fail
  refine HT.out.mono ?_
  rintro e w1 ⟨v1, rfl, hown1, hb1, hf1⟩
  obtain ⟨A1, c1, rfl, hle1, hm1⟩ := hown1.slice
  have ha1 := fault_below w1 #[.int .i64 (flE R.2), .int .i64 (flP R.2).1, .int .i64 (flP R.2).2]
  have HB1 := Lib.hid (below_trans hb1 ha1)
  have HOW1 := Lib.hid (hown1.below ha1)
  have HF1 := Lib.hid (Blk.new w1 27 #[.int .i64 (flE R.2), .int .i64 (flP R.2).1, .int .i64 (flP R.2).2])
  have HV1 := Lib.hid (HV.out.below HB1.out)
  clear hown1 hb1 hf1 ha1 hle1 hm1 HT
  go_upto_region 2 with fail
  generalize hq1 : w1.heap.size = q1 at *
  generalize (w1.alloc (.cells #[.int .i64 (flE R.2), .int .i64 (flP R.2).1, .int .i64 (flP R.2).2] 27)) = W1 at *
  have f0 : W1.cell? ⟨q1, 0, none⟩ = some (.int .i64 (flE R.2)) := HF1.out.cell 0
  obtain ⟨L, f⟩ := R
  simp only at *
  have hkind : (m ≤ 0) ∨ (0 < m ∧ 9 ≤ m) ∨ (0 < m ∧ m < 9) := by omega
  rcases hkind with h0 | ⟨h0, h9⟩ | ⟨h0, h9⟩
  · go_upto_region 5 with fail
    obtain ⟨b, hb, hbv⟩ : ∃ b, Btw b ∧ (⟨#[10, 35, 32, 97, 32, 114, 101, 109, 97, 114, 107, 44, 32, 114, 111, 108, 101, 32, 110, 117, 114, 115, 101, 32, 61, 32, 51, 59, 10]⟩ : ByteArray) = bs b := ⟨remB, btw_rem, rfl⟩
    rw [hbv]
    clear hbv h0
    have HJ1 := Lib.hid (joined_any A1 c1 L b W1 HOW1.out HFW.out (by have h1 := jn_len b L HG.out; have h2 := HFW.out; have h3 := hb.len; have h4 : L.length * (16 + b.length) ≤ 1000000 * 46 := Nat.mul_le_mul h2 (by omega); omega))
    have HTR := Lib.hid (toks_trip2 b hb.bl hb.skip [32, 35] ends_end skip_end L HG.out)
    have hjs : ((bs (jnX b L)).size : Int) = ((jnX b L).length : Int) := by rw [bs_size]
    have hjb : (jnX b L).length ≤ 1000000000 := by have h1 := jn_len b L HG.out; have h2 := HFW.out; have h3 := hb.len; have h4 : L.length * (16 + b.length) ≤ 1000000 * 46 := Nat.mul_le_mul h2 (by omega); omega
    have hsz2 : ¬ 9223372036854775807 < (bs (jnX b L)).size + (⟨#[32, 35]⟩ : ByteArray).size := by
      rw [bs_size]
      show ¬ 9223372036854775807 < (jnX b L).length + 2
      omega
    clear hb HG
    go_wp2_with fail
    refine HJ1.out.mono ?_
    rintro e w9 ⟨rfl, hw9⟩
    subst hw9
    clear HJ1
    cases f with
    | some fl =>
      have hL : L = [] := by
        rcases HSH.out with h | h
        · cases h
        · exact h
      subst hL
      have hfe : (flE (some fl) == 0) = false := beq_eq_false_iff_ne.2 (HFN.out fl rfl)
      clear HSH HFN HTR HOW1 HF1 HFW
      generalize flE (some fl) = fe at *
      have hne : (fe != 0) = true := by simp [bne, hfe]
      go_wp2_with fail
      refine (known_any _ HV1.out).mono ?_
      rintro e w6 ⟨rfl, hb6⟩
      have HB6 := Lib.hid (below_trans HB1.out hb6)
      clear hb6
      go_wp2
      go_ret
      exact ⟨by simp, HB6.out⟩
    | none =>
      have hfe : (flE none : Int) = 0 := rfl
      rw [hfe] at f0
      clear HSH HFN HF1 hfe
      by_cases h512 : 512 < (jnX b L).length
      · have hgt : (512 : Int) < ((jnX b L).length : Int) := by omega
        clear HTR HOW1
        go_wp2_with fail
        refine (known_any _ HV1.out).mono ?_
        rintro e w6 ⟨rfl, hb6⟩
        have HB6 := Lib.hid (below_trans HB1.out hb6)
        clear hb6
        go_wp2
        go_ret
        exact ⟨by simp, HB6.out⟩
      · have hgt : ((jnX b L).length : Int) ≤ 512 := by omega
        have hta : bs (jnX b L) ++ ⟨#[32, 35]⟩ = bs (jnX b L ++ [32, 35]) := bs_app (jnX b L) [32, 35]
        have hln : (jnX b L ++ [32, 35]).length = (jnX b L).length + 2 := by simp
        have HTT := Lib.hid (tokens_any (jnX b L ++ [32, 35]) W1 HV1.out (by omega))
        unfold TokensP at HTT
        by_cases h510 : 510 < (jnX b L).length
        · have hg2 : (510 : Int) < ((jnX b L).length : Int) := by omega
          have hto : toks (jnX b L ++ [32, 35]) = ([], some (2, (1, 1))) := by unfold toks; rw [if_pos (by omega)]
          rw [hto] at HTT
          clear HTR hto
          go_wp2_with fail
          refine HTT.out.mono ?_
          rintro e w2 ⟨v2, rfl, hown2, hb2, hf2⟩
          obtain ⟨A2, c2, rfl, hle2, hm2⟩ := hown2.slice
          have ha2 := fault_below w2 #[.int .i64 2, .int .i64 1, .int .i64 1]
          have hbb2 := below_trans hb2 ha2
          have HB2 := Lib.hid (below_trans HB1.out hbb2)
          have HV2 := Lib.hid (HV1.out.below hbb2)
          have HF2 := Lib.hid (Blk.new w2 27 #[.int .i64 2, .int .i64 1, .int .i64 1])
          clear hown2 hb2 hf2 ha2 hle2 hm2 hbb2 HTT HB1 HOW1 HV1 f0
          have z1 : flE (some (2, ((1 : Int), (1 : Int)))) = 2 := rfl
          have z2 : flP (some ((2 : Int), ((1 : Int), (1 : Int)))) = (1, 1) := rfl
          rw [z1, z2]
          simp only
          go_upto_region 9 with fail
          generalize hq2 : w2.heap.size = q2 at *
          generalize (w2.alloc (.cells #[.int .i64 2, .int .i64 1, .int .i64 1] 27)) = W2 at *
          have f2 : W2.cell? ⟨q2, 0, none⟩ = some (.int .i64 2) := HF2.out.cell 0
          go_wp2_with fail
          refine (known_any _ HV2.out).mono ?_
          rintro e w6 ⟨rfl, hb6⟩
          have HB6 := Lib.hid (below_trans HB2.out hb6)
          clear hb6
          go_wp2
          go_ret
          exact ⟨by simp, HB6.out⟩
        · have hg2 : ((jnX b L).length : Int) ≤ 510 := by omega
          obtain ⟨g1, g2⟩ := HTR.out (by omega)
          rw [g1] at HTT
          have HG2 := Lib.hid g2
          clear HTR g1 g2
          generalize (toks (jnX b L ++ [32, 35])).1 = M at *
          go_wp2_with fail
          refine HTT.out.mono ?_
          rintro e w2 ⟨v2, rfl, hown2, hb2, hf2⟩
          obtain ⟨A2, c2, rfl, hle2, hm2⟩ := hown2.slice
          have ha2 := fault_below w2 #[.int .i64 0, .int .i64 0, .int .i64 0]
          have hbb2 := below_trans hb2 ha2
          have HB2 := Lib.hid (below_trans HB1.out hbb2)
          have HOW12 := Lib.hid (HOW1.out.below hbb2)
          have HOW2 := Lib.hid (hown2.below ha2)
          have HV2 := Lib.hid (HV1.out.below hbb2)
          have HF2 := Lib.hid (Blk.new w2 27 #[.int .i64 0, .int .i64 0, .int .i64 0])
          clear hown2 hb2 hf2 ha2 hle2 hm2 hbb2 HTT HB1 HOW1 HV1 f0
          have z1 : flE none = 0 := rfl
          have z2 : flP none = (0, 0) := rfl
          rw [z1, z2]
          simp only
          go_upto_region 9 with fail
          generalize hq2 : w2.heap.size = q2 at *
          generalize (w2.alloc (.cells #[.int .i64 0, .int .i64 0, .int .i64 0] 27)) = W2 at *
          have f2 : W2.cell? ⟨q2, 0, none⟩ = some (.int .i64 0) := HF2.out.cell 0
          have hml : M.length = L.length := by have := congrArg List.length HG2.out; simpa using this
          rw [hml] at HOW2
          have HSM := Lib.hid (same2_any A1 A2 c1 c2 L M HG2.out.symm W2 HOW12.out (by rw [hml]; exact HOW2.out) HFW.out)
          rw [hml]
          go_wp2_with fail
          refine HSM.out.mono ?_
          rintro e w3 ⟨rfl, hb3⟩
          have HB3 := Lib.hid (below_trans HB2.out hb3)
          have HV3 := Lib.hid (HV2.out.below hb3)
          clear hb3
          go_wp2_with fail
          refine (known_any _ HV3.out).mono ?_
          rintro e w6 ⟨rfl, hb6⟩
          have HB6 := Lib.hid (below_trans HB3.out hb6)
          clear hb6
          go_wp2
          go_ret
          exact ⟨by simp, HB6.out⟩
  · go_upto_region 5 with fail
    obtain ⟨b, hb, hbv⟩ : ∃ b, Btw b ∧ (⟨#[10, 35, 32, 97, 32, 114, 101, 109, 97, 114, 107, 44, 32, 114, 111, 108, 101, 32, 110, 117, 114, 115, 101, 32, 61, 32, 51, 59, 10]⟩ : ByteArray) = bs b := ⟨remB, btw_rem, rfl⟩
    rw [hbv]
    clear hbv h0 h9
    have HJ1 := Lib.hid (joined_any A1 c1 L b W1 HOW1.out HFW.out (by have h1 := jn_len b L HG.out; have h2 := HFW.out; have h3 := hb.len; have h4 : L.length * (16 + b.length) ≤ 1000000 * 46 := Nat.mul_le_mul h2 (by omega); omega))
    have HTR := Lib.hid (toks_trip2 b hb.bl hb.skip [32, 35] ends_end skip_end L HG.out)
    have hjs : ((bs (jnX b L)).size : Int) = ((jnX b L).length : Int) := by rw [bs_size]
    have hjb : (jnX b L).length ≤ 1000000000 := by have h1 := jn_len b L HG.out; have h2 := HFW.out; have h3 := hb.len; have h4 : L.length * (16 + b.length) ≤ 1000000 * 46 := Nat.mul_le_mul h2 (by omega); omega
    have hsz2 : ¬ 9223372036854775807 < (bs (jnX b L)).size + (⟨#[32, 35]⟩ : ByteArray).size := by
      rw [bs_size]
      show ¬ 9223372036854775807 < (jnX b L).length + 2
      omega
    clear hb HG
    go_wp2_with fail
    refine HJ1.out.mono ?_
    rintro e w9 ⟨rfl, hw9⟩
    subst hw9
    clear HJ1
    cases f with
    | some fl =>
      have hL : L = [] := by
        rcases HSH.out with h | h
        · cases h
        · exact h
      subst hL
      have hfe : (flE (some fl) == 0) = false := beq_eq_false_iff_ne.2 (HFN.out fl rfl)
      clear HSH HFN HTR HOW1 HF1 HFW
      generalize flE (some fl) = fe at *
      have hne : (fe != 0) = true := by simp [bne, hfe]
      go_wp2_with fail
      refine (known_any _ HV1.out).mono ?_
      rintro e w6 ⟨rfl, hb6⟩
      have HB6 := Lib.hid (below_trans HB1.out hb6)
      clear hb6
      go_wp2
      go_ret
      exact ⟨by simp, HB6.out⟩
    | none =>
      have hfe : (flE none : Int) = 0 := rfl
      rw [hfe] at f0
      clear HSH HFN HF1 hfe
      by_cases h512 : 512 < (jnX b L).length
      · have hgt : (512 : Int) < ((jnX b L).length : Int) := by omega
        clear HTR HOW1
        go_wp2_with fail
        refine (known_any _ HV1.out).mono ?_
        rintro e w6 ⟨rfl, hb6⟩
        have HB6 := Lib.hid (below_trans HB1.out hb6)
        clear hb6
        go_wp2
        go_ret
        exact ⟨by simp, HB6.out⟩
      · have hgt : ((jnX b L).length : Int) ≤ 512 := by omega
        have hta : bs (jnX b L) ++ ⟨#[32, 35]⟩ = bs (jnX b L ++ [32, 35]) := bs_app (jnX b L) [32, 35]
        have hln : (jnX b L ++ [32, 35]).length = (jnX b L).length + 2 := by simp
        have HTT := Lib.hid (tokens_any (jnX b L ++ [32, 35]) W1 HV1.out (by omega))
        unfold TokensP at HTT
        by_cases h510 : 510 < (jnX b L).length
        · have hg2 : (510 : Int) < ((jnX b L).length : Int) := by omega
          have hto : toks (jnX b L ++ [32, 35]) = ([], some (2, (1, 1))) := by unfold toks; rw [if_pos (by omega)]
          rw [hto] at HTT
          clear HTR hto
          go_wp2_with fail
          refine HTT.out.mono ?_
          rintro e w2 ⟨v2, rfl, hown2, hb2, hf2⟩
          obtain ⟨A2, c2, rfl, hle2, hm2⟩ := hown2.slice
          have ha2 := fault_below w2 #[.int .i64 2, .int .i64 1, .int .i64 1]
          have hbb2 := below_trans hb2 ha2
          have HB2 := Lib.hid (below_trans HB1.out hbb2)
          have HV2 := Lib.hid (HV1.out.below hbb2)
          have HF2 := Lib.hid (Blk.new w2 27 #[.int .i64 2, .int .i64 1, .int .i64 1])
          clear hown2 hb2 hf2 ha2 hle2 hm2 hbb2 HTT HB1 HOW1 HV1 f0
          have z1 : flE (some (2, ((1 : Int), (1 : Int)))) = 2 := rfl
          have z2 : flP (some ((2 : Int), ((1 : Int), (1 : Int)))) = (1, 1) := rfl
          rw [z1, z2]
          simp only
          go_upto_region 9 with fail
          generalize hq2 : w2.heap.size = q2 at *
          generalize (w2.alloc (.cells #[.int .i64 2, .int .i64 1, .int .i64 1] 27)) = W2 at *
          have f2 : W2.cell? ⟨q2, 0, none⟩ = some (.int .i64 2) := HF2.out.cell 0
          go_wp2_with fail
          refine (known_any _ HV2.out).mono ?_
          rintro e w6 ⟨rfl, hb6⟩
          have HB6 := Lib.hid (below_trans HB2.out hb6)
          clear hb6
          go_wp2
          go_ret
          exact ⟨by simp, HB6.out⟩
        · have hg2 : ((jnX b L).length : Int) ≤ 510 := by omega
          obtain ⟨g1, g2⟩ := HTR.out (by omega)
          rw [g1] at HTT
          have HG2 := Lib.hid g2
          clear HTR g1 g2
          generalize (toks (jnX b L ++ [32, 35])).1 = M at *
          go_wp2_with fail
          refine HTT.out.mono ?_
          rintro e w2 ⟨v2, rfl, hown2, hb2, hf2⟩
          obtain ⟨A2, c2, rfl, hle2, hm2⟩ := hown2.slice
          have ha2 := fault_below w2 #[.int .i64 0, .int .i64 0, .int .i64 0]
          have hbb2 := below_trans hb2 ha2
          have HB2 := Lib.hid (below_trans HB1.out hbb2)
          have HOW12 := Lib.hid (HOW1.out.below hbb2)
          have HOW2 := Lib.hid (hown2.below ha2)
          have HV2 := Lib.hid (HV1.out.below hbb2)
          have HF2 := Lib.hid (Blk.new w2 27 #[.int .i64 0, .int .i64 0, .int .i64 0])
          clear hown2 hb2 hf2 ha2 hle2 hm2 hbb2 HTT HB1 HOW1 HV1 f0
          have z1 : flE none = 0 := rfl
          have z2 : flP none = (0, 0) := rfl
          rw [z1, z2]
          simp only
          go_upto_region 9 with fail
          generalize hq2 : w2.heap.size = q2 at *
          generalize (w2.alloc (.cells #[.int .i64 0, .int .i64 0, .int .i64 0] 27)) = W2 at *
          have f2 : W2.cell? ⟨q2, 0, none⟩ = some (.int .i64 0) := HF2.out.cell 0
          have hml : M.length = L.length := by have := congrArg List.length HG2.out; simpa using this
          rw [hml] at HOW2
          have HSM := Lib.hid (same2_any A1 A2 c1 c2 L M HG2.out.symm W2 HOW12.out (by rw [hml]; exact HOW2.out) HFW.out)
          rw [hml]
          go_wp2_with fail
          refine HSM.out.mono ?_
          rintro e w3 ⟨rfl, hb3⟩
          have HB3 := Lib.hid (below_trans HB2.out hb3)
          have HV3 := Lib.hid (HV2.out.below hb3)
          clear hb3
          go_wp2_with fail
          refine (known_any _ HV3.out).mono ?_
          rintro e w6 ⟨rfl, hb6⟩
          have HB6 := Lib.hid (below_trans HB3.out hb6)
          clear hb6
          go_wp2
          go_ret
          exact ⟨by simp, HB6.out⟩
  · go_upto_region 5 with fail
    obtain ⟨b, hb, hbv⟩ : ∃ b, Btw b ∧ (⟨#[32, 32, 32, 32, 32, 32, 32, 32, 32, 10]⟩ : ByteArray).extract 0 m.toNat ++ ⟨#[10]⟩ = bs b := by
      obtain ⟨k, rfl⟩ : ∃ k : Nat, m = k := ⟨m.toNat, by omega⟩
      have hk : k = 1 ∨ k = 2 ∨ k = 3 ∨ k = 4 ∨ k = 5 ∨ k = 6 ∨ k = 7 ∨ k = 8 := by omega
      refine ⟨blB k, btw_bl k (by omega), ?_⟩
      rcases hk with rfl | rfl | rfl | rfl | rfl | rfl | rfl | rfl <;> decide
    rw [hbv]
    clear hbv h0 h9
    have HJ1 := Lib.hid (joined_any A1 c1 L b W1 HOW1.out HFW.out (by have h1 := jn_len b L HG.out; have h2 := HFW.out; have h3 := hb.len; have h4 : L.length * (16 + b.length) ≤ 1000000 * 46 := Nat.mul_le_mul h2 (by omega); omega))
    have HTR := Lib.hid (toks_trip2 b hb.bl hb.skip [32, 35] ends_end skip_end L HG.out)
    have hjs : ((bs (jnX b L)).size : Int) = ((jnX b L).length : Int) := by rw [bs_size]
    have hjb : (jnX b L).length ≤ 1000000000 := by have h1 := jn_len b L HG.out; have h2 := HFW.out; have h3 := hb.len; have h4 : L.length * (16 + b.length) ≤ 1000000 * 46 := Nat.mul_le_mul h2 (by omega); omega
    have hsz2 : ¬ 9223372036854775807 < (bs (jnX b L)).size + (⟨#[32, 35]⟩ : ByteArray).size := by
      rw [bs_size]
      show ¬ 9223372036854775807 < (jnX b L).length + 2
      omega
    clear hb HG
    go_wp2_with fail
    refine HJ1.out.mono ?_
    rintro e w9 ⟨rfl, hw9⟩
    subst hw9
    clear HJ1
    cases f with
    | some fl =>
      have hL : L = [] := by
        rcases HSH.out with h | h
        · cases h
        · exact h
      subst hL
      have hfe : (flE (some fl) == 0) = false := beq_eq_false_iff_ne.2 (HFN.out fl rfl)
      clear HSH HFN HTR HOW1 HF1 HFW
      generalize flE (some fl) = fe at *
      have hne : (fe != 0) = true := by simp [bne, hfe]
      go_wp2_with fail
      refine (known_any _ HV1.out).mono ?_
      rintro e w6 ⟨rfl, hb6⟩
      have HB6 := Lib.hid (below_trans HB1.out hb6)
      clear hb6
      go_wp2
      go_ret
      exact ⟨by simp, HB6.out⟩
    | none =>
      have hfe : (flE none : Int) = 0 := rfl
      rw [hfe] at f0
      clear HSH HFN HF1 hfe
      by_cases h512 : 512 < (jnX b L).length
      · have hgt : (512 : Int) < ((jnX b L).length : Int) := by omega
        clear HTR HOW1
        go_wp2_with fail
        refine (known_any _ HV1.out).mono ?_
        rintro e w6 ⟨rfl, hb6⟩
        have HB6 := Lib.hid (below_trans HB1.out hb6)
        clear hb6
        go_wp2
        go_ret
        exact ⟨by simp, HB6.out⟩
      · have hgt : ((jnX b L).length : Int) ≤ 512 := by omega
        have hta : bs (jnX b L) ++ ⟨#[32, 35]⟩ = bs (jnX b L ++ [32, 35]) := bs_app (jnX b L) [32, 35]
        have hln : (jnX b L ++ [32, 35]).length = (jnX b L).length + 2 := by simp
        have HTT := Lib.hid (tokens_any (jnX b L ++ [32, 35]) W1 HV1.out (by omega))
        unfold TokensP at HTT
        by_cases h510 : 510 < (jnX b L).length
        · have hg2 : (510 : Int) < ((jnX b L).length : Int) := by omega
          have hto : toks (jnX b L ++ [32, 35]) = ([], some (2, (1, 1))) := by unfold toks; rw [if_pos (by omega)]
          rw [hto] at HTT
          clear HTR hto
          go_wp2_with fail
          refine HTT.out.mono ?_
          rintro e w2 ⟨v2, rfl, hown2, hb2, hf2⟩
          obtain ⟨A2, c2, rfl, hle2, hm2⟩ := hown2.slice
          have ha2 := fault_below w2 #[.int .i64 2, .int .i64 1, .int .i64 1]
          have hbb2 := below_trans hb2 ha2
          have HB2 := Lib.hid (below_trans HB1.out hbb2)
          have HV2 := Lib.hid (HV1.out.below hbb2)
          have HF2 := Lib.hid (Blk.new w2 27 #[.int .i64 2, .int .i64 1, .int .i64 1])
          clear hown2 hb2 hf2 ha2 hle2 hm2 hbb2 HTT HB1 HOW1 HV1 f0
          have z1 : flE (some (2, ((1 : Int), (1 : Int)))) = 2 := rfl
          have z2 : flP (some ((2 : Int), ((1 : Int), (1 : Int)))) = (1, 1) := rfl
          rw [z1, z2]
          simp only
          go_upto_region 9 with fail
          generalize hq2 : w2.heap.size = q2 at *
          generalize (w2.alloc (.cells #[.int .i64 2, .int .i64 1, .int .i64 1] 27)) = W2 at *
          have f2 : W2.cell? ⟨q2, 0, none⟩ = some (.int .i64 2) := HF2.out.cell 0
          go_wp2_with fail
          refine (known_any _ HV2.out).mono ?_
          rintro e w6 ⟨rfl, hb6⟩
          have HB6 := Lib.hid (below_trans HB2.out hb6)
          clear hb6
          go_wp2
          go_ret
          exact ⟨by simp, HB6.out⟩
        · have hg2 : ((jnX b L).length : Int) ≤ 510 := by omega
          obtain ⟨g1, g2⟩ := HTR.out (by omega)
          rw [g1] at HTT
          have HG2 := Lib.hid g2
          clear HTR g1 g2
          generalize (toks (jnX b L ++ [32, 35])).1 = M at *
          go_wp2_with fail
          refine HTT.out.mono ?_
          rintro e w2 ⟨v2, rfl, hown2, hb2, hf2⟩
          obtain ⟨A2, c2, rfl, hle2, hm2⟩ := hown2.slice
          have ha2 := fault_below w2 #[.int .i64 0, .int .i64 0, .int .i64 0]
          have hbb2 := below_trans hb2 ha2
          have HB2 := Lib.hid (below_trans HB1.out hbb2)
          have HOW12 := Lib.hid (HOW1.out.below hbb2)
          have HOW2 := Lib.hid (hown2.below ha2)
          have HV2 := Lib.hid (HV1.out.below hbb2)
          have HF2 := Lib.hid (Blk.new w2 27 #[.int .i64 0, .int .i64 0, .int .i64 0])
          clear hown2 hb2 hf2 ha2 hle2 hm2 hbb2 HTT HB1 HOW1 HV1 f0
          have z1 : flE none = 0 := rfl
          have z2 : flP none = (0, 0) := rfl
          rw [z1, z2]
          simp only
          go_upto_region 9 with fail
          generalize hq2 : w2.heap.size = q2 at *
          generalize (w2.alloc (.cells #[.int .i64 0, .int .i64 0, .int .i64 0] 27)) = W2 at *
          have f2 : W2.cell? ⟨q2, 0, none⟩ = some (.int .i64 0) := HF2.out.cell 0
          have hml : M.length = L.length := by have := congrArg List.length HG2.out; simpa using this
          rw [hml] at HOW2
          have HSM := Lib.hid (same2_any A1 A2 c1 c2 L M HG2.out.symm W2 HOW12.out (by rw [hml]; exact HOW2.out) HFW.out)
          rw [hml]
          go_wp2_with fail
          refine HSM.out.mono ?_
          rintro e w3 ⟨rfl, hb3⟩
          have HB3 := Lib.hid (below_trans HB2.out hb3)
          have HV3 := Lib.hid (HV2.out.below hb3)
          clear hb3
          go_wp2_with fail
          refine (known_any _ HV3.out).mono ?_
          rintro e w6 ⟨rfl, hb6⟩
          have HB6 := Lib.hid (below_trans HB3.out hb6)
          clear hb6
          go_wp2
          go_ret
          exact ⟨by simp, HB6.out⟩
end Go.Proofs.YtplkcbbbcflngaaDoor
