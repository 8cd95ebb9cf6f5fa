/- reply: Decode of any bytes that are enough, by contract. -/
import Derived.Test.YtmapcdmegkfheaaZbRe29
namespace Go.Proofs.Ytmapcdmegkfheaa
set_option linter.unusedVariables false
set_option linter.unusedSimpArgs false
open Go.RowKit
/-- What Decode tells of bytes that are enough. -/
def DecB (op m : Int) (R : Bs) (w : World) (e : Ending) (w' : World) : Prop :=
  Below w.heap.size w w' ∧ ∃ sA sn sc eA en ec, AnR w' (anR op R sA sn sc eA en ec) (seensR op R) (evtsR op R) ∧
    ((e = .returned (.tuple #[.agg (anR op R sA sn sc eA en ec).cs, .int .i64 0]) ∧ mayB op m (anR op R sA sn sc eA en ec) (seensR op R) (evtsR op R) = true ∧ encW op m (anR op R sA sn sc eA en ec) (seensR op R) (evtsR op R) = R) ∨
     (e = .returned (.tuple #[.agg #[.int .i64 0, .int .u64 0, .int .i64 0, .int .i64 0, .int .i64 0, .int .i64 0, .int .i64 0, .int .i64 0, .int .i64 0, .int .i64 0, .slice none 0 0, .slice none 0 0], .int .i64 33]) ∧ ¬ (mayB op m (anR op R sA sn sc eA en ec) (seensR op R) (evtsR op R) = true ∧ encW op m (anR op R sA sn sc eA en ec) (seensR op R) (evtsR op R) = R)))
set_option maxRecDepth 100000 in
set_option maxHeartbeats 8000000 in
theorem decode_any (w : World) (op m : Int) (R : Bs) (A : Option Addr) (c n : Nat) (q1 : 1 ≤ op) (q2 : op ≤ 19) (q3 : 0 ≤ m) (q4 : m ≤ 64) (hEL : R.length = (lenN op m).toNat) (hn : n = R.length) (hc : n ≤ c) (hm : c ≤ maxLen) (hr : RB w A n R) :
    Calls Try.prog 18 #[.int .i64 op, .int .i64 m, .slice A n c] w fun e w' => DecB op m R w e w' := by
  have hop : opB op = true := by unfold opB; exact decide_eq_true ⟨q1, q2⟩
  have hmB : mB m = true := by unfold mB; exact decide_eq_true ⟨q3, q4⟩
  have r9 := len_eq q1 q2 q3 q4
  have hln : lenN op m = (n : Int) := by rw [hn, hEL, r9, Int.toNat_natCast]
  have r2 : (lenN op m).toNat ≤ 800 := by
    rw [r9, Int.toNat_natCast]
    have a5 := onceN_le op.toNat
    have a6 := eachN_le op.toNat
    have a7 : m.toNat * eachN op.toNat ≤ 64 * 11 := Nat.mul_le_mul (by omega) a6
    omega
  have hneed : 3 + onceN op.toNat ≤ R.length := by rw [hEL, r9, Int.toNat_natCast]; omega
  have hs : secR R ≤ 18446744073709551615 := by
    unfold secR
    have h1 := getB_lt ((R.drop 3).take 8)
    have h2 : (256 : Nat) ^ ((R.drop 3).take 8).length ≤ 256 ^ 8 := Nat.pow_le_pow_right (by omega) (by rw [List.length_take]; omega)
    have h3 : (256 : Nat) ^ 8 = 18446744073709551616 := by decide
    omega
  have HSX := Lib.hid hs
  obtain ⟨W, hW⟩ : ∃ W, W = w.alloc (.cells #[.int .i64 0, .int .u64 0, .int .i64 0, .int .i64 0, .int .i64 0, .int .i64 0, .int .i64 0, .int .i64 0, .int .i64 0, .int .i64 0, .slice none 0 0, .slice none 0 0] TA) := ⟨_, rfl⟩
  have hb0 : Below w.heap.size w W := by rw [hW]; exact (Below.refl _ _).alloc (Nat.le_refl _) _
  have HB0 := Lib.hid hb0
  have HK := Lib.hid (show Blk W w.heap.size TA #[.int .i64 0, .int .u64 0, .int .i64 0, .int .i64 0, .int .i64 0, .int .i64 0, .int .i64 0, .int .i64 0, .int .i64 0, .int .i64 0, .slice none 0 0, .slice none 0 0] by rw [hW]; exact Blk.new _ _ _)
  have hrW : RB W A n R := (Reads.below hr hb0).more hb0.size
  have HRW := Lib.hid hrW
  have HZW : Hid (w.heap.size < W.heap.size) := Lib.hid (by rw [hW]; simp)
  have HT := Lib.hid (fun w => rthere_any op w)
  rw [hop] at HT
  have HBO := Lib.hid (fun w => bound_any m w)
  rw [hmB] at HBO
  have HLN := Lib.hid (fun w => length_any op m w)
  rw [hln] at HLN
  have HRD := Lib.hid (read_any W op A c q1 q2 hneed (by rw [hEL]; omega) (by rw [← hn]; exact hc) hm (by rw [← hn]; exact hrW))
  rw [← hn] at HRD
  unfold ReadP at HRD
  have HOP := Lib.hid hop
  have HNN := Lib.hid (show (lenN op m).toNat = n by rw [hn]; exact hEL.symm)
  have HN0 : Hid (0 < n) := Lib.hid (by rw [hn, hEL, len_eq q1 q2 q3 q4, Int.toNat_natCast]; omega)
  have HNR := Lib.hid hn
  have hWs := hW.symm
  clear hW hb0 hr hrW hneed hEL hop hmB hln r2 r9 hs hn
  go_enter Try.func18, Try.ntmps18
  go_wp2_with fail
  refine (HT.out _).mono ?_
  rintro e w0 ⟨rfl, hw0⟩
  subst hw0
  go_wp2_with fail
  refine (HBO.out _).mono ?_
  rintro e w0 ⟨rfl, hw0⟩
  subst hw0
  go_wp2_with fail
  refine (HLN.out _).mono ?_
  rintro e w0 ⟨rfl, hw0⟩
  subst hw0
  clear hWs
  go_wp2_with fail
  refine HRD.out.mono ?_
  rintro e w1 ⟨hb1, sA, sn, sc, eA, en, ec, rfl, har, hf1, hf2⟩
  have HF1 := Lib.hid hf1
  have HF2 := Lib.hid hf2
  clear hf1 hf2
  have HAR := Lib.hid har
  have HB1 := Lib.hid (below_trans HB0.out hb1)
  have HK1 := Lib.hid (HK.out.thru0 hb1)
  have HRW1 : Hid (RB w1 A n R) := Lib.hid ((Reads.below HRW.out hb1).more hb1.size)
  clear har hb1 HRD
  have HPOST : Hid (∀ e w', Below w.heap.size w w' → AnR w' (anR op R sA sn sc eA en ec) (seensR op R) (evtsR op R) → ((e = .returned (.tuple #[.agg (anR op R sA sn sc eA en ec).cs, .int .i64 0]) ∧ mayB op m (anR op R sA sn sc eA en ec) (seensR op R) (evtsR op R) = true ∧ encW op m (anR op R sA sn sc eA en ec) (seensR op R) (evtsR op R) = R) ∨ (e = .returned (.tuple #[.agg #[.int .i64 0, .int .u64 0, .int .i64 0, .int .i64 0, .int .i64 0, .int .i64 0, .int .i64 0, .int .i64 0, .int .i64 0, .int .i64 0, .slice none 0 0, .slice none 0 0], .int .i64 33]) ∧ ¬ (mayB op m (anR op R sA sn sc eA en ec) (seensR op R) (evtsR op R) = true ∧ encW op m (anR op R sA sn sc eA en ec) (seensR op R) (evtsR op R) = R))) → DecB op m R w e w') := Lib.hid (fun e w' h1 h2 h3 => ⟨h1, sA, sn, sc, eA, en, ec, h2, h3⟩)
  have has : (anR op R sA sn sc eA en ec).sec ≤ 18446744073709551615 := by
    unfold anR; simp only
    split
    · exact HSX.out
    · omega
  have hsA : (anR op R sA sn sc eA en ec).sA = sA := rfl
  have heA : (anR op R sA sn sc eA en ec).eA = eA := rfl
  generalize anR op R sA sn sc eA en ec = a at *
  subst hsA
  subst heA
  generalize seensR op R = L at *
  generalize evtsR op R = M at *
  have hcs : a.cs = #[.int .i64 a.st, .int .u64 (a.sec : Int), .int .i64 a.rid, .int .i64 a.rx, .int .i64 a.ry, .int .i64 a.lab, .int .i64 a.b0, .int .i64 a.b1, .int .i64 a.b2, .int .i64 a.b3, .slice a.sA a.sn a.sc, .slice a.eA a.en a.ec] := rfl
  have HCS := Lib.hid hcs
  have HEN1 := Lib.hid (encode_any (w1.alloc (.cells #[.int .i64 a.st, .int .u64 (a.sec : Int), .int .i64 a.rid, .int .i64 a.rx, .int .i64 a.ry, .int .i64 a.lab, .int .i64 a.b0, .int .i64 a.b1, .int .i64 a.b2, .int .i64 a.b3, .slice a.sA a.sn a.sc, .slice a.eA a.en a.ec] TA)) op m a L M (HAR.out.below ((Below.refl _ _).alloc (Nat.le_refl _) _)) has)
  rw [hcs] at HEN1 ⊢
  clear has hcs
  have HX := Lib.hid (Blk.new w1 TA #[.int .i64 a.st, .int .u64 (a.sec : Int), .int .i64 a.rid, .int .i64 a.rx, .int .i64 a.ry, .int .i64 a.lab, .int .i64 a.b0, .int .i64 a.b1, .int .i64 a.b2, .int .i64 a.b3, .slice a.sA a.sn a.sc, .slice a.eA a.en a.ec])
  have HBX := Lib.hid (show Below w1.heap.size w1 (w1.alloc (.cells #[.int .i64 a.st, .int .u64 (a.sec : Int), .int .i64 a.rid, .int .i64 a.rx, .int .i64 a.ry, .int .i64 a.lab, .int .i64 a.b0, .int .i64 a.b1, .int .i64 a.b2, .int .i64 a.b3, .slice a.sA a.sn a.sc, .slice a.eA a.en a.ec] TA)) from (Below.refl _ _).alloc (Nat.le_refl _) _)
  unfold EncP at HEN1
  go_wp2_with fail
  refine HEN1.out.mono ?_
  rintro e w2 ⟨hb2, hE⟩
  have HX2 := Lib.hid (HX.out.thru0 hb2)
  have HB2 := Lib.hid (below_trans (below_trans HB1.out HBX.out) hb2)
  have HK2 := Lib.hid ((HK1.out.thru0 HBX.out).thru0 hb2)
  have HRW2 : Hid (RB w2 A n R) := Lib.hid ((Reads.below ((Reads.below HRW1.out HBX.out).more HBX.out.size) hb2).more hb2.size)
  have HAR2 := Lib.hid ((HAR.out.below HBX.out).below hb2)
  clear hb2 HEN1
  rcases hE with ⟨h9, _⟩ | ⟨_, h9, rfl⟩ | ⟨_, hmy, g, n2, hn2, hzl, hge, rfl, hbk⟩
  · rw [HOP.out] at h9; cases h9
  · have HMF := Lib.hid h9
    clear h9
    have s0 := HK2.out.cell 0
    have s1 := HK2.out.cell 1
    have s2 := HK2.out.cell 2
    have s3 := HK2.out.cell 3
    have s4 := HK2.out.cell 4
    have s5 := HK2.out.cell 5
    have s6 := HK2.out.cell 6
    have s7 := HK2.out.cell 7
    have s8 := HK2.out.cell 8
    have s9 := HK2.out.cell 9
    have s10 := HK2.out.cell 10
    have s11 := HK2.out.cell 11
    simp only [List.getElem?_toArray, List.getElem?_cons_zero, List.getElem?_cons_succ] at s0 s1 s2 s3 s4 s5 s6 s7 s8 s9 s10 s11
    have f0 := HK2.out.frozen 0
    have f1 := HK2.out.frozen 1
    have f2 := HK2.out.frozen 2
    have f3 := HK2.out.frozen 3
    have f4 := HK2.out.frozen 4
    have f5 := HK2.out.frozen 5
    have f6 := HK2.out.frozen 6
    have f7 := HK2.out.frozen 7
    have f8 := HK2.out.frozen 8
    have f9 := HK2.out.frozen 9
    have f10 := HK2.out.frozen 10
    have f11 := HK2.out.frozen 11
    go_wp2_with fail
    (try simp only [Exit.inBlock, Exit.then])
    refine bodyPost_ret (results_row_tmp rfl _ _ _ _ _ _ rfl (blk12 HK2.out _ _ _ _ _ _ _ _ _ _ _ _) (by rfl)) rfl ?_
    have HNF := Lib.hid (fun y0 y1 y2 y3 y4 y5 y6 y7 y8 y9 y10 y11 => nf12 (S := [w.heap.size]) (w := w2) (g := w.heap.size) (by simp) y0 y1 y2 y3 y4 y5 y6 y7 y8 y9 y10 y11)
    have hz := HZW.out
    exact HPOST.out _ _ ((HNF.out _ _ _ _ _ _ _ _ _ _ _ _).below HB2.out (by simp)) ⟨erd_nf HAR2.out.seen (HNF.out _ _ _ _ _ _ _ _ _ _ _ _) (fun g o h => by have := HF1.out g o h; omega), erd_nf HAR2.out.evs (HNF.out _ _ _ _ _ _ _ _ _ _ _ _) (fun g o h => by have := HF2.out g o h; omega), HAR2.out.sl, HAR2.out.el, HAR2.out.sm, HAR2.out.em⟩ (.inr ⟨rfl, fun h => by rw [HMF.out] at h; cases h.1⟩)
  · rw [HNN.out] at hn2
    subst hn2
    have HMY := Lib.hid hmy
    clear hmy
    by_cases hEQ : encW op m a L M = R
    · have HEQ := Lib.hid hEQ
      rw [hEQ] at hzl hbk
      have HBQ := Lib.hid (bequal_any w2 (some ⟨g, 0, none⟩) A n2 n2 n2 c R R (RB_of_row (off := 0) hbk (by rw [← hzl]; simp)) HRW2.out HN0.out HN0.out)
      rw [decide_eq_true rfl] at HBQ
      clear hEQ hzl hge hbk
      go_wp2_with fail
      refine HBQ.out.mono ?_
      rintro e w3 ⟨rfl, hw3⟩
      subst hw3
      have t0 := HX2.out.cell 0
      have t1 := HX2.out.cell 1
      have t2 := HX2.out.cell 2
      have t3 := HX2.out.cell 3
      have t4 := HX2.out.cell 4
      have t5 := HX2.out.cell 5
      have t6 := HX2.out.cell 6
      have t7 := HX2.out.cell 7
      have t8 := HX2.out.cell 8
      have t9 := HX2.out.cell 9
      have t10 := HX2.out.cell 10
      have t11 := HX2.out.cell 11
      simp only [List.getElem?_toArray, List.getElem?_cons_zero, List.getElem?_cons_succ] at t0 t1 t2 t3 t4 t5 t6 t7 t8 t9 t10 t11
      have s0 := HK2.out.cell 0
      have s1 := HK2.out.cell 1
      have s2 := HK2.out.cell 2
      have s3 := HK2.out.cell 3
      have s4 := HK2.out.cell 4
      have s5 := HK2.out.cell 5
      have s6 := HK2.out.cell 6
      have s7 := HK2.out.cell 7
      have s8 := HK2.out.cell 8
      have s9 := HK2.out.cell 9
      have s10 := HK2.out.cell 10
      have s11 := HK2.out.cell 11
      simp only [List.getElem?_toArray, List.getElem?_cons_zero, List.getElem?_cons_succ] at s0 s1 s2 s3 s4 s5 s6 s7 s8 s9 s10 s11
      have f0 := HK2.out.frozen 0
      have f1 := HK2.out.frozen 1
      have f2 := HK2.out.frozen 2
      have f3 := HK2.out.frozen 3
      have f4 := HK2.out.frozen 4
      have f5 := HK2.out.frozen 5
      have f6 := HK2.out.frozen 6
      have f7 := HK2.out.frozen 7
      have f8 := HK2.out.frozen 8
      have f9 := HK2.out.frozen 9
      have f10 := HK2.out.frozen 10
      have f11 := HK2.out.frozen 11
      go_wp2_with fail
      (try simp only [Exit.inBlock, Exit.then])
      refine bodyPost_ret (results_row_tmp rfl _ _ _ _ _ _ rfl (blk12 HK2.out _ _ _ _ _ _ _ _ _ _ _ _) (by rfl)) rfl ?_
      have HNF := Lib.hid (fun y0 y1 y2 y3 y4 y5 y6 y7 y8 y9 y10 y11 => nf12 (S := [w.heap.size]) (w := w3) (g := w.heap.size) (by simp) y0 y1 y2 y3 y4 y5 y6 y7 y8 y9 y10 y11)
      have hz := HZW.out
      exact HPOST.out _ _ ((HNF.out _ _ _ _ _ _ _ _ _ _ _ _).below HB2.out (by simp)) ⟨erd_nf HAR2.out.seen (HNF.out _ _ _ _ _ _ _ _ _ _ _ _) (fun g o h => by have := HF1.out g o h; omega), erd_nf HAR2.out.evs (HNF.out _ _ _ _ _ _ _ _ _ _ _ _) (fun g o h => by have := HF2.out g o h; omega), HAR2.out.sl, HAR2.out.el, HAR2.out.sm, HAR2.out.em⟩ (.inl ⟨by rw [HCS.out]; rfl, HMY.out, HEQ.out⟩)
    · have HEQ := Lib.hid hEQ
      have hE2 : ∃ E, E = encW op m a L M := ⟨_, rfl⟩
      obtain ⟨E, hE2⟩ := hE2
      rw [← hE2] at hzl hbk
      have HBQ := Lib.hid (bequal_any w2 (some ⟨g, 0, none⟩) A n2 n2 n2 c E R (RB_of_row (off := 0) hbk (by rw [← hzl]; simp)) HRW2.out HN0.out HN0.out)
      rw [decide_eq_false (by rw [hE2]; exact hEQ)] at HBQ
      clear hEQ hzl hge hbk hE2
      go_wp2_with fail
      refine HBQ.out.mono ?_
      rintro e w3 ⟨rfl, hw3⟩
      subst hw3
      have s0 := HK2.out.cell 0
      have s1 := HK2.out.cell 1
      have s2 := HK2.out.cell 2
      have s3 := HK2.out.cell 3
      have s4 := HK2.out.cell 4
      have s5 := HK2.out.cell 5
      have s6 := HK2.out.cell 6
      have s7 := HK2.out.cell 7
      have s8 := HK2.out.cell 8
      have s9 := HK2.out.cell 9
      have s10 := HK2.out.cell 10
      have s11 := HK2.out.cell 11
      simp only [List.getElem?_toArray, List.getElem?_cons_zero, List.getElem?_cons_succ] at s0 s1 s2 s3 s4 s5 s6 s7 s8 s9 s10 s11
      have f0 := HK2.out.frozen 0
      have f1 := HK2.out.frozen 1
      have f2 := HK2.out.frozen 2
      have f3 := HK2.out.frozen 3
      have f4 := HK2.out.frozen 4
      have f5 := HK2.out.frozen 5
      have f6 := HK2.out.frozen 6
      have f7 := HK2.out.frozen 7
      have f8 := HK2.out.frozen 8
      have f9 := HK2.out.frozen 9
      have f10 := HK2.out.frozen 10
      have f11 := HK2.out.frozen 11
      go_wp2_with fail
      (try simp only [Exit.inBlock, Exit.then])
      refine bodyPost_ret (results_row_tmp rfl _ _ _ _ _ _ rfl (blk12 HK2.out _ _ _ _ _ _ _ _ _ _ _ _) (by rfl)) rfl ?_
      have HNF := Lib.hid (fun y0 y1 y2 y3 y4 y5 y6 y7 y8 y9 y10 y11 => nf12 (S := [w.heap.size]) (w := w3) (g := w.heap.size) (by simp) y0 y1 y2 y3 y4 y5 y6 y7 y8 y9 y10 y11)
      have hz := HZW.out
      exact HPOST.out _ _ ((HNF.out _ _ _ _ _ _ _ _ _ _ _ _).below HB2.out (by simp)) ⟨erd_nf HAR2.out.seen (HNF.out _ _ _ _ _ _ _ _ _ _ _ _) (fun g o h => by have := HF1.out g o h; omega), erd_nf HAR2.out.evs (HNF.out _ _ _ _ _ _ _ _ _ _ _ _) (fun g o h => by have := HF2.out g o h; omega), HAR2.out.sl, HAR2.out.el, HAR2.out.sm, HAR2.out.em⟩ (.inr ⟨rfl, fun h => HEQ.out h.2⟩)
end Go.Proofs.Ytmapcdmegkfheaa
