/- reply: Decode of what was written, by contract. -/
import Derived.Test.YtmapcdmegkfheaaZbRe26
import Derived.Test.YtmapcdmegkfheaaZbRe27M
import Derived.Laws.IdiomStrings
import Derived.Laws.ResultCell
namespace Go.Proofs.Ytmapcdmegkfheaa
set_option linter.unusedVariables false
set_option linter.unusedSimpArgs false
open Go.RowKit
theorem rb_string {w : World} {A : Option Addr} {n c : Nat} {xs : Bs} (h : RB w A n xs) (hn : 0 < n) : (convert 24 9 (.slice A n c)).run Try.prog w = .ok (.string (bs xs)) w := by
  have hl := h.len
  obtain ⟨ad, rfl, _, hc⟩ := h.2 hn
  subst hl
  exact run_convert_bytes_back w 24 9 5 ad c xs Try.underlying24 Try.underlying5 Try.underlying9 (fun j hj => hc j _ (by simp [bv, hj]))
set_option maxHeartbeats 2000000 in
theorem bequal_any (w : World) (A1 A2 : Option Addr) (n c m d : Nat) (xs ys : Bs) (h1 : RB w A1 n xs) (h2 : RB w A2 m ys) (hn : 0 < n) (hm : 0 < m) :
    Calls Try.prog 39 #[.slice A1 n c, .slice A2 m d] w fun e w' => e = .returned (.bool (decide (xs = ys))) ∧ w' = w := by
  have s1 := rb_string (c := c) h1 hn
  have s2 := rb_string (c := d) h2 hm
  have HD : Hid (((bs xs).toList == (bs ys).toList) = decide (xs = ys)) := Lib.hid (by
    rw [ByteArray.toList_eq, ByteArray.toList_eq]
    show (xs == ys) = decide (xs = ys)
    rw [Bool.eq_iff_iff]; simp)
  clear h1 h2
  generalize bs xs = x at *
  generalize bs ys = y at *
  go_enter Try.func39, Try.ntmps39
  go_wp2_with fail
  go_ret
  exact ⟨ret_bool HD.out, rfl⟩
theorem results_row_tmp {fn : Func} {p u : Tmp} (h : fn.results = #[.cell p TA, .tmp u]) (tmps : Array Value) (w : World) (g : Nat) (t : TypeId) (cs : Array Value) (fr : Nat × Nat)
    (hp : tmps.getD p undef = .pointer (some ⟨g, 0, none⟩)) (hg : w.heap[g]? = some (.cells cs t fr)) (hi : (Try.prog.info? TA).map (·.size) = some cs.size) :
    (results fn tmps).run Try.prog w = .ok (.tuple #[.agg cs, tmps.getD u undef]) w := by
  have hp' : tmps[p]?.getD undef = .pointer (some ⟨g, 0, none⟩) := by simpa using hp
  have hl := run_loadVar_row (P := Try.prog) w g t TA cs fr _ hg Try.underlying38 rfl hi
  rw [results_cell_tmp h]
  simp [hp', asAddr, hl, Result.andThen]
theorem erd_nf {α : Type} {E : El α} {w w' : World} {A : Option Addr} {n c z : Nat} {L : List α} (h : ERd E w (.slice A n c) L) (hn : Nf [z] w w') (hz : ∀ g o, A = some ⟨g, o, none⟩ → g ≠ z) : ERd E w' (.slice A n c) L := by
  obtain ⟨A', c', e, h1, h2, h3⟩ := h
  injection e with e1 e2 e3
  subst e1; subst e2; subst e3
  refine ⟨_, _, rfl, h1, h2, fun i x hx => ?_⟩
  obtain ⟨g, o, hg, hc⟩ := h3 i x hx
  exact ⟨g, o, hg, fun j u hu => cell_block (hc j u hu) fun _ => hn.block g (by simp; exact hz g o hg)⟩
set_option maxRecDepth 100000 in
set_option maxHeartbeats 8000000 in
theorem decode_back (w wa : World) (op m : Int) (a : An) (L : List Snt) (M : List Evt) (R : Bs) (A : Option Addr) (c n : Nat) (h : AnR wa a L M) (hma : mayB op m a L M = true) (hs : a.sec ≤ 18446744073709551615) (hR : R = encW op m a L M) (hn : n = R.length) (hc : n ≤ c) (hm : c ≤ maxLen) (hr : RB w A n R) :
    Calls Try.prog 18 #[.int .i64 op, .int .i64 m, .slice A n c] w fun e w' => Below w.heap.size w w' ∧ ∃ sA sc eA ec, e = .returned (.tuple #[.agg (reA a sA sc eA ec).cs, .int .i64 0]) ∧ AnR w' (reA a sA sc eA ec) L M := by
  obtain ⟨q1, q2, q3, q4, q5, q6, q7⟩ := may_few h hma
  obtain ⟨r1, r2, r3⟩ := wr_fit h hma
  obtain ⟨b1, b2, b3, b4⟩ := back_all h hma hs
  have hEL : R.length = (lenN op m).toNat := by rw [hR]; unfold encW; rw [List.length_append, List.length_replicate]; omega
  have hop : opB op = true := by unfold opB; exact decide_eq_true ⟨q1, q2⟩
  have hmB : mB m = true := by unfold mB; exact decide_eq_true ⟨q3, q4⟩
  have hln : lenN op m = (n : Int) := by rw [hn, hEL]; exact r3.symm
  have hsl := h.sl
  have hel := h.el
  have hneed : 3 + onceN op.toNat + eachN op.toNat * itemsR R ≤ R.length := by
    rw [hEL, len_eq q1 q2 q3 q4, Int.toNat_natCast, hR, b4]
    have : eachN op.toNat * (a.sn + a.en) ≤ m.toNat * eachN op.toNat := by
      by_cases hs2 : op = 13 ∨ op = 14 ∨ op = 15 ∨ op = 16
      · have e2 : eachN op.toNat = 11 := by rcases hs2 with rfl | rfl | rfl | rfl <;> rfl
        have := (fine h hma).en (by omega)
        subst this
        rw [e2] at q5 ⊢; simp at q5 hel; omega
      · by_cases he2 : op = 17 ∨ op = 18
        · have e2 : eachN op.toNat = 8 := by rcases he2 with rfl | rfl <;> rfl
          have := (fine h hma).sn (by omega)
          subst this
          rw [e2] at q5 ⊢; simp at q5 hsl; omega
        · have hL := (fine h hma).sn hs2
          have hM := (fine h hma).en he2
          subst hL; subst hM
          simp at hsl hel
          rw [← hsl, ← hel]; simp
    omega
  obtain ⟨W, hW⟩ : ∃ W, W = w.alloc (.cells #[.int .i64 0, .int .u64 0, .int .i64 0, .int .i64 0, .int .i64 0, .int .i64 0, .int .i64 0, .int .i64 0, .int .i64 0, .int .i64 0, .slice none 0 0, .slice none 0 0] TA) := ⟨_, rfl⟩
  have hb0 : Below w.heap.size w W := by rw [hW]; exact (Below.refl _ _).alloc (Nat.le_refl _) _
  have HB0 := Lib.hid hb0
  have HK := Lib.hid (show Blk W w.heap.size TA #[.int .i64 0, .int .u64 0, .int .i64 0, .int .i64 0, .int .i64 0, .int .i64 0, .int .i64 0, .int .i64 0, .int .i64 0, .int .i64 0, .slice none 0 0, .slice none 0 0] by rw [hW]; exact Blk.new _ _ _)
  have hrW : RB W A n R := (Reads.below hr hb0).more hb0.size
  have HRW := Lib.hid hrW
  have HZW : Hid (w.heap.size < W.heap.size) := Lib.hid (by rw [hW]; simp)
  have HT := Lib.hid (fun w => rthere_any op w)
  rw [hop] at HT
  have HBO := Lib.hid (fun w => bound_any m w)
  rw [hmB] at HBO
  have HLN := Lib.hid (fun w => length_any op m w)
  rw [hln] at HLN
  have HRD := Lib.hid (read_any W op A c q1 q2 (Nat.le_trans (Nat.le_add_right _ _) hneed) (by rw [hEL]; omega) (by rw [← hn]; exact hc) hm (by rw [← hn]; exact hrW))
  rw [← hn] at HRD
  unfold ReadP at HRD
  have HS2 : Hid (seensR op R = L) := Lib.hid (by rw [hR]; exact b2)
  have HE2 : Hid (evtsR op R = M) := Lib.hid (by rw [hR]; exact b3)
  have HAN : Hid (∀ sA sc eA ec, anR op R sA a.sn sc eA a.en ec = reA a sA sc eA ec) := Lib.hid (by rw [hR]; exact b1)
  have HSL := Lib.hid hsl
  have HEL := Lib.hid hel
  have HEN := Lib.hid (fun (X : World) (sA : Option Addr) (sc : Nat) (eA : Option Addr) (ec : Nat) (hX : AnR X (reA a sA sc eA ec) L M) => encode_any X op m (reA a sA sc eA ec) L M hX hs)
  have HMY : Hid (∀ sA sc eA ec, mayB op m (reA a sA sc eA ec) L M = true) := Lib.hid (fun sA sc eA ec => by rw [may_re]; exact hma)
  have HEW : Hid (∀ sA sc eA ec, encW op m (reA a sA sc eA ec) L M = R) := Lib.hid (fun sA sc eA ec => by rw [enc_re]; exact hR.symm)
  have HOP := Lib.hid hop
  have HNN := Lib.hid (show (lenN op m).toNat = n by rw [hn]; exact hEL.symm)
  have HN0 : Hid (0 < n) := Lib.hid (by rw [hn, hEL, len_eq q1 q2 q3 q4, Int.toNat_natCast]; omega)
  have HNR := Lib.hid hn
  have hWs := hW.symm
  clear hW hb0 hr hrW hneed hEL hop hmB hln hsl hel b1 b2 b3 b4 r1 r2 r3 q5 q6 q7 h hma hs hR hn
  go_enter Try.func18, Try.ntmps18
  go_wp2_with fail
  refine (HT.out _).mono ?_
  rintro e w0 ⟨rfl, hw0⟩
  subst hw0
  go_wp2_with fail
  refine (HBO.out _).mono ?_
  rintro e w0 ⟨rfl, hw0⟩
  subst hw0
  go_wp2_with fail
  refine (HLN.out _).mono ?_
  rintro e w0 ⟨rfl, hw0⟩
  subst hw0
  clear hWs
  go_wp2_with fail
  refine HRD.out.mono ?_
  rintro e w1 ⟨hb1, sA, sn, sc, eA, en, ec, rfl, har, hf1, hf2⟩
  have HF1 := Lib.hid hf1
  have HF2 := Lib.hid hf2
  clear hf1 hf2
  rw [HS2.out, HE2.out] at har
  have hsn : sn = a.sn := by have := har.sl; have h9 := HSL.out; rw [← h9, this]; rfl
  have hen : en = a.en := by have := har.el; have h9 := HEL.out; rw [← h9, this]; rfl
  subst hsn; subst hen
  rw [HAN.out] at har ⊢
  have HAR := Lib.hid har
  have HB1 := Lib.hid (below_trans HB0.out hb1)
  have HK1 := Lib.hid (HK.out.thru0 hb1)
  have HRW1 : Hid (RB w1 A n R) := Lib.hid ((Reads.below HRW.out hb1).more hb1.size)
  clear har hb1 HRD
  have HEN1 := Lib.hid (HEN.out (w1.alloc (.cells #[.int .i64 a.st, .int .u64 (a.sec : Int), .int .i64 a.rid, .int .i64 a.rx, .int .i64 a.ry, .int .i64 a.lab, .int .i64 a.b0, .int .i64 a.b1, .int .i64 a.b2, .int .i64 a.b3, .slice sA a.sn sc, .slice eA a.en ec] TA)) sA sc eA ec (HAR.out.below ((Below.refl _ _).alloc (Nat.le_refl _) _)))
  have HMY1 := Lib.hid (HMY.out sA sc eA ec)
  have HEW1 := Lib.hid (HEW.out sA sc eA ec)
  have hcs : (reA a sA sc eA ec).cs = #[.int .i64 a.st, .int .u64 (a.sec : Int), .int .i64 a.rid, .int .i64 a.rx, .int .i64 a.ry, .int .i64 a.lab, .int .i64 a.b0, .int .i64 a.b1, .int .i64 a.b2, .int .i64 a.b3, .slice sA a.sn sc, .slice eA a.en ec] := rfl
  have HCS := Lib.hid hcs
  rw [hcs] at HEN1 ⊢
  clear hcs HEN HMY HEW HAN
  have HX := Lib.hid (Blk.new w1 TA #[.int .i64 a.st, .int .u64 (a.sec : Int), .int .i64 a.rid, .int .i64 a.rx, .int .i64 a.ry, .int .i64 a.lab, .int .i64 a.b0, .int .i64 a.b1, .int .i64 a.b2, .int .i64 a.b3, .slice sA a.sn sc, .slice eA a.en ec])
  have HBX := Lib.hid (show Below w1.heap.size w1 (w1.alloc (.cells #[.int .i64 a.st, .int .u64 (a.sec : Int), .int .i64 a.rid, .int .i64 a.rx, .int .i64 a.ry, .int .i64 a.lab, .int .i64 a.b0, .int .i64 a.b1, .int .i64 a.b2, .int .i64 a.b3, .slice sA a.sn sc, .slice eA a.en ec] TA)) from (Below.refl _ _).alloc (Nat.le_refl _) _)
  unfold EncP at HEN1
  go_wp2_with fail
  refine HEN1.out.mono ?_
  rintro e w2 ⟨hb2, hE⟩
  rcases hE with ⟨h9, _⟩ | ⟨_, h9, _⟩ | ⟨_, _, g, n2, hn2, hzl, hge, rfl, hbk⟩
  · rw [HOP.out] at h9; cases h9
  · rw [HMY1.out] at h9; cases h9
  rw [HNN.out] at hn2
  subst hn2
  rw [HEW1.out] at hzl hbk
  have HX2 := Lib.hid (HX.out.thru0 hb2)
  have HB2 := Lib.hid (below_trans (below_trans HB1.out HBX.out) hb2)
  have HK2 := Lib.hid ((HK1.out.thru0 HBX.out).thru0 hb2)
  have HRW2 : Hid (RB w2 A n2 R) := Lib.hid ((Reads.below ((Reads.below HRW1.out HBX.out).more HBX.out.size) hb2).more hb2.size)
  have HAR2 := Lib.hid ((HAR.out.below HBX.out).below hb2)
  have HBQ := Lib.hid (bequal_any w2 (some ⟨g, 0, none⟩) A n2 n2 n2 c R R (RB_of_row (off := 0) hbk (by rw [← hzl]; simp)) HRW2.out HN0.out HN0.out)
  rw [decide_eq_true rfl] at HBQ
  clear hb2 hzl hge hbk HEN1
  go_wp2_with fail
  refine HBQ.out.mono ?_
  rintro e w3 ⟨rfl, hw3⟩
  subst hw3
  have t0 := HX2.out.cell 0
  have t1 := HX2.out.cell 1
  have t2 := HX2.out.cell 2
  have t3 := HX2.out.cell 3
  have t4 := HX2.out.cell 4
  have t5 := HX2.out.cell 5
  have t6 := HX2.out.cell 6
  have t7 := HX2.out.cell 7
  have t8 := HX2.out.cell 8
  have t9 := HX2.out.cell 9
  have t10 := HX2.out.cell 10
  have t11 := HX2.out.cell 11
  simp only [List.getElem?_toArray, List.getElem?_cons_zero, List.getElem?_cons_succ] at t0 t1 t2 t3 t4 t5 t6 t7 t8 t9 t10 t11
  have s0 := HK2.out.cell 0
  have s1 := HK2.out.cell 1
  have s2 := HK2.out.cell 2
  have s3 := HK2.out.cell 3
  have s4 := HK2.out.cell 4
  have s5 := HK2.out.cell 5
  have s6 := HK2.out.cell 6
  have s7 := HK2.out.cell 7
  have s8 := HK2.out.cell 8
  have s9 := HK2.out.cell 9
  have s10 := HK2.out.cell 10
  have s11 := HK2.out.cell 11
  simp only [List.getElem?_toArray, List.getElem?_cons_zero, List.getElem?_cons_succ] at s0 s1 s2 s3 s4 s5 s6 s7 s8 s9 s10 s11
  have f0 := HK2.out.frozen 0
  have f1 := HK2.out.frozen 1
  have f2 := HK2.out.frozen 2
  have f3 := HK2.out.frozen 3
  have f4 := HK2.out.frozen 4
  have f5 := HK2.out.frozen 5
  have f6 := HK2.out.frozen 6
  have f7 := HK2.out.frozen 7
  have f8 := HK2.out.frozen 8
  have f9 := HK2.out.frozen 9
  have f10 := HK2.out.frozen 10
  have f11 := HK2.out.frozen 11
  go_wp2_with fail
  (try simp only [Exit.inBlock, Exit.then])
  refine bodyPost_ret (results_row_tmp rfl _ _ _ _ _ _ rfl (blk12 HK2.out _ _ _ _ _ _ _ _ _ _ _ _) (by rfl)) rfl ?_
  have HNF := Lib.hid (fun y0 y1 y2 y3 y4 y5 y6 y7 y8 y9 y10 y11 => nf12 (S := [w.heap.size]) (w := w3) (g := w.heap.size) (by simp) y0 y1 y2 y3 y4 y5 y6 y7 y8 y9 y10 y11)
  refine ⟨(HNF.out _ _ _ _ _ _ _ _ _ _ _ _).below HB2.out (by simp), sA, sc, eA, ec, ?_, ?_⟩
  · rw [HCS.out]; rfl
  · have hz := HZW.out
    exact ⟨erd_nf HAR2.out.seen (HNF.out _ _ _ _ _ _ _ _ _ _ _ _) (fun g o h => by have := HF1.out g o h; omega), erd_nf HAR2.out.evs (HNF.out _ _ _ _ _ _ _ _ _ _ _ _) (fun g o h => by have := HF2.out g o h; omega), HAR2.out.sl, HAR2.out.el, HAR2.out.sm, HAR2.out.em⟩
end Go.Proofs.Ytmapcdmegkfheaa
