/- reply: read, by contract. -/
import Derived.Test.YtmapcdmegkfheaaZbRe23
import Derived.StillTailTactics
import Derived.Deep.RegionHeld3
import Derived.Deep.Cut
namespace Go.Proofs.Ytmapcdmegkfheaa
set_option linter.unusedVariables false
set_option linter.unusedSimpArgs false
open Go.RowKit
theorem gI_le (R : Bs) (a k : Nat) (hk : k ≤ 4) : 0 ≤ gI R a k ∧ gI R a k ≤ 4294967295 := by
  have := get_small (L := R.drop a) hk
  unfold gI; omega
theorem gI0 (R : Bs) (k : Nat) : gI R 0 k = ((getB (R.take k) : Nat) : Int) := by simp [gI]
def secR (R : Bs) : Nat := getB ((R.drop 3).take 8)
/-- What is read of what is told once. -/
def anR (op : Int) (R : Bs) (sA : Option Addr) (sn sc : Nat) (eA : Option Addr) (en ec : Nat) : An :=
  ⟨gI R 0 1, if op = 4 ∨ op = 5 then secR R else 0, 0, if op = 12 then gI R 3 2 else 0, if op = 12 then gI R 5 2 else 0, if op = 12 then gI R 7 1 else 0,
   if op = 10 then gI R 3 2 else 0, if op = 10 then gI R 5 2 else 0, if op = 10 then gI R 7 2 else 0, if op = 10 then gI R 9 2 else 0, sA, sn, sc, eA, en, ec⟩
def sntR (R : Bs) (k : Nat) : Snt := ⟨gI R (3 + 11 * k) 2, gI R (3 + 11 * k + 2) 1, gI R (3 + 11 * k + 3) 2, gI R (3 + 11 * k + 5) 2, gI R (3 + 11 * k + 7) 2, gI R (3 + 11 * k + 9) 2⟩
def evtR (R : Bs) (k : Nat) : Evt := ⟨gI R (3 + 8 * k) 2, gI R (3 + 8 * k + 2) 1, gI R (3 + 8 * k + 3) 1, gI R (3 + 8 * k + 4) 4⟩
def itemsR (R : Bs) : Nat := (gI R 2 1).toNat
def seensR (op : Int) (R : Bs) : List Snt := if op = 13 ∨ op = 14 ∨ op = 15 ∨ op = 16 then (List.range (itemsR R)).map (sntR R) else []
def evtsR (op : Int) (R : Bs) : List Evt := if op = 17 ∨ op = 18 then (List.range (itemsR R)).map (evtR R) else []
/-- What is read, and its rows. -/
def ReadP (op : Int) (R : Bs) (w : World) (e : Ending) (w' : World) : Prop :=
  Below w.heap.size w w' ∧ ∃ sA sn sc eA en ec, e = .returned (.agg (anR op R sA sn sc eA en ec).cs) ∧ AnR w' (anR op R sA sn sc eA en ec) (seensR op R) (evtsR op R) ∧ (∀ g o, sA = some ⟨g, o, none⟩ → w.heap.size ≤ g) ∧ (∀ g o, eA = some ⟨g, o, none⟩ → w.heap.size ≤ g)
theorem rows_none (w : World) (op : Int) (R : Bs) (h1 : seensR op R = []) (h2 : evtsR op R = []) : AnR w (anR op R none 0 0 none 0 0) (seensR op R) (evtsR op R) := by
  rw [h1, h2]
  exact ⟨ERd.of_own elOS_ok (EOwn.nil_ w), ERd.of_own elOE_ok (EOwn.nil_ w), rfl, rfl, by simp, by simp⟩
/-- An answer's block set whole. -/
theorem blk12 {w : World} {g : Nat} {t : TypeId} {x0 x1 x2 x3 x4 x5 x6 x7 x8 x9 x10 x11 : Value} (h : Blk w g t #[x0, x1, x2, x3, x4, x5, x6, x7, x8, x9, x10, x11]) (y0 y1 y2 y3 y4 y5 y6 y7 y8 y9 y10 y11 : Value) :
    Blk ((((((((((((w.setCell ⟨g, 0, none⟩ y0).setCell ⟨g, 1, none⟩ y1).setCell ⟨g, 2, none⟩ y2).setCell ⟨g, 3, none⟩ y3).setCell ⟨g, 4, none⟩ y4).setCell ⟨g, 5, none⟩ y5).setCell ⟨g, 6, none⟩ y6).setCell ⟨g, 7, none⟩ y7).setCell ⟨g, 8, none⟩ y8).setCell ⟨g, 9, none⟩ y9).setCell ⟨g, 10, none⟩ y10).setCell ⟨g, 11, none⟩ y11) g t #[y0, y1, y2, y3, y4, y5, y6, y7, y8, y9, y10, y11] := by
  have h9 := (((((((((((h.set_ 0 y0).set_ 1 y1).set_ 2 y2).set_ 3 y3).set_ 4 y4).set_ 5 y5).set_ 6 y6).set_ 7 y7).set_ 8 y8).set_ 9 y9).set_ 10 y10).set_ 11 y11
  simpa using h9
theorem nf12 {S : List Nat} {w : World} {g : Nat} (hg : g ∈ S) (y0 y1 y2 y3 y4 y5 y6 y7 y8 y9 y10 y11 : Value) :
    Nf S w ((((((((((((w.setCell ⟨g, 0, none⟩ y0).setCell ⟨g, 1, none⟩ y1).setCell ⟨g, 2, none⟩ y2).setCell ⟨g, 3, none⟩ y3).setCell ⟨g, 4, none⟩ y4).setCell ⟨g, 5, none⟩ y5).setCell ⟨g, 6, none⟩ y6).setCell ⟨g, 7, none⟩ y7).setCell ⟨g, 8, none⟩ y8).setCell ⟨g, 9, none⟩ y9).setCell ⟨g, 10, none⟩ y10).setCell ⟨g, 11, none⟩ y11) :=
  (((((((((((Nf.set w 0 y0 hg).trans (Nf.set _ 1 y1 hg)).trans (Nf.set _ 2 y2 hg)).trans (Nf.set _ 3 y3 hg)).trans (Nf.set _ 4 y4 hg)).trans (Nf.set _ 5 y5 hg)).trans (Nf.set _ 6 y6 hg)).trans (Nf.set _ 7 y7 hg)).trans (Nf.set _ 8 y8 hg)).trans (Nf.set _ 9 y9 hg)).trans (Nf.set _ 10 y10 hg)).trans (Nf.set _ 11 y11 hg)
theorem Blk.far4w {w : World} {g : Nat} {t : TypeId} {cs : Array Value} (h : Blk w g t cs) (k : Nat) (hk : g ≠ k) (a b c d : Nat) (x y z u : Value) : Blk ((((w.setCell ⟨k, a, none⟩ x).setCell ⟨k, b, none⟩ y).setCell ⟨k, c, none⟩ z).setCell ⟨k, d, none⟩ u) g t cs :=
  (((h.far (p := ⟨k, a, none⟩) hk x).far (p := ⟨k, b, none⟩) hk y).far (p := ⟨k, c, none⟩) hk z).far (p := ⟨k, d, none⟩) hk u
set_option maxRecDepth 100000 in
set_option maxHeartbeats 8000000 in
theorem read_else {R : Bs} (w : World) (op : Int) (A : Option Addr) (c : Nat) (h4 : op ≠ 4) (h5 : op ≠ 5) (h10 : op ≠ 10) (h12 : op ≠ 12) (h13 : op ≠ 13) (h14 : op ≠ 14) (h15 : op ≠ 15) (h16 : op ≠ 16) (h17 : op ≠ 17) (h18 : op ≠ 18) (hl : 3 ≤ R.length) (hl9 : R.length ≤ 1000) (hc : R.length ≤ c) (hm : c ≤ maxLen) (hr : RB w A R.length R) :
    Calls Try.prog 38 #[.int .i64 op, .slice A R.length c] w (ReadP op R w) := by
  obtain ⟨n, hn⟩ : ∃ n, n = R.length := ⟨_, rfl⟩
  rw [← hn]
  obtain ⟨W, hW⟩ : ∃ W, W = (((((w.alloc (.cells #[.int .i64 0, .int .u64 0, .int .i64 0, .int .i64 0, .int .i64 0, .int .i64 0, .int .i64 0, .int .i64 0, .int .i64 0, .int .i64 0, .slice none 0 0, .slice none 0 0] TA)).alloc (.cells #[.int .i64 0, .int .u64 0, .int .i64 0, .int .i64 0, .int .i64 0, .int .i64 0, .int .i64 0, .int .i64 0, .int .i64 0, .int .i64 0, .slice none 0 0, .slice none 0 0] TA)).alloc (.cells #[.int .i64 0] 3)).alloc (.cells #[.int .i64 0] 3)).alloc (.cells #[.slice A n c] TRs)).alloc (.cells #[.pointer (some ⟨w.heap.size + 1, 0, none⟩), .pointer (some ⟨w.heap.size + 1 + 1, 0, none⟩), .pointer (some ⟨w.heap.size + 1 + 1 + 1, 0, none⟩)] 80) := ⟨_, rfl⟩
  have hb0 : Below w.heap.size w W := by rw [hW]; exact ((((((Below.refl _ _).alloc (Nat.le_refl _) _).alloc (by simp) _).alloc (by simp; omega) _).alloc (by simp; omega) _).alloc (by simp; omega) _).alloc (by simp; omega) _
  have K4 : Blk W w.heap.size TA #[.int .i64 0, .int .u64 0, .int .i64 0, .int .i64 0, .int .i64 0, .int .i64 0, .int .i64 0, .int .i64 0, .int .i64 0, .int .i64 0, .slice none 0 0, .slice none 0 0] := by rw [hW]; exact (((((Blk.new w _ _).alloc _).alloc _).alloc _).alloc _).alloc _
  have K5 : Blk W (w.heap.size + 1) TA #[.int .i64 0, .int .u64 0, .int .i64 0, .int .i64 0, .int .i64 0, .int .i64 0, .int .i64 0, .int .i64 0, .int .i64 0, .int .i64 0, .slice none 0 0, .slice none 0 0] := by rw [hW]; exact ((((Blk.newAt (by simp)).alloc _).alloc _).alloc _).alloc _
  have K6 : Blk W (w.heap.size + 1 + 1) 3 #[.int .i64 0] := by rw [hW]; exact (((Blk.newAt (by simp)).alloc _).alloc _).alloc _
  have K7 : Blk W (w.heap.size + 1 + 1 + 1) 3 #[.int .i64 0] := by rw [hW]; exact ((Blk.newAt (by simp)).alloc _).alloc _
  have K8 : Blk W (w.heap.size + 1 + 1 + 1 + 1) TRs #[.slice A R.length c] := by rw [hW, hn]; exact (Blk.newAt (by simp)).alloc _
  have K9 : Blk W (w.heap.size + 1 + 1 + 1 + 1 + 1) 80 #[.pointer (some ⟨w.heap.size + 1, 0, none⟩), .pointer (some ⟨w.heap.size + 1 + 1, 0, none⟩), .pointer (some ⟨w.heap.size + 1 + 1 + 1, 0, none⟩)] := by rw [hW]; exact Blk.newAt (by simp)
  have KR : RS w.heap.size (w.heap.size + 1 + 1 + 1 + 1) R W := ⟨by omega, A, c, K8, hc, hm, Reads.below hr hb0⟩
  have HN0 := Lib.hid (nums_abc W 1 (w.heap.size + 1 + 1 + 1 + 1 + 1) 3 (w.heap.size + 1) (w.heap.size + 1 + 1) (w.heap.size + 1 + 1 + 1) 0 0 0 TA 3 3 #[.int .i64 0, .int .u64 0, .int .i64 0, .int .i64 0, .int .i64 0, .int .i64 0, .int .i64 0, .int .i64 0, .int .i64 0, .int .i64 0, .slice none 0 0, .slice none 0 0] #[.int .i64 0] #[.int .i64 0] (by decide) (by decide) KR K9 (by omega) (by omega) K5 (by omega) (by omega) (by omega) K6 (by omega) (by omega) (by omega) K7 (by omega) (by omega) (by omega) (by omega) (by omega) (by omega) (by simp) (by simp) (by simp))
  have HB0 := Lib.hid hb0
  have HK4 := Lib.hid K4
  have HV0 := Lib.hid (gI0 R 1)
  have HV2 : Hid (gI R 2 1 = ((getB (((R.drop 1).drop 1).take 1) : Nat) : Int)) := Lib.hid (by unfold gI; simp only [List.drop_drop])
  have HL := Lib.hid hl
  have HL9 := Lib.hid hl9
  have hWs := hW.symm
  clear hW hb0 K4 K5 K6 K7 K8 K9 KR hr hc hm hl hl9 hn
  go_enter Try.func38, Try.ntmps38
  go_wp2_with fail
  refine HN0.out.mono ?_
  rintro e w1 ⟨rfl, hrs, hba, hbs, hbi, hnf⟩
  have HRS := Lib.hid hrs
  have HB1 := Lib.hid (hnf.below HB0.out (by simp; omega))
  have H4 := Lib.hid (hnf.blk HK4.out (by simp; omega))
  simp only [List.setIfInBounds_toArray, List.set_cons_zero, List.set_cons_succ] at hba hbs hbi
  rw [← HV0.out] at hba
  rw [← HV2.out] at hbi
  have HA := Lib.hid hba
  have HI := Lib.hid hbi
  have HR3 : Hid (((R.drop 1).drop 1).drop 1 = R.drop 3) := Lib.hid (by simp only [List.drop_drop])
  rw [HR3.out] at HRS
  clear hrs hba hbs hbi hnf hWs HV0 HV2 HR3 HN0
  have HAN : Hid ((anR op R none 0 0 none 0 0).cs = #[.int .i64 (gI R 0 1), .int .u64 0, .int .i64 0, .int .i64 0, .int .i64 0, .int .i64 0, .int .i64 0, .int .i64 0, .int .i64 0, .int .i64 0, .slice none 0 0, .slice none 0 0]) := Lib.hid (by unfold anR; rw [if_neg (by omega), if_neg h12, if_neg h12, if_neg h12, if_neg h10, if_neg h10, if_neg h10, if_neg h10]; rfl)
  have HSE : Hid (seensR op R = []) := Lib.hid (by unfold seensR; rw [if_neg (by omega)])
  have HEV : Hid (evtsR op R = []) := Lib.hid (by unfold evtsR; rw [if_neg (by omega)])
  have b4 : (op == 4) = false := beq_eq_false_iff_ne.2 h4
  have b5 : (op == 5) = false := beq_eq_false_iff_ne.2 h5
  have b10 : (op == 10) = false := beq_eq_false_iff_ne.2 h10
  have b12 : (op == 12) = false := beq_eq_false_iff_ne.2 h12
  have b13 : (op == 13) = false := beq_eq_false_iff_ne.2 h13
  have b14 : (op == 14) = false := beq_eq_false_iff_ne.2 h14
  have b15 : (op == 15) = false := beq_eq_false_iff_ne.2 h15
  have b16 : (op == 16) = false := beq_eq_false_iff_ne.2 h16
  have b17 : (op == 17) = false := beq_eq_false_iff_ne.2 h17
  have b18 : (op == 18) = false := beq_eq_false_iff_ne.2 h18
  have HB := HB1
  have t0 := HA.out.cell 0
  have t1 := HA.out.cell 1
  have t2 := HA.out.cell 2
  have t3 := HA.out.cell 3
  have t4 := HA.out.cell 4
  have t5 := HA.out.cell 5
  have t6 := HA.out.cell 6
  have t7 := HA.out.cell 7
  have t8 := HA.out.cell 8
  have t9 := HA.out.cell 9
  have t10 := HA.out.cell 10
  have t11 := HA.out.cell 11
  simp only [List.getElem?_toArray, List.getElem?_cons_zero, List.getElem?_cons_succ] at t0 t1 t2 t3 t4 t5 t6 t7 t8 t9 t10 t11
  have s0 := H4.out.cell 0
  have s1 := H4.out.cell 1
  have s2 := H4.out.cell 2
  have s3 := H4.out.cell 3
  have s4 := H4.out.cell 4
  have s5 := H4.out.cell 5
  have s6 := H4.out.cell 6
  have s7 := H4.out.cell 7
  have s8 := H4.out.cell 8
  have s9 := H4.out.cell 9
  have s10 := H4.out.cell 10
  have s11 := H4.out.cell 11
  simp only [List.getElem?_toArray, List.getElem?_cons_zero, List.getElem?_cons_succ] at s0 s1 s2 s3 s4 s5 s6 s7 s8 s9 s10 s11
  have f0 := H4.out.frozen 0
  have f1 := H4.out.frozen 1
  have f2 := H4.out.frozen 2
  have f3 := H4.out.frozen 3
  have f4 := H4.out.frozen 4
  have f5 := H4.out.frozen 5
  have f6 := H4.out.frozen 6
  have f7 := H4.out.frozen 7
  have f8 := H4.out.frozen 8
  have f9 := H4.out.frozen 9
  have f10 := H4.out.frozen 10
  have f11 := H4.out.frozen 11
  go_wp2_with fail
  (try simp only [Exit.inBlock, Exit.then])
  refine bodyPost_ret (results_cell_row rfl _ _ _ _ _ _ _ rfl (blk12 H4.out _ _ _ _ _ _ _ _ _ _ _ _) rfl rfl (by rfl)) rfl ?_
  refine ⟨(nf12 (S := [w.heap.size]) (by simp) _ _ _ _ _ _ _ _ _ _ _ _).below HB.out (by simp), none, 0, 0, none, 0, 0, ?_, rows_none _ _ R ?_ ?_, fun g o h => (by cases h), fun g o h => (by cases h)⟩
  · rw [HAN.out]
  · exact HSE.out
  · exact HEV.out
set_option maxRecDepth 100000 in
set_option maxHeartbeats 8000000 in
theorem read_mint {R : Bs} (w : World) (op : Int) (A : Option Addr) (c : Nat) (hop : op = 4) (hl : 11 ≤ R.length) (hl9 : R.length ≤ 1000) (hc : R.length ≤ c) (hm : c ≤ maxLen) (hr : RB w A R.length R) :
    Calls Try.prog 38 #[.int .i64 op, .slice A R.length c] w (ReadP op R w) := by
  obtain ⟨n, hn⟩ : ∃ n, n = R.length := ⟨_, rfl⟩
  rw [← hn]
  obtain ⟨W, hW⟩ : ∃ W, W = (((((w.alloc (.cells #[.int .i64 0, .int .u64 0, .int .i64 0, .int .i64 0, .int .i64 0, .int .i64 0, .int .i64 0, .int .i64 0, .int .i64 0, .int .i64 0, .slice none 0 0, .slice none 0 0] TA)).alloc (.cells #[.int .i64 0, .int .u64 0, .int .i64 0, .int .i64 0, .int .i64 0, .int .i64 0, .int .i64 0, .int .i64 0, .int .i64 0, .int .i64 0, .slice none 0 0, .slice none 0 0] TA)).alloc (.cells #[.int .i64 0] 3)).alloc (.cells #[.int .i64 0] 3)).alloc (.cells #[.slice A n c] TRs)).alloc (.cells #[.pointer (some ⟨w.heap.size + 1, 0, none⟩), .pointer (some ⟨w.heap.size + 1 + 1, 0, none⟩), .pointer (some ⟨w.heap.size + 1 + 1 + 1, 0, none⟩)] 80) := ⟨_, rfl⟩
  have hb0 : Below w.heap.size w W := by rw [hW]; exact ((((((Below.refl _ _).alloc (Nat.le_refl _) _).alloc (by simp) _).alloc (by simp; omega) _).alloc (by simp; omega) _).alloc (by simp; omega) _).alloc (by simp; omega) _
  have K4 : Blk W w.heap.size TA #[.int .i64 0, .int .u64 0, .int .i64 0, .int .i64 0, .int .i64 0, .int .i64 0, .int .i64 0, .int .i64 0, .int .i64 0, .int .i64 0, .slice none 0 0, .slice none 0 0] := by rw [hW]; exact (((((Blk.new w _ _).alloc _).alloc _).alloc _).alloc _).alloc _
  have K5 : Blk W (w.heap.size + 1) TA #[.int .i64 0, .int .u64 0, .int .i64 0, .int .i64 0, .int .i64 0, .int .i64 0, .int .i64 0, .int .i64 0, .int .i64 0, .int .i64 0, .slice none 0 0, .slice none 0 0] := by rw [hW]; exact ((((Blk.newAt (by simp)).alloc _).alloc _).alloc _).alloc _
  have K6 : Blk W (w.heap.size + 1 + 1) 3 #[.int .i64 0] := by rw [hW]; exact (((Blk.newAt (by simp)).alloc _).alloc _).alloc _
  have K7 : Blk W (w.heap.size + 1 + 1 + 1) 3 #[.int .i64 0] := by rw [hW]; exact ((Blk.newAt (by simp)).alloc _).alloc _
  have K8 : Blk W (w.heap.size + 1 + 1 + 1 + 1) TRs #[.slice A R.length c] := by rw [hW, hn]; exact (Blk.newAt (by simp)).alloc _
  have K9 : Blk W (w.heap.size + 1 + 1 + 1 + 1 + 1) 80 #[.pointer (some ⟨w.heap.size + 1, 0, none⟩), .pointer (some ⟨w.heap.size + 1 + 1, 0, none⟩), .pointer (some ⟨w.heap.size + 1 + 1 + 1, 0, none⟩)] := by rw [hW]; exact Blk.newAt (by simp)
  have KR : RS w.heap.size (w.heap.size + 1 + 1 + 1 + 1) R W := ⟨by omega, A, c, K8, hc, hm, Reads.below hr hb0⟩
  have HN0 := Lib.hid (nums_abc W 1 (w.heap.size + 1 + 1 + 1 + 1 + 1) 3 (w.heap.size + 1) (w.heap.size + 1 + 1) (w.heap.size + 1 + 1 + 1) 0 0 0 TA 3 3 #[.int .i64 0, .int .u64 0, .int .i64 0, .int .i64 0, .int .i64 0, .int .i64 0, .int .i64 0, .int .i64 0, .int .i64 0, .int .i64 0, .slice none 0 0, .slice none 0 0] #[.int .i64 0] #[.int .i64 0] (by decide) (by decide) KR K9 (by omega) (by omega) K5 (by omega) (by omega) (by omega) K6 (by omega) (by omega) (by omega) K7 (by omega) (by omega) (by omega) (by omega) (by omega) (by omega) (by simp) (by simp) (by simp))
  have HB0 := Lib.hid hb0
  have HK4 := Lib.hid K4
  have HV0 := Lib.hid (gI0 R 1)
  have HV2 : Hid (gI R 2 1 = ((getB (((R.drop 1).drop 1).take 1) : Nat) : Int)) := Lib.hid (by unfold gI; simp only [List.drop_drop])
  have HL := Lib.hid hl
  have HL9 := Lib.hid hl9
  have hWs := hW.symm
  clear hW hb0 K4 K5 K6 K7 K8 K9 KR hr hc hm hl hl9 hn
  go_enter Try.func38, Try.ntmps38
  go_wp2_with fail
  refine HN0.out.mono ?_
  rintro e w1 ⟨rfl, hrs, hba, hbs, hbi, hnf⟩
  have HRS := Lib.hid hrs
  have HB1 := Lib.hid (hnf.below HB0.out (by simp; omega))
  have H4 := Lib.hid (hnf.blk HK4.out (by simp; omega))
  simp only [List.setIfInBounds_toArray, List.set_cons_zero, List.set_cons_succ] at hba hbs hbi
  rw [← HV0.out] at hba
  rw [← HV2.out] at hbi
  have HA := Lib.hid hba
  have HI := Lib.hid hbi
  have HR3 : Hid (((R.drop 1).drop 1).drop 1 = R.drop 3) := Lib.hid (by simp only [List.drop_drop])
  rw [HR3.out] at HRS
  clear hrs hba hbs hbi hnf hWs HV0 HV2 HR3 HN0
  subst hop
  have HAN : Hid ((anR 4 R none 0 0 none 0 0).cs = #[.int .i64 (gI R 0 1), .int .u64 ((secR R : Nat) : Int), .int .i64 0, .int .i64 0, .int .i64 0, .int .i64 0, .int .i64 0, .int .i64 0, .int .i64 0, .int .i64 0, .slice none 0 0, .slice none 0 0]) := Lib.hid rfl
  have HSE : Hid (seensR 4 R = []) := Lib.hid rfl
  have HEV : Hid (evtsR 4 R = []) := Lib.hid rfl
  have HCT := Lib.hid (rcut_any w1 8 HRS.out (by have := HL.out; simp only [List.length_drop]; omega))
  have HSZ1 := Lib.hid HRS.out.lt
  go_wp2_with fail
  refine HCT.out.mono ?_
  rintro e v1 ⟨A1, rfl, hrd, hrs, u1, hu1⟩
  have HA1 := Lib.hid (show Blk v1 (w.heap.size + 1) TA _ by rw [hu1]; exact HA.out.far (p := ⟨(w.heap.size + 1 + 1 + 1 + 1), 0, none⟩) (by simp) _)
  have H41 := Lib.hid (show Blk v1 w.heap.size TA _ by rw [hu1]; exact H4.out.far (p := ⟨(w.heap.size + 1 + 1 + 1 + 1), 0, none⟩) (by simp; omega) _)
  have HB2 := Lib.hid (show Below w.heap.size w v1 by rw [hu1]; exact (Nf.set (S := [(w.heap.size + 1 + 1 + 1 + 1)]) (g := (w.heap.size + 1 + 1 + 1 + 1)) w1 0 u1 (by simp)).below HB1.out (by simp; omega))
  have HRB : Hid (RB v1 A1 8 ((R.drop 3).take 8)) := Lib.hid (by
    have h9 : Reads v1 w.heap.size 1 A1 8 (bv ((R.drop 3).take 8)) := by rw [hu1]; exact hrd.setCell (p := ⟨(w.heap.size + 1 + 1 + 1 + 1), 0, none⟩) (by simp; omega) _
    exact h9.more HB2.out.size)
  have HGT := Lib.hid (get_any A1 8 8 ((R.drop 3).take 8) v1 HRB.out (by decide) (by decide))
  have HSC : Hid (secR R = getB ((R.drop 3).take 8)) := Lib.hid rfl
  rw [← HSC.out] at HGT
  clear hrd hrs hu1 HRB HCT HSC
  generalize secR R = sc at *
  have t0 := HA1.out.cell 0
  have t1 := HA1.out.cell 1
  have t2 := HA1.out.cell 2
  have t3 := HA1.out.cell 3
  have t4 := HA1.out.cell 4
  have t5 := HA1.out.cell 5
  have t6 := HA1.out.cell 6
  have t7 := HA1.out.cell 7
  have t8 := HA1.out.cell 8
  have t9 := HA1.out.cell 9
  have t10 := HA1.out.cell 10
  have t11 := HA1.out.cell 11
  simp only [List.getElem?_toArray, List.getElem?_cons_zero, List.getElem?_cons_succ] at t0 t1 t2 t3 t4 t5 t6 t7 t8 t9 t10 t11
  have s0 := H41.out.cell 0
  have s1 := H41.out.cell 1
  have s2 := H41.out.cell 2
  have s3 := H41.out.cell 3
  have s4 := H41.out.cell 4
  have s5 := H41.out.cell 5
  have s6 := H41.out.cell 6
  have s7 := H41.out.cell 7
  have s8 := H41.out.cell 8
  have s9 := H41.out.cell 9
  have s10 := H41.out.cell 10
  have s11 := H41.out.cell 11
  simp only [List.getElem?_toArray, List.getElem?_cons_zero, List.getElem?_cons_succ] at s0 s1 s2 s3 s4 s5 s6 s7 s8 s9 s10 s11
  have f0 := H41.out.frozen 0
  have f1 := H41.out.frozen 1
  have f2 := H41.out.frozen 2
  have f3 := H41.out.frozen 3
  have f4 := H41.out.frozen 4
  have f5 := H41.out.frozen 5
  have f6 := H41.out.frozen 6
  have f7 := H41.out.frozen 7
  have f8 := H41.out.frozen 8
  have f9 := H41.out.frozen 9
  have f10 := H41.out.frozen 10
  have f11 := H41.out.frozen 11
  have g1 := HA1.out.frozen 1
  go_wp2_with fail
  refine HGT.out.mono ?_
  rintro e vg ⟨rfl, hvg⟩
  subst hvg
  have H42 := Lib.hid (H41.out.far (p := ⟨w.heap.size + 1, 1, none⟩) (by simp) (.int .u64 (sc : Int)))
  have HB := Lib.hid ((Nf.set (S := [w.heap.size + 1]) (g := w.heap.size + 1) v1 1 (.int .u64 (sc : Int)) (by simp)).below HB2.out (by simp))
  go_wp2_with fail
  (try simp only [Exit.inBlock, Exit.then])
  refine bodyPost_ret (results_cell_row rfl _ _ _ _ _ _ _ rfl (blk12 H42.out _ _ _ _ _ _ _ _ _ _ _ _) rfl rfl (by rfl)) rfl ?_
  refine ⟨(nf12 (S := [w.heap.size]) (by simp) _ _ _ _ _ _ _ _ _ _ _ _).below HB.out (by simp), none, 0, 0, none, 0, 0, ?_, rows_none _ _ R ?_ ?_, fun g o h => (by cases h), fun g o h => (by cases h)⟩
  · rw [HAN.out]
  · exact HSE.out
  · exact HEV.out
set_option maxRecDepth 100000 in
set_option maxHeartbeats 8000000 in
theorem read_att {R : Bs} (w : World) (op : Int) (A : Option Addr) (c : Nat) (hop : op = 5) (hl : 11 ≤ R.length) (hl9 : R.length ≤ 1000) (hc : R.length ≤ c) (hm : c ≤ maxLen) (hr : RB w A R.length R) :
    Calls Try.prog 38 #[.int .i64 op, .slice A R.length c] w (ReadP op R w) := by
  obtain ⟨n, hn⟩ : ∃ n, n = R.length := ⟨_, rfl⟩
  rw [← hn]
  obtain ⟨W, hW⟩ : ∃ W, W = (((((w.alloc (.cells #[.int .i64 0, .int .u64 0, .int .i64 0, .int .i64 0, .int .i64 0, .int .i64 0, .int .i64 0, .int .i64 0, .int .i64 0, .int .i64 0, .slice none 0 0, .slice none 0 0] TA)).alloc (.cells #[.int .i64 0, .int .u64 0, .int .i64 0, .int .i64 0, .int .i64 0, .int .i64 0, .int .i64 0, .int .i64 0, .int .i64 0, .int .i64 0, .slice none 0 0, .slice none 0 0] TA)).alloc (.cells #[.int .i64 0] 3)).alloc (.cells #[.int .i64 0] 3)).alloc (.cells #[.slice A n c] TRs)).alloc (.cells #[.pointer (some ⟨w.heap.size + 1, 0, none⟩), .pointer (some ⟨w.heap.size + 1 + 1, 0, none⟩), .pointer (some ⟨w.heap.size + 1 + 1 + 1, 0, none⟩)] 80) := ⟨_, rfl⟩
  have hb0 : Below w.heap.size w W := by rw [hW]; exact ((((((Below.refl _ _).alloc (Nat.le_refl _) _).alloc (by simp) _).alloc (by simp; omega) _).alloc (by simp; omega) _).alloc (by simp; omega) _).alloc (by simp; omega) _
  have K4 : Blk W w.heap.size TA #[.int .i64 0, .int .u64 0, .int .i64 0, .int .i64 0, .int .i64 0, .int .i64 0, .int .i64 0, .int .i64 0, .int .i64 0, .int .i64 0, .slice none 0 0, .slice none 0 0] := by rw [hW]; exact (((((Blk.new w _ _).alloc _).alloc _).alloc _).alloc _).alloc _
  have K5 : Blk W (w.heap.size + 1) TA #[.int .i64 0, .int .u64 0, .int .i64 0, .int .i64 0, .int .i64 0, .int .i64 0, .int .i64 0, .int .i64 0, .int .i64 0, .int .i64 0, .slice none 0 0, .slice none 0 0] := by rw [hW]; exact ((((Blk.newAt (by simp)).alloc _).alloc _).alloc _).alloc _
  have K6 : Blk W (w.heap.size + 1 + 1) 3 #[.int .i64 0] := by rw [hW]; exact (((Blk.newAt (by simp)).alloc _).alloc _).alloc _
  have K7 : Blk W (w.heap.size + 1 + 1 + 1) 3 #[.int .i64 0] := by rw [hW]; exact ((Blk.newAt (by simp)).alloc _).alloc _
  have K8 : Blk W (w.heap.size + 1 + 1 + 1 + 1) TRs #[.slice A R.length c] := by rw [hW, hn]; exact (Blk.newAt (by simp)).alloc _
  have K9 : Blk W (w.heap.size + 1 + 1 + 1 + 1 + 1) 80 #[.pointer (some ⟨w.heap.size + 1, 0, none⟩), .pointer (some ⟨w.heap.size + 1 + 1, 0, none⟩), .pointer (some ⟨w.heap.size + 1 + 1 + 1, 0, none⟩)] := by rw [hW]; exact Blk.newAt (by simp)
  have KR : RS w.heap.size (w.heap.size + 1 + 1 + 1 + 1) R W := ⟨by omega, A, c, K8, hc, hm, Reads.below hr hb0⟩
  have HN0 := Lib.hid (nums_abc W 1 (w.heap.size + 1 + 1 + 1 + 1 + 1) 3 (w.heap.size + 1) (w.heap.size + 1 + 1) (w.heap.size + 1 + 1 + 1) 0 0 0 TA 3 3 #[.int .i64 0, .int .u64 0, .int .i64 0, .int .i64 0, .int .i64 0, .int .i64 0, .int .i64 0, .int .i64 0, .int .i64 0, .int .i64 0, .slice none 0 0, .slice none 0 0] #[.int .i64 0] #[.int .i64 0] (by decide) (by decide) KR K9 (by omega) (by omega) K5 (by omega) (by omega) (by omega) K6 (by omega) (by omega) (by omega) K7 (by omega) (by omega) (by omega) (by omega) (by omega) (by omega) (by simp) (by simp) (by simp))
  have HB0 := Lib.hid hb0
  have HK4 := Lib.hid K4
  have HV0 := Lib.hid (gI0 R 1)
  have HV2 : Hid (gI R 2 1 = ((getB (((R.drop 1).drop 1).take 1) : Nat) : Int)) := Lib.hid (by unfold gI; simp only [List.drop_drop])
  have HL := Lib.hid hl
  have HL9 := Lib.hid hl9
  have hWs := hW.symm
  clear hW hb0 K4 K5 K6 K7 K8 K9 KR hr hc hm hl hl9 hn
  go_enter Try.func38, Try.ntmps38
  go_wp2_with fail
  refine HN0.out.mono ?_
  rintro e w1 ⟨rfl, hrs, hba, hbs, hbi, hnf⟩
  have HRS := Lib.hid hrs
  have HB1 := Lib.hid (hnf.below HB0.out (by simp; omega))
  have H4 := Lib.hid (hnf.blk HK4.out (by simp; omega))
  simp only [List.setIfInBounds_toArray, List.set_cons_zero, List.set_cons_succ] at hba hbs hbi
  rw [← HV0.out] at hba
  rw [← HV2.out] at hbi
  have HA := Lib.hid hba
  have HI := Lib.hid hbi
  have HR3 : Hid (((R.drop 1).drop 1).drop 1 = R.drop 3) := Lib.hid (by simp only [List.drop_drop])
  rw [HR3.out] at HRS
  clear hrs hba hbs hbi hnf hWs HV0 HV2 HR3 HN0
  subst hop
  have HAN : Hid ((anR 5 R none 0 0 none 0 0).cs = #[.int .i64 (gI R 0 1), .int .u64 ((secR R : Nat) : Int), .int .i64 0, .int .i64 0, .int .i64 0, .int .i64 0, .int .i64 0, .int .i64 0, .int .i64 0, .int .i64 0, .slice none 0 0, .slice none 0 0]) := Lib.hid rfl
  have HSE : Hid (seensR 5 R = []) := Lib.hid rfl
  have HEV : Hid (evtsR 5 R = []) := Lib.hid rfl
  have HCT := Lib.hid (rcut_any w1 8 HRS.out (by have := HL.out; simp only [List.length_drop]; omega))
  have HSZ1 := Lib.hid HRS.out.lt
  go_wp2_with fail
  refine HCT.out.mono ?_
  rintro e v1 ⟨A1, rfl, hrd, hrs, u1, hu1⟩
  have HA1 := Lib.hid (show Blk v1 (w.heap.size + 1) TA _ by rw [hu1]; exact HA.out.far (p := ⟨(w.heap.size + 1 + 1 + 1 + 1), 0, none⟩) (by simp) _)
  have H41 := Lib.hid (show Blk v1 w.heap.size TA _ by rw [hu1]; exact H4.out.far (p := ⟨(w.heap.size + 1 + 1 + 1 + 1), 0, none⟩) (by simp; omega) _)
  have HB2 := Lib.hid (show Below w.heap.size w v1 by rw [hu1]; exact (Nf.set (S := [(w.heap.size + 1 + 1 + 1 + 1)]) (g := (w.heap.size + 1 + 1 + 1 + 1)) w1 0 u1 (by simp)).below HB1.out (by simp; omega))
  have HRB : Hid (RB v1 A1 8 ((R.drop 3).take 8)) := Lib.hid (by
    have h9 : Reads v1 w.heap.size 1 A1 8 (bv ((R.drop 3).take 8)) := by rw [hu1]; exact hrd.setCell (p := ⟨(w.heap.size + 1 + 1 + 1 + 1), 0, none⟩) (by simp; omega) _
    exact h9.more HB2.out.size)
  have HGT := Lib.hid (get_any A1 8 8 ((R.drop 3).take 8) v1 HRB.out (by decide) (by decide))
  have HSC : Hid (secR R = getB ((R.drop 3).take 8)) := Lib.hid rfl
  rw [← HSC.out] at HGT
  clear hrd hrs hu1 HRB HCT HSC
  generalize secR R = sc at *
  have t0 := HA1.out.cell 0
  have t1 := HA1.out.cell 1
  have t2 := HA1.out.cell 2
  have t3 := HA1.out.cell 3
  have t4 := HA1.out.cell 4
  have t5 := HA1.out.cell 5
  have t6 := HA1.out.cell 6
  have t7 := HA1.out.cell 7
  have t8 := HA1.out.cell 8
  have t9 := HA1.out.cell 9
  have t10 := HA1.out.cell 10
  have t11 := HA1.out.cell 11
  simp only [List.getElem?_toArray, List.getElem?_cons_zero, List.getElem?_cons_succ] at t0 t1 t2 t3 t4 t5 t6 t7 t8 t9 t10 t11
  have s0 := H41.out.cell 0
  have s1 := H41.out.cell 1
  have s2 := H41.out.cell 2
  have s3 := H41.out.cell 3
  have s4 := H41.out.cell 4
  have s5 := H41.out.cell 5
  have s6 := H41.out.cell 6
  have s7 := H41.out.cell 7
  have s8 := H41.out.cell 8
  have s9 := H41.out.cell 9
  have s10 := H41.out.cell 10
  have s11 := H41.out.cell 11
  simp only [List.getElem?_toArray, List.getElem?_cons_zero, List.getElem?_cons_succ] at s0 s1 s2 s3 s4 s5 s6 s7 s8 s9 s10 s11
  have f0 := H41.out.frozen 0
  have f1 := H41.out.frozen 1
  have f2 := H41.out.frozen 2
  have f3 := H41.out.frozen 3
  have f4 := H41.out.frozen 4
  have f5 := H41.out.frozen 5
  have f6 := H41.out.frozen 6
  have f7 := H41.out.frozen 7
  have f8 := H41.out.frozen 8
  have f9 := H41.out.frozen 9
  have f10 := H41.out.frozen 10
  have f11 := H41.out.frozen 11
  have g1 := HA1.out.frozen 1
  go_wp2_with fail
  refine HGT.out.mono ?_
  rintro e vg ⟨rfl, hvg⟩
  subst hvg
  have H42 := Lib.hid (H41.out.far (p := ⟨w.heap.size + 1, 1, none⟩) (by simp) (.int .u64 (sc : Int)))
  have HB := Lib.hid ((Nf.set (S := [w.heap.size + 1]) (g := w.heap.size + 1) v1 1 (.int .u64 (sc : Int)) (by simp)).below HB2.out (by simp))
  go_wp2_with fail
  (try simp only [Exit.inBlock, Exit.then])
  refine bodyPost_ret (results_cell_row rfl _ _ _ _ _ _ _ rfl (blk12 H42.out _ _ _ _ _ _ _ _ _ _ _ _) rfl rfl (by rfl)) rfl ?_
  refine ⟨(nf12 (S := [w.heap.size]) (by simp) _ _ _ _ _ _ _ _ _ _ _ _).below HB.out (by simp), none, 0, 0, none, 0, 0, ?_, rows_none _ _ R ?_ ?_, fun g o h => (by cases h), fun g o h => (by cases h)⟩
  · rw [HAN.out]
  · exact HSE.out
  · exact HEV.out
set_option maxRecDepth 100000 in
set_option maxHeartbeats 8000000 in
theorem read_pub {R : Bs} (w : World) (op : Int) (A : Option Addr) (c : Nat) (hop : op = 10) (hl : 11 ≤ R.length) (hl9 : R.length ≤ 1000) (hc : R.length ≤ c) (hm : c ≤ maxLen) (hr : RB w A R.length R) :
    Calls Try.prog 38 #[.int .i64 op, .slice A R.length c] w (ReadP op R w) := by
  obtain ⟨n, hn⟩ : ∃ n, n = R.length := ⟨_, rfl⟩
  rw [← hn]
  obtain ⟨W, hW⟩ : ∃ W, W = (((((w.alloc (.cells #[.int .i64 0, .int .u64 0, .int .i64 0, .int .i64 0, .int .i64 0, .int .i64 0, .int .i64 0, .int .i64 0, .int .i64 0, .int .i64 0, .slice none 0 0, .slice none 0 0] TA)).alloc (.cells #[.int .i64 0, .int .u64 0, .int .i64 0, .int .i64 0, .int .i64 0, .int .i64 0, .int .i64 0, .int .i64 0, .int .i64 0, .int .i64 0, .slice none 0 0, .slice none 0 0] TA)).alloc (.cells #[.int .i64 0] 3)).alloc (.cells #[.int .i64 0] 3)).alloc (.cells #[.slice A n c] TRs)).alloc (.cells #[.pointer (some ⟨w.heap.size + 1, 0, none⟩), .pointer (some ⟨w.heap.size + 1 + 1, 0, none⟩), .pointer (some ⟨w.heap.size + 1 + 1 + 1, 0, none⟩)] 80) := ⟨_, rfl⟩
  have hb0 : Below w.heap.size w W := by rw [hW]; exact ((((((Below.refl _ _).alloc (Nat.le_refl _) _).alloc (by simp) _).alloc (by simp; omega) _).alloc (by simp; omega) _).alloc (by simp; omega) _).alloc (by simp; omega) _
  have K4 : Blk W w.heap.size TA #[.int .i64 0, .int .u64 0, .int .i64 0, .int .i64 0, .int .i64 0, .int .i64 0, .int .i64 0, .int .i64 0, .int .i64 0, .int .i64 0, .slice none 0 0, .slice none 0 0] := by rw [hW]; exact (((((Blk.new w _ _).alloc _).alloc _).alloc _).alloc _).alloc _
  have K5 : Blk W (w.heap.size + 1) TA #[.int .i64 0, .int .u64 0, .int .i64 0, .int .i64 0, .int .i64 0, .int .i64 0, .int .i64 0, .int .i64 0, .int .i64 0, .int .i64 0, .slice none 0 0, .slice none 0 0] := by rw [hW]; exact ((((Blk.newAt (by simp)).alloc _).alloc _).alloc _).alloc _
  have K6 : Blk W (w.heap.size + 1 + 1) 3 #[.int .i64 0] := by rw [hW]; exact (((Blk.newAt (by simp)).alloc _).alloc _).alloc _
  have K7 : Blk W (w.heap.size + 1 + 1 + 1) 3 #[.int .i64 0] := by rw [hW]; exact ((Blk.newAt (by simp)).alloc _).alloc _
  have K8 : Blk W (w.heap.size + 1 + 1 + 1 + 1) TRs #[.slice A R.length c] := by rw [hW, hn]; exact (Blk.newAt (by simp)).alloc _
  have K9 : Blk W (w.heap.size + 1 + 1 + 1 + 1 + 1) 80 #[.pointer (some ⟨w.heap.size + 1, 0, none⟩), .pointer (some ⟨w.heap.size + 1 + 1, 0, none⟩), .pointer (some ⟨w.heap.size + 1 + 1 + 1, 0, none⟩)] := by rw [hW]; exact Blk.newAt (by simp)
  have KR : RS w.heap.size (w.heap.size + 1 + 1 + 1 + 1) R W := ⟨by omega, A, c, K8, hc, hm, Reads.below hr hb0⟩
  have HN0 := Lib.hid (nums_abc W 1 (w.heap.size + 1 + 1 + 1 + 1 + 1) 3 (w.heap.size + 1) (w.heap.size + 1 + 1) (w.heap.size + 1 + 1 + 1) 0 0 0 TA 3 3 #[.int .i64 0, .int .u64 0, .int .i64 0, .int .i64 0, .int .i64 0, .int .i64 0, .int .i64 0, .int .i64 0, .int .i64 0, .int .i64 0, .slice none 0 0, .slice none 0 0] #[.int .i64 0] #[.int .i64 0] (by decide) (by decide) KR K9 (by omega) (by omega) K5 (by omega) (by omega) (by omega) K6 (by omega) (by omega) (by omega) K7 (by omega) (by omega) (by omega) (by omega) (by omega) (by omega) (by simp) (by simp) (by simp))
  have HB0 := Lib.hid hb0
  have HK4 := Lib.hid K4
  have HV0 := Lib.hid (gI0 R 1)
  have HV2 : Hid (gI R 2 1 = ((getB (((R.drop 1).drop 1).take 1) : Nat) : Int)) := Lib.hid (by unfold gI; simp only [List.drop_drop])
  have HL := Lib.hid hl
  have HL9 := Lib.hid hl9
  have hWs := hW.symm
  clear hW hb0 K4 K5 K6 K7 K8 K9 KR hr hc hm hl hl9 hn
  go_enter Try.func38, Try.ntmps38
  go_wp2_with fail
  refine HN0.out.mono ?_
  rintro e w1 ⟨rfl, hrs, hba, hbs, hbi, hnf⟩
  have HRS := Lib.hid hrs
  have HB1 := Lib.hid (hnf.below HB0.out (by simp; omega))
  have H4 := Lib.hid (hnf.blk HK4.out (by simp; omega))
  simp only [List.setIfInBounds_toArray, List.set_cons_zero, List.set_cons_succ] at hba hbs hbi
  rw [← HV0.out] at hba
  rw [← HV2.out] at hbi
  have HA := Lib.hid hba
  have HI := Lib.hid hbi
  have HR3 : Hid (((R.drop 1).drop 1).drop 1 = R.drop 3) := Lib.hid (by simp only [List.drop_drop])
  rw [HR3.out] at HRS
  clear hrs hba hbs hbi hnf hWs HV0 HV2 HR3 HN0
  subst hop
  have HAN : Hid ((anR 10 R none 0 0 none 0 0).cs = #[.int .i64 (gI R 0 1), .int .u64 0, .int .i64 0, .int .i64 0, .int .i64 0, .int .i64 0, .int .i64 (gI R 3 2), .int .i64 (gI R 5 2), .int .i64 (gI R 7 2), .int .i64 (gI R 9 2), .slice none 0 0, .slice none 0 0]) := Lib.hid rfl
  have HSE : Hid (seensR 10 R = []) := Lib.hid rfl
  have HEV : Hid (evtsR 10 R = []) := Lib.hid rfl
  have HBX := Lib.hid (rbox_any w1 HRS.out)
  have HG0 : Hid (gI (R.drop 3) 0 2 = gI R 3 2) := Lib.hid (by unfold gI; simp only [List.drop_drop])
  have HG1 : Hid (gI (R.drop 3) 2 2 = gI R 5 2) := Lib.hid (by unfold gI; simp only [List.drop_drop])
  have HG2 : Hid (gI (R.drop 3) 4 2 = gI R 7 2) := Lib.hid (by unfold gI; simp only [List.drop_drop])
  have HG3 : Hid (gI (R.drop 3) 6 2 = gI R 9 2) := Lib.hid (by unfold gI; simp only [List.drop_drop])
  rw [HG0.out, HG1.out, HG2.out, HG3.out] at HBX
  clear HG0 HG1 HG2 HG3
  go_wp2_with fail
  refine HBX.out.mono ?_
  rintro e v1 ⟨rfl, htk⟩
  have HA1 := Lib.hid (htk.but.blk HA.out (by omega))
  have H41 := Lib.hid (htk.but.blk H4.out (by omega))
  have HB2 := Lib.hid (Below.but HB1.out htk.but (by omega) (Nat.le_refl _))
  clear htk HBX
  generalize gI R 3 2 = m0 at *
  generalize gI R 5 2 = m1 at *
  generalize gI R 7 2 = m2 at *
  generalize gI R 9 2 = m3 at *
  have t0 := HA1.out.cell 0
  have t1 := HA1.out.cell 1
  have t2 := HA1.out.cell 2
  have t3 := HA1.out.cell 3
  have t4 := HA1.out.cell 4
  have t5 := HA1.out.cell 5
  have t6 := HA1.out.cell 6
  have t7 := HA1.out.cell 7
  have t8 := HA1.out.cell 8
  have t9 := HA1.out.cell 9
  have t10 := HA1.out.cell 10
  have t11 := HA1.out.cell 11
  simp only [List.getElem?_toArray, List.getElem?_cons_zero, List.getElem?_cons_succ] at t0 t1 t2 t3 t4 t5 t6 t7 t8 t9 t10 t11
  have s0 := H41.out.cell 0
  have s1 := H41.out.cell 1
  have s2 := H41.out.cell 2
  have s3 := H41.out.cell 3
  have s4 := H41.out.cell 4
  have s5 := H41.out.cell 5
  have s6 := H41.out.cell 6
  have s7 := H41.out.cell 7
  have s8 := H41.out.cell 8
  have s9 := H41.out.cell 9
  have s10 := H41.out.cell 10
  have s11 := H41.out.cell 11
  simp only [List.getElem?_toArray, List.getElem?_cons_zero, List.getElem?_cons_succ] at s0 s1 s2 s3 s4 s5 s6 s7 s8 s9 s10 s11
  have f0 := H41.out.frozen 0
  have f1 := H41.out.frozen 1
  have f2 := H41.out.frozen 2
  have f3 := H41.out.frozen 3
  have f4 := H41.out.frozen 4
  have f5 := H41.out.frozen 5
  have f6 := H41.out.frozen 6
  have f7 := H41.out.frozen 7
  have f8 := H41.out.frozen 8
  have f9 := H41.out.frozen 9
  have f10 := H41.out.frozen 10
  have f11 := H41.out.frozen 11
  have g6 := HA1.out.frozen 6
  have g7 := HA1.out.frozen 7
  have g8 := HA1.out.frozen 8
  have g9 := HA1.out.frozen 9
  have H42 := Lib.hid (H41.out.far4w (w.heap.size + 1) (by simp) 6 7 8 9 (.int .i64 m0) (.int .i64 m1) (.int .i64 m2) (.int .i64 m3))
  have HB := Lib.hid (((((Nf.set (S := [w.heap.size + 1]) (g := w.heap.size + 1) v1 6 (.int .i64 m0) (by simp)).trans (Nf.set (g := w.heap.size + 1) _ 7 (.int .i64 m1) (by simp))).trans (Nf.set (g := w.heap.size + 1) _ 8 (.int .i64 m2) (by simp))).trans (Nf.set (g := w.heap.size + 1) _ 9 (.int .i64 m3) (by simp))).below HB2.out (by simp))
  go_wp2_with fail
  (try simp only [Exit.inBlock, Exit.then])
  refine bodyPost_ret (results_cell_row rfl _ _ _ _ _ _ _ rfl (blk12 H42.out _ _ _ _ _ _ _ _ _ _ _ _) rfl rfl (by rfl)) rfl ?_
  refine ⟨(nf12 (S := [w.heap.size]) (by simp) _ _ _ _ _ _ _ _ _ _ _ _).below HB.out (by simp), none, 0, 0, none, 0, 0, ?_, rows_none _ _ R ?_ ?_, fun g o h => (by cases h), fun g o h => (by cases h)⟩
  · rw [HAN.out]
  · exact HSE.out
  · exact HEV.out
set_option maxRecDepth 100000 in
set_option maxHeartbeats 8000000 in
theorem read_where {R : Bs} (w : World) (op : Int) (A : Option Addr) (c : Nat) (hop : op = 12) (hl : 8 ≤ R.length) (hl9 : R.length ≤ 1000) (hc : R.length ≤ c) (hm : c ≤ maxLen) (hr : RB w A R.length R) :
    Calls Try.prog 38 #[.int .i64 op, .slice A R.length c] w (ReadP op R w) := by
  obtain ⟨n, hn⟩ : ∃ n, n = R.length := ⟨_, rfl⟩
  rw [← hn]
  obtain ⟨W, hW⟩ : ∃ W, W = (((((w.alloc (.cells #[.int .i64 0, .int .u64 0, .int .i64 0, .int .i64 0, .int .i64 0, .int .i64 0, .int .i64 0, .int .i64 0, .int .i64 0, .int .i64 0, .slice none 0 0, .slice none 0 0] TA)).alloc (.cells #[.int .i64 0, .int .u64 0, .int .i64 0, .int .i64 0, .int .i64 0, .int .i64 0, .int .i64 0, .int .i64 0, .int .i64 0, .int .i64 0, .slice none 0 0, .slice none 0 0] TA)).alloc (.cells #[.int .i64 0] 3)).alloc (.cells #[.int .i64 0] 3)).alloc (.cells #[.slice A n c] TRs)).alloc (.cells #[.pointer (some ⟨w.heap.size + 1, 0, none⟩), .pointer (some ⟨w.heap.size + 1 + 1, 0, none⟩), .pointer (some ⟨w.heap.size + 1 + 1 + 1, 0, none⟩)] 80) := ⟨_, rfl⟩
  have hb0 : Below w.heap.size w W := by rw [hW]; exact ((((((Below.refl _ _).alloc (Nat.le_refl _) _).alloc (by simp) _).alloc (by simp; omega) _).alloc (by simp; omega) _).alloc (by simp; omega) _).alloc (by simp; omega) _
  have K4 : Blk W w.heap.size TA #[.int .i64 0, .int .u64 0, .int .i64 0, .int .i64 0, .int .i64 0, .int .i64 0, .int .i64 0, .int .i64 0, .int .i64 0, .int .i64 0, .slice none 0 0, .slice none 0 0] := by rw [hW]; exact (((((Blk.new w _ _).alloc _).alloc _).alloc _).alloc _).alloc _
  have K5 : Blk W (w.heap.size + 1) TA #[.int .i64 0, .int .u64 0, .int .i64 0, .int .i64 0, .int .i64 0, .int .i64 0, .int .i64 0, .int .i64 0, .int .i64 0, .int .i64 0, .slice none 0 0, .slice none 0 0] := by rw [hW]; exact ((((Blk.newAt (by simp)).alloc _).alloc _).alloc _).alloc _
  have K6 : Blk W (w.heap.size + 1 + 1) 3 #[.int .i64 0] := by rw [hW]; exact (((Blk.newAt (by simp)).alloc _).alloc _).alloc _
  have K7 : Blk W (w.heap.size + 1 + 1 + 1) 3 #[.int .i64 0] := by rw [hW]; exact ((Blk.newAt (by simp)).alloc _).alloc _
  have K8 : Blk W (w.heap.size + 1 + 1 + 1 + 1) TRs #[.slice A R.length c] := by rw [hW, hn]; exact (Blk.newAt (by simp)).alloc _
  have K9 : Blk W (w.heap.size + 1 + 1 + 1 + 1 + 1) 80 #[.pointer (some ⟨w.heap.size + 1, 0, none⟩), .pointer (some ⟨w.heap.size + 1 + 1, 0, none⟩), .pointer (some ⟨w.heap.size + 1 + 1 + 1, 0, none⟩)] := by rw [hW]; exact Blk.newAt (by simp)
  have KR : RS w.heap.size (w.heap.size + 1 + 1 + 1 + 1) R W := ⟨by omega, A, c, K8, hc, hm, Reads.below hr hb0⟩
  have HN0 := Lib.hid (nums_abc W 1 (w.heap.size + 1 + 1 + 1 + 1 + 1) 3 (w.heap.size + 1) (w.heap.size + 1 + 1) (w.heap.size + 1 + 1 + 1) 0 0 0 TA 3 3 #[.int .i64 0, .int .u64 0, .int .i64 0, .int .i64 0, .int .i64 0, .int .i64 0, .int .i64 0, .int .i64 0, .int .i64 0, .int .i64 0, .slice none 0 0, .slice none 0 0] #[.int .i64 0] #[.int .i64 0] (by decide) (by decide) KR K9 (by omega) (by omega) K5 (by omega) (by omega) (by omega) K6 (by omega) (by omega) (by omega) K7 (by omega) (by omega) (by omega) (by omega) (by omega) (by omega) (by simp) (by simp) (by simp))
  have HB0 := Lib.hid hb0
  have HK4 := Lib.hid K4
  have HV0 := Lib.hid (gI0 R 1)
  have HV2 : Hid (gI R 2 1 = ((getB (((R.drop 1).drop 1).take 1) : Nat) : Int)) := Lib.hid (by unfold gI; simp only [List.drop_drop])
  have HL := Lib.hid hl
  have HL9 := Lib.hid hl9
  have hWs := hW.symm
  clear hW hb0 K4 K5 K6 K7 K8 K9 KR hr hc hm hl hl9 hn
  go_enter Try.func38, Try.ntmps38
  go_wp2_with fail
  refine HN0.out.mono ?_
  rintro e w1 ⟨rfl, hrs, hba, hbs, hbi, hnf⟩
  have HRS := Lib.hid hrs
  have HB1 := Lib.hid (hnf.below HB0.out (by simp; omega))
  have H4 := Lib.hid (hnf.blk HK4.out (by simp; omega))
  simp only [List.setIfInBounds_toArray, List.set_cons_zero, List.set_cons_succ] at hba hbs hbi
  rw [← HV0.out] at hba
  rw [← HV2.out] at hbi
  have HA := Lib.hid hba
  have HI := Lib.hid hbi
  have HR3 : Hid (((R.drop 1).drop 1).drop 1 = R.drop 3) := Lib.hid (by simp only [List.drop_drop])
  rw [HR3.out] at HRS
  clear hrs hba hbs hbi hnf hWs HV0 HV2 HR3 HN0
  subst hop
  have HAN : Hid ((anR 12 R none 0 0 none 0 0).cs = #[.int .i64 (gI R 0 1), .int .u64 0, .int .i64 0, .int .i64 (gI R 3 2), .int .i64 (gI R 5 2), .int .i64 (gI R 7 1), .int .i64 0, .int .i64 0, .int .i64 0, .int .i64 0, .slice none 0 0, .slice none 0 0]) := Lib.hid rfl
  have HSE : Hid (seensR 12 R = []) := Lib.hid rfl
  have HEV : Hid (evtsR 12 R = []) := Lib.hid rfl
  have HG0 : Hid (gI R 3 2 = ((getB ((R.drop 3).take 2) : Nat) : Int)) := Lib.hid rfl
  have HG1 : Hid (gI R 5 2 = ((getB (((R.drop 3).drop 2).take 2) : Nat) : Int)) := Lib.hid (by unfold gI; simp only [List.drop_drop])
  have HG2 : Hid (gI R 7 1 = ((getB ((((R.drop 3).drop 2).drop 2).take 1) : Nat) : Int)) := Lib.hid (by unfold gI; simp only [List.drop_drop])
  obtain ⟨W2, hW2⟩ : ∃ X, X = w1.alloc (.cells #[.pointer (some ⟨w.heap.size + 1, 3, none⟩), .pointer (some ⟨w.heap.size + 1, 4, none⟩)] 80) := ⟨_, rfl⟩
  have ha2 : Below w1.heap.size w1 W2 := by rw [hW2]; exact (Below.refl _ _).alloc (Nat.le_refl _) _
  have HBX2 := Lib.hid (below_trans HB1.out ha2)
  have HX42 := Lib.hid (H4.out.thru0 ha2)
  have hs2 : w.heap.size ≤ w1.heap.size := HB1.out.size
  have hl2 := HRS.out.lt
  have hg2 := HA.out.lt
  have KW2 : Blk W2 w1.heap.size 80 #[.pointer (some ⟨w.heap.size + 1, 3, none⟩), .pointer (some ⟨w.heap.size + 1, 4, none⟩)] := by rw [hW2]; exact Blk.new _ _ _
  have HN1 := Lib.hid (nums_aa W2 2 w1.heap.size 2 (w.heap.size + 1) 3 4 TA _ (by decide) (by decide) (HRS.out.below ha2) KW2 (by omega) (by omega) (HA.out.thru0 ha2) (by omega) (by omega) (by omega) (by simp) (by simp))
  have hWs2 := hW2.symm
  clear hW2 ha2 KW2 hs2 hl2 hg2
  go_wp2_with fail
  refine HN1.out.mono ?_
  rintro e w2 ⟨rfl, hrs, hbk, hnf⟩
  have HRS2 := Lib.hid hrs
  have HB2 := Lib.hid (hnf.below HBX2.out (by simp; omega))
  have H42 := Lib.hid (hnf.blk HX42.out (by simp; omega))
  simp only [List.setIfInBounds_toArray, List.set_cons_zero, List.set_cons_succ] at hbk
  rw [← HG0.out, ← HG1.out] at hbk
  have HA2 := Lib.hid hbk
  clear hrs hbk hnf hWs2
  obtain ⟨W3, hW3⟩ : ∃ X, X = w2.alloc (.cells #[.pointer (some ⟨w.heap.size + 1, 5, none⟩)] 80) := ⟨_, rfl⟩
  have ha3 : Below w2.heap.size w2 W3 := by rw [hW3]; exact (Below.refl _ _).alloc (Nat.le_refl _) _
  have HBX3 := Lib.hid (below_trans HB2.out ha3)
  have HX43 := Lib.hid (H42.out.thru0 ha3)
  have hs3 : w.heap.size ≤ w2.heap.size := HB2.out.size
  have hl3 := HRS2.out.lt
  have hg3 := HA2.out.lt
  have KW3 : Blk W3 w2.heap.size 80 #[.pointer (some ⟨w.heap.size + 1, 5, none⟩)] := by rw [hW3]; exact Blk.new _ _ _
  have HN2 := Lib.hid (nums_a W3 1 w2.heap.size 1 (w.heap.size + 1) 5 TA _ (by decide) (by decide) (HRS2.out.below ha3) KW3 (by omega) (by omega) (HA2.out.thru0 ha3) (by omega) (by omega) (by omega) (by simp))
  have hWs3 := hW3.symm
  clear hW3 ha3 KW3 hs3 hl3 hg3
  go_wp2_with fail
  refine HN2.out.mono ?_
  rintro e w3 ⟨rfl, hrs, hbk, hnf⟩
  have HB := Lib.hid (hnf.below HBX3.out (by simp; omega))
  have H43 := Lib.hid (hnf.blk HX43.out (by simp; omega))
  simp only [List.setIfInBounds_toArray, List.set_cons_zero, List.set_cons_succ] at hbk
  rw [← HG2.out] at hbk
  have HA3 := Lib.hid hbk
  clear hrs hbk hnf hWs3 HG0 HG1 HG2
  have t0 := HA3.out.cell 0
  have t1 := HA3.out.cell 1
  have t2 := HA3.out.cell 2
  have t3 := HA3.out.cell 3
  have t4 := HA3.out.cell 4
  have t5 := HA3.out.cell 5
  have t6 := HA3.out.cell 6
  have t7 := HA3.out.cell 7
  have t8 := HA3.out.cell 8
  have t9 := HA3.out.cell 9
  have t10 := HA3.out.cell 10
  have t11 := HA3.out.cell 11
  simp only [List.getElem?_toArray, List.getElem?_cons_zero, List.getElem?_cons_succ] at t0 t1 t2 t3 t4 t5 t6 t7 t8 t9 t10 t11
  have s0 := H43.out.cell 0
  have s1 := H43.out.cell 1
  have s2 := H43.out.cell 2
  have s3 := H43.out.cell 3
  have s4 := H43.out.cell 4
  have s5 := H43.out.cell 5
  have s6 := H43.out.cell 6
  have s7 := H43.out.cell 7
  have s8 := H43.out.cell 8
  have s9 := H43.out.cell 9
  have s10 := H43.out.cell 10
  have s11 := H43.out.cell 11
  simp only [List.getElem?_toArray, List.getElem?_cons_zero, List.getElem?_cons_succ] at s0 s1 s2 s3 s4 s5 s6 s7 s8 s9 s10 s11
  have f0 := H43.out.frozen 0
  have f1 := H43.out.frozen 1
  have f2 := H43.out.frozen 2
  have f3 := H43.out.frozen 3
  have f4 := H43.out.frozen 4
  have f5 := H43.out.frozen 5
  have f6 := H43.out.frozen 6
  have f7 := H43.out.frozen 7
  have f8 := H43.out.frozen 8
  have f9 := H43.out.frozen 9
  have f10 := H43.out.frozen 10
  have f11 := H43.out.frozen 11
  go_wp2_with fail
  (try simp only [Exit.inBlock, Exit.then])
  refine bodyPost_ret (results_cell_row rfl _ _ _ _ _ _ _ rfl (blk12 H43.out _ _ _ _ _ _ _ _ _ _ _ _) rfl rfl (by rfl)) rfl ?_
  refine ⟨(nf12 (S := [w.heap.size]) (by simp) _ _ _ _ _ _ _ _ _ _ _ _).below HB.out (by simp), none, 0, 0, none, 0, 0, ?_, rows_none _ _ R ?_ ?_, fun g o h => (by cases h), fun g o h => (by cases h)⟩
  · rw [HAN.out]
  · exact HSE.out
  · exact HEV.out
end Go.Proofs.Ytmapcdmegkfheaa
