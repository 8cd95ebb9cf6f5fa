/- reply: what a reader takes whole: a rectangle, a shape, an event, by contract. -/
import Derived.Test.YtmapcdmegkfheaaZbRe22
import Derived.Laws.Rows
namespace Go.Proofs.Ytmapcdmegkfheaa
set_option linter.unusedVariables false
set_option linter.unusedSimpArgs false
open Go.RowKit
theorem But.blk {q g : Nat} {w w' : World} {t : TypeId} {cs : Array Value} (h : But q w w') (hb : Blk w g t cs) (hg : g ≠ q) : Blk w' g t cs := (h.block g hb.lt hg).trans hb
/-- A number of k bytes that stand at a. -/
def gI (R : Bs) (a k : Nat) : Int := ((getB ((R.drop a).take k) : Nat) : Int)
theorem Nf.elem {S : List Nat} {w w' : World} (h : Nf S w w') (i : Nat) (hi : i ∉ S) : w'.heap[i]? = w.heap[i]? := h.block i hi
/-- What a reader at q that takes whole leaves. -/
structure Tk (B q n : Nat) (R : Bs) (w w' : World) : Prop where
  rs : RS B q (R.drop n) w'
  but : But q w w'
set_option maxRecDepth 100000 in
set_option maxHeartbeats 4000000 in
theorem rbox_any {B q : Nat} {R : Bs} (w : World) (h : RS B q R w) :
    Calls Try.prog 55 #[ptrR q] w fun e w' => e = .returned (.agg #[.int .i64 (gI R 0 2), .int .i64 (gI R 2 2), .int .i64 (gI R 4 2), .int .i64 (gI R 6 2)]) ∧ Tk B q 8 R w w' := by
  have hqs := h.lt
  have hBq := h.hq
  obtain ⟨g, hg⟩ : ∃ g, g = w.heap.size := ⟨_, rfl⟩
  obtain ⟨W, hW⟩ : ∃ W, W = ((w.alloc (.cells #[.int .i64 0, .int .i64 0, .int .i64 0, .int .i64 0] 34)).alloc (.cells #[.int .i64 0, .int .i64 0, .int .i64 0, .int .i64 0] 34)).alloc (.cells #[.pointer (some ⟨w.heap.size + 1, 0, none⟩), .pointer (some ⟨w.heap.size + 1, 1, none⟩), .pointer (some ⟨w.heap.size + 1, 2, none⟩), .pointer (some ⟨w.heap.size + 1, 3, none⟩)] 80) := ⟨_, rfl⟩
  have hb0 : Below w.heap.size w W := by rw [hW]; exact (((Below.refl _ _).alloc (Nat.le_refl _) _).alloc (by simp) _).alloc (by simp; omega) _
  have K2 : Blk W w.heap.size 34 #[.int .i64 0, .int .i64 0, .int .i64 0, .int .i64 0] := by rw [hW]; exact ((Blk.new w _ _).alloc _).alloc _
  have K3 : Blk W (w.heap.size + 1) 34 #[.int .i64 0, .int .i64 0, .int .i64 0, .int .i64 0] := by rw [hW]; exact (Blk.newAt (by simp)).alloc _
  have K4 : Blk W (w.heap.size + 2) 80 #[.pointer (some ⟨w.heap.size + 1, 0, none⟩), .pointer (some ⟨w.heap.size + 1, 1, none⟩), .pointer (some ⟨w.heap.size + 1, 2, none⟩), .pointer (some ⟨w.heap.size + 1, 3, none⟩)] := by rw [hW]; exact Blk.newAt (by simp)
  have HN := Lib.hid (nums_aaaa W 2 (w.heap.size + 2) 4 (w.heap.size + 1) 0 1 2 3 34 #[.int .i64 0, .int .i64 0, .int .i64 0, .int .i64 0] (by decide) (by decide) (h.below hb0) K4 (by omega) (by omega) K3 (by omega) (by omega) (by omega) (by simp) (by simp) (by simp) (by simp))
  have HB0 := Lib.hid hb0
  have HK2 := Lib.hid K2
  have HQS := Lib.hid hqs
  have hWs := hW.symm
  clear hW hb0 K2 K3 K4 h
  have HG0 : Hid (gI R 0 2 = ((getB (R.take 2) : Nat) : Int)) := Lib.hid rfl
  have HG1 : Hid (gI R 2 2 = ((getB ((R.drop 2).take 2) : Nat) : Int)) := Lib.hid rfl
  have HG2 : Hid (gI R 4 2 = ((getB (((R.drop 2).drop 2).take 2) : Nat) : Int)) := Lib.hid (by unfold gI; simp only [List.drop_drop])
  have HG3 : Hid (gI R 6 2 = ((getB ((((R.drop 2).drop 2).drop 2).take 2) : Nat) : Int)) := Lib.hid (by unfold gI; simp only [List.drop_drop])
  rw [HG0.out, HG1.out, HG2.out, HG3.out]
  clear HG0 HG1 HG2 HG3
  generalize ((getB (R.take 2) : Nat) : Int) = m0 at *
  generalize ((getB ((R.drop 2).take 2) : Nat) : Int) = m1 at *
  generalize ((getB (((R.drop 2).drop 2).take 2) : Nat) : Int) = m2 at *
  generalize ((getB ((((R.drop 2).drop 2).drop 2).take 2) : Nat) : Int) = m3 at *
  go_enter Try.func55, Try.ntmps55
  go_wp2_with fail
  refine HN.out.mono ?_
  rintro e w1 ⟨rfl, hrs, hbk, hnf⟩
  have HRS := Lib.hid hrs
  have HNF := Lib.hid hnf
  have H2 := Lib.hid (hnf.blk HK2.out (by simp; omega))
  simp only [List.setIfInBounds_toArray, List.set_cons_zero, List.set_cons_succ] at hbk
  have H3 := Lib.hid hbk
  have t0 := H3.out.cell 0
  have t1 := H3.out.cell 1
  have t2 := H3.out.cell 2
  have t3 := H3.out.cell 3
  have s0 := H2.out.cell 0
  have s1 := H2.out.cell 1
  have s2 := H2.out.cell 2
  have s3 := H2.out.cell 3
  have f0 := H2.out.frozen 0
  have f1 := H2.out.frozen 1
  have f2 := H2.out.frozen 2
  have f3 := H2.out.frozen 3
  simp only [List.getElem?_toArray, List.getElem?_cons_zero, List.getElem?_cons_succ] at t0 t1 t2 t3 s0 s1 s2 s3
  have HR8 : Hid (((((R.drop 2).drop 2).drop 2).drop 2) = R.drop 8) := Lib.hid (by simp only [List.drop_drop])
  rw [HR8.out] at HRS
  clear hrs hbk hnf hWs
  go_wp2_with fail
  (try simp only [Exit.inBlock, Exit.then])
  refine bodyPost_ret (results_cell_row rfl _ _ _ _ _ _ _ rfl (H2.out.set4 _ _ _ _) rfl rfl (by rfl)) rfl ?_
  have HS4 := (((Nf.set (S := [w.heap.size]) (g := w.heap.size) w1 0 (.int .i64 m0) (by simp)).trans (Nf.set (g := w.heap.size) _ 1 (.int .i64 m1) (by simp))).trans (Nf.set (g := w.heap.size) _ 2 (.int .i64 m2) (by simp))).trans (Nf.set (g := w.heap.size) _ 3 (.int .i64 m3) (by simp))
  have hqq := HQS.out
  refine ⟨rfl, HS4.rs HRS.out (by simp; omega) (by simp; omega), HS4.but (HNF.out.but (But.of_below HB0.out) (by simp)) (by simp)⟩
set_option maxRecDepth 100000 in
set_option maxHeartbeats 8000000 in
theorem rseen_any {B : Nat} {R : Bs} (w : World) (A : Option Addr) (c : Nat) (hc : R.length ≤ c) (hm : c ≤ maxLen) (hB : B ≤ w.heap.size) (hr : Reads w B 1 A R.length (bv R)) :
    Calls Try.prog 56 #[.slice A R.length c] w fun e w' => e = .returned (.agg #[.int .i64 (gI R 0 2), .int .i64 (gI R 2 1), .int .i64 (gI R 3 2), .int .i64 (gI R 5 2), .int .i64 (gI R 7 2), .int .i64 (gI R 9 2)]) ∧ Below w.heap.size w w' := by
  obtain ⟨W, hW⟩ : ∃ W, W = (((w.alloc (.cells #[.slice A R.length c] TRs)).alloc (.cells #[.int .i64 0, .int .i64 0, .int .i64 0, .int .i64 0, .int .i64 0, .int .i64 0] 59)).alloc (.cells #[.int .i64 0, .int .i64 0, .int .i64 0, .int .i64 0, .int .i64 0, .int .i64 0] 59)).alloc (.cells #[.pointer (some ⟨w.heap.size + 1 + 1, 0, none⟩)] 80) := ⟨_, rfl⟩
  have hb0 : Below w.heap.size w W := by rw [hW]; exact ((((Below.refl _ _).alloc (Nat.le_refl _) _).alloc (by simp) _).alloc (by simp; omega) _).alloc (by simp; omega) _
  have K1 : Blk W w.heap.size TRs #[.slice A R.length c] := by rw [hW]; exact (((Blk.new w _ _).alloc _).alloc _).alloc _
  have K2 : Blk W (w.heap.size + 1) 59 #[.int .i64 0, .int .i64 0, .int .i64 0, .int .i64 0, .int .i64 0, .int .i64 0] := by rw [hW]; exact ((Blk.newAt (by simp)).alloc _).alloc _
  have K3 : Blk W (w.heap.size + 1 + 1) 59 #[.int .i64 0, .int .i64 0, .int .i64 0, .int .i64 0, .int .i64 0, .int .i64 0] := by rw [hW]; exact (Blk.newAt (by simp)).alloc _
  have K4 : Blk W (w.heap.size + 1 + 1 + 1) 80 #[.pointer (some ⟨w.heap.size + 1 + 1, 0, none⟩)] := by rw [hW]; exact Blk.newAt (by simp)
  have KR : RS B w.heap.size R W := ⟨by omega, A, c, K1, hc, hm, hr.below (hb0.mono hB)⟩
  have HQ := Lib.hid (show w.heap.size < (w.heap.size + 1 + 1) ∧ (w.heap.size + 1) < (w.heap.size + 1 + 1) ∧ w.heap.size < (w.heap.size + 1) ∧ w.heap.size ≤ w.heap.size ∧ B ≤ w.heap.size from by omega)
  have HB0 := Lib.hid hb0
  have K4' : Blk W (w.heap.size + 1 + 1 + 1) 80 #[.pointer (some ⟨(w.heap.size + 1 + 1), 0, none⟩)] := K4
  have HN0 := Lib.hid (nums_a W 2 (w.heap.size + 1 + 1 + 1) 1 (w.heap.size + 1 + 1) 0 59 #[.int .i64 0, .int .i64 0, .int .i64 0, .int .i64 0, .int .i64 0, .int .i64 0] (by decide) (by decide) KR K4' (by omega) (by omega) K3 (by omega) (by omega) (by omega) (by simp))
  have HK2 := Lib.hid K2
  have hWs := hW.symm
  have HV0 : Hid (gI R 0 2 = ((getB ((R).take 2) : Nat) : Int)) := Lib.hid (by unfold gI; simp only [List.drop_drop, List.drop_zero])
  obtain ⟨m0, hm0⟩ : ∃ m, m = ((getB ((R).take 2) : Nat) : Int) := ⟨_, rfl⟩
  have HM0 := Lib.hid hm0
  have HV1 : Hid (gI R 2 1 = ((getB ((R.drop 2).take 1) : Nat) : Int)) := Lib.hid (by unfold gI; simp only [List.drop_drop, List.drop_zero])
  obtain ⟨m1, hm1⟩ : ∃ m, m = ((getB ((R.drop 2).take 1) : Nat) : Int) := ⟨_, rfl⟩
  have HM1 := Lib.hid hm1
  have HV2 : Hid (gI R 3 2 = gI ((R.drop 2).drop 1) 0 2) := Lib.hid (by unfold gI; simp only [List.drop_drop])
  obtain ⟨m2, hm2⟩ : ∃ m, m = gI ((R.drop 2).drop 1) 0 2 := ⟨_, rfl⟩
  have HM2 := Lib.hid hm2
  have HV3 : Hid (gI R 5 2 = gI ((R.drop 2).drop 1) 2 2) := Lib.hid (by unfold gI; simp only [List.drop_drop])
  obtain ⟨m3, hm3⟩ : ∃ m, m = gI ((R.drop 2).drop 1) 2 2 := ⟨_, rfl⟩
  have HM3 := Lib.hid hm3
  have HV4 : Hid (gI R 7 2 = gI ((R.drop 2).drop 1) 4 2) := Lib.hid (by unfold gI; simp only [List.drop_drop])
  obtain ⟨m4, hm4⟩ : ∃ m, m = gI ((R.drop 2).drop 1) 4 2 := ⟨_, rfl⟩
  have HM4 := Lib.hid hm4
  have HV5 : Hid (gI R 9 2 = gI ((R.drop 2).drop 1) 6 2) := Lib.hid (by unfold gI; simp only [List.drop_drop])
  obtain ⟨m5, hm5⟩ : ∃ m, m = gI ((R.drop 2).drop 1) 6 2 := ⟨_, rfl⟩
  have HM5 := Lib.hid hm5
  rw [HV0.out, HV1.out, HV2.out, HV3.out, HV4.out, HV5.out, ← HM0.out, ← HM1.out, ← HM2.out, ← HM3.out, ← HM4.out, ← HM5.out]
  clear HV0 HV1 HV2 HV3 HV4 HV5 hm0 hm1 hm2 hm3 hm4 hm5
  clear hW hb0 K1 K2 K3 K4 K4' KR hr hc hm
  go_enter Try.func56, Try.ntmps56
  go_wp2_with fail
  refine HN0.out.mono ?_
  rintro e w1 ⟨rfl, hrs, hbk, hnf⟩
  have HRS1 := Lib.hid hrs
  have HB1 := Lib.hid (hnf.below HB0.out (by simp; omega))
  have HH1 := Lib.hid (hnf.blk HK2.out (by first | (simp; done) | (simp; have := HQ.out; omega)))
  simp only [List.setIfInBounds_toArray, List.set_cons_zero, List.set_cons_succ] at hbk
  rw [← HM0.out] at hbk
  have HG1 := Lib.hid hbk
  clear hrs hbk hnf
  obtain ⟨W2, hW2⟩ : ∃ X, X = w1.alloc (.cells #[.pointer (some ⟨(w.heap.size + 1 + 1), 1, none⟩)] 80) := ⟨_, rfl⟩
  have ha2 : Below w1.heap.size w1 W2 := by rw [hW2]; exact (Below.refl _ _).alloc (Nat.le_refl _) _
  have HBX2 := Lib.hid (below_trans HB1.out ha2)
  have HHX2 := Lib.hid (HH1.out.thru0 ha2)
  have hs2 : w.heap.size ≤ w1.heap.size := HB1.out.size
  have hl2 : w.heap.size < w1.heap.size := HRS1.out.lt
  have hg2 : (w.heap.size + 1 + 1) < w1.heap.size := HG1.out.lt
  have KW2 : Blk W2 w1.heap.size 80 #[.pointer (some ⟨(w.heap.size + 1 + 1), 1, none⟩)] := by rw [hW2]; exact Blk.new _ _ _
  have HN1 := Lib.hid (nums_a W2 1 w1.heap.size 1 (w.heap.size + 1 + 1) 1 59 _ (by decide) (by decide) (HRS1.out.below ha2) KW2 (by have := HQ.out; omega) (by omega) (HG1.out.thru0 ha2) (by have := HQ.out; omega) (by have := HQ.out; omega) (by omega) (by simp))
  have hWs2 := hW2.symm
  clear hW2 ha2 KW2 hs2 hl2 hg2 hWs
  go_wp2_with fail
  refine HN1.out.mono ?_
  rintro e w2 ⟨rfl, hrs, hbk, hnf⟩
  have HRS2 := Lib.hid hrs
  have HB2 := Lib.hid (hnf.below HBX2.out (by simp; omega))
  have HH2 := Lib.hid (hnf.blk HHX2.out (by first | (simp; done) | (simp; have := HQ.out; omega)))
  simp only [List.setIfInBounds_toArray, List.set_cons_zero, List.set_cons_succ] at hbk
  rw [← HM1.out] at hbk
  have HG2 := Lib.hid hbk
  clear hrs hbk hnf
  clear hWs2
  have HBX := Lib.hid (rbox_any w2 HRS2.out)
  go_wp2_with fail
  refine HBX.out.mono ?_
  rintro e w9 ⟨he, htk⟩
  rw [← HM2.out, ← HM3.out, ← HM4.out, ← HM5.out] at he
  subst he
  have HB9 := Lib.hid (Below.but HB2.out htk.but (by have := HQ.out; omega) (Nat.le_refl _))
  have HH9 := Lib.hid (htk.but.blk HH2.out (by have := HQ.out; omega))
  have HG9 := Lib.hid (htk.but.blk HG2.out (by have := HQ.out; omega))
  clear htk HBX
  have t0 := HG9.out.cell 0
  have s0 := HH9.out.cell 0
  have f0 := HH9.out.frozen 0
  have t1 := HG9.out.cell 1
  have s1 := HH9.out.cell 1
  have f1 := HH9.out.frozen 1
  have t2 := HG9.out.cell 2
  have s2 := HH9.out.cell 2
  have f2 := HH9.out.frozen 2
  have t3 := HG9.out.cell 3
  have s3 := HH9.out.cell 3
  have f3 := HH9.out.frozen 3
  have t4 := HG9.out.cell 4
  have s4 := HH9.out.cell 4
  have f4 := HH9.out.frozen 4
  have t5 := HG9.out.cell 5
  have s5 := HH9.out.cell 5
  have f5 := HH9.out.frozen 5
  have e2 := HG9.out.frozen 2
  have e3 := HG9.out.frozen 3
  have e4 := HG9.out.frozen 4
  have e5 := HG9.out.frozen 5
  simp only [List.getElem?_toArray, List.getElem?_cons_zero, List.getElem?_cons_succ] at t0 t1 t2 t3 t4 t5 s0 s1 s2 s3 s4 s5
  have hgh : ((w.heap.size + 1 + 1)) ≠ (w.heap.size + 1) := by have := HQ.out; omega
  have hhg : (w.heap.size + 1) ≠ ((w.heap.size + 1 + 1)) := Ne.symm hgh
  have HHG := Lib.hid hhg
  go_wp2_with fail
  (try simp only [Exit.inBlock, Exit.then])
  refine bodyPost_ret (results_cell_row rfl _ _ _ _ _ _ _ rfl ((((((((((HH9.out.far (p := ⟨(w.heap.size + 1 + 1), 2, none⟩) HHG.out _).far (p := ⟨(w.heap.size + 1 + 1), 3, none⟩) HHG.out _).far (p := ⟨(w.heap.size + 1 + 1), 4, none⟩) HHG.out _).far (p := ⟨(w.heap.size + 1 + 1), 5, none⟩) HHG.out _).set_ 0 _).set_ 1 _).set_ 2 _).set_ 3 _).set_ 4 _).set_ 5 _) rfl rfl (by rfl)) rfl ?_
  exact ⟨by first | rfl | simp, (((((((((((Nf.refl [(w.heap.size + 1 + 1), (w.heap.size + 1)] _).trans (Nf.set (g := w.heap.size + 1 + 1) _ 2 _ (by simp))).trans (Nf.set (g := w.heap.size + 1 + 1) _ 3 _ (by simp))).trans (Nf.set (g := w.heap.size + 1 + 1) _ 4 _ (by simp))).trans (Nf.set (g := w.heap.size + 1 + 1) _ 5 _ (by simp))).trans (Nf.set (g := w.heap.size + 1) _ 0 _ (by simp))).trans (Nf.set (g := w.heap.size + 1) _ 1 _ (by simp))).trans (Nf.set (g := w.heap.size + 1) _ 2 _ (by simp))).trans (Nf.set (g := w.heap.size + 1) _ 3 _ (by simp))).trans (Nf.set (g := w.heap.size + 1) _ 4 _ (by simp))).trans (Nf.set (g := w.heap.size + 1) _ 5 _ (by simp))).below HB9.out (by simp; have := HQ.out; omega)⟩
set_option maxRecDepth 100000 in
set_option maxHeartbeats 8000000 in
theorem revent_any {B : Nat} {R : Bs} (w : World) (A : Option Addr) (c : Nat) (hc : R.length ≤ c) (hm : c ≤ maxLen) (hB : B ≤ w.heap.size) (hr : Reads w B 1 A R.length (bv R)) :
    Calls Try.prog 57 #[.slice A R.length c] w fun e w' => e = .returned (.agg #[.int .i64 (gI R 0 2), .int .i64 (gI R 2 1), .int .i64 (gI R 3 1), .int .i64 (gI R 4 4)]) ∧ Below w.heap.size w w' := by
  obtain ⟨W, hW⟩ : ∃ W, W = (((w.alloc (.cells #[.slice A R.length c] TRs)).alloc (.cells #[.int .i64 0, .int .i64 0, .int .i64 0, .int .i64 0] 62)).alloc (.cells #[.int .i64 0, .int .i64 0, .int .i64 0, .int .i64 0] 62)).alloc (.cells #[.pointer (some ⟨w.heap.size + 1 + 1, 0, none⟩)] 80) := ⟨_, rfl⟩
  have hb0 : Below w.heap.size w W := by rw [hW]; exact ((((Below.refl _ _).alloc (Nat.le_refl _) _).alloc (by simp) _).alloc (by simp; omega) _).alloc (by simp; omega) _
  have K1 : Blk W w.heap.size TRs #[.slice A R.length c] := by rw [hW]; exact (((Blk.new w _ _).alloc _).alloc _).alloc _
  have K2 : Blk W (w.heap.size + 1) 62 #[.int .i64 0, .int .i64 0, .int .i64 0, .int .i64 0] := by rw [hW]; exact ((Blk.newAt (by simp)).alloc _).alloc _
  have K3 : Blk W (w.heap.size + 1 + 1) 62 #[.int .i64 0, .int .i64 0, .int .i64 0, .int .i64 0] := by rw [hW]; exact (Blk.newAt (by simp)).alloc _
  have K4 : Blk W (w.heap.size + 1 + 1 + 1) 80 #[.pointer (some ⟨w.heap.size + 1 + 1, 0, none⟩)] := by rw [hW]; exact Blk.newAt (by simp)
  have KR : RS B w.heap.size R W := ⟨by omega, A, c, K1, hc, hm, hr.below (hb0.mono hB)⟩
  have HQ := Lib.hid (show w.heap.size < (w.heap.size + 1 + 1) ∧ (w.heap.size + 1) < (w.heap.size + 1 + 1) ∧ w.heap.size < (w.heap.size + 1) ∧ w.heap.size ≤ w.heap.size ∧ B ≤ w.heap.size from by omega)
  have HB0 := Lib.hid hb0
  have K4' : Blk W (w.heap.size + 1 + 1 + 1) 80 #[.pointer (some ⟨(w.heap.size + 1 + 1), 0, none⟩)] := K4
  have HN0 := Lib.hid (nums_a W 2 (w.heap.size + 1 + 1 + 1) 1 (w.heap.size + 1 + 1) 0 62 #[.int .i64 0, .int .i64 0, .int .i64 0, .int .i64 0] (by decide) (by decide) KR K4' (by omega) (by omega) K3 (by omega) (by omega) (by omega) (by simp))
  have HK2 := Lib.hid K2
  have hWs := hW.symm
  have HV0 : Hid (gI R 0 2 = ((getB ((R).take 2) : Nat) : Int)) := Lib.hid (by unfold gI; simp only [List.drop_drop, List.drop_zero])
  obtain ⟨m0, hm0⟩ : ∃ m, m = ((getB ((R).take 2) : Nat) : Int) := ⟨_, rfl⟩
  have HM0 := Lib.hid hm0
  have HV1 : Hid (gI R 2 1 = ((getB ((R.drop 2).take 1) : Nat) : Int)) := Lib.hid (by unfold gI; simp only [List.drop_drop, List.drop_zero])
  obtain ⟨m1, hm1⟩ : ∃ m, m = ((getB ((R.drop 2).take 1) : Nat) : Int) := ⟨_, rfl⟩
  have HM1 := Lib.hid hm1
  have HV2 : Hid (gI R 3 1 = ((getB (((R.drop 2).drop 1).take 1) : Nat) : Int)) := Lib.hid (by unfold gI; simp only [List.drop_drop, List.drop_zero])
  obtain ⟨m2, hm2⟩ : ∃ m, m = ((getB (((R.drop 2).drop 1).take 1) : Nat) : Int) := ⟨_, rfl⟩
  have HM2 := Lib.hid hm2
  have HV3 : Hid (gI R 4 4 = ((getB ((((R.drop 2).drop 1).drop 1).take 4) : Nat) : Int)) := Lib.hid (by unfold gI; simp only [List.drop_drop, List.drop_zero])
  obtain ⟨m3, hm3⟩ : ∃ m, m = ((getB ((((R.drop 2).drop 1).drop 1).take 4) : Nat) : Int) := ⟨_, rfl⟩
  have HM3 := Lib.hid hm3
  rw [HV0.out, HV1.out, HV2.out, HV3.out, ← HM0.out, ← HM1.out, ← HM2.out, ← HM3.out]
  clear HV0 HV1 HV2 HV3 hm0 hm1 hm2 hm3
  clear hW hb0 K1 K2 K3 K4 K4' KR hr hc hm
  go_enter Try.func57, Try.ntmps57
  go_wp2_with fail
  refine HN0.out.mono ?_
  rintro e w1 ⟨rfl, hrs, hbk, hnf⟩
  have HRS1 := Lib.hid hrs
  have HB1 := Lib.hid (hnf.below HB0.out (by simp; omega))
  have HH1 := Lib.hid (hnf.blk HK2.out (by first | (simp; done) | (simp; have := HQ.out; omega)))
  simp only [List.setIfInBounds_toArray, List.set_cons_zero, List.set_cons_succ] at hbk
  rw [← HM0.out] at hbk
  have HG1 := Lib.hid hbk
  clear hrs hbk hnf
  obtain ⟨W2, hW2⟩ : ∃ X, X = w1.alloc (.cells #[.pointer (some ⟨(w.heap.size + 1 + 1), 1, none⟩), .pointer (some ⟨(w.heap.size + 1 + 1), 2, none⟩)] 80) := ⟨_, rfl⟩
  have ha2 : Below w1.heap.size w1 W2 := by rw [hW2]; exact (Below.refl _ _).alloc (Nat.le_refl _) _
  have HBX2 := Lib.hid (below_trans HB1.out ha2)
  have HHX2 := Lib.hid (HH1.out.thru0 ha2)
  have hs2 : w.heap.size ≤ w1.heap.size := HB1.out.size
  have hl2 : w.heap.size < w1.heap.size := HRS1.out.lt
  have hg2 : (w.heap.size + 1 + 1) < w1.heap.size := HG1.out.lt
  have KW2 : Blk W2 w1.heap.size 80 #[.pointer (some ⟨(w.heap.size + 1 + 1), 1, none⟩), .pointer (some ⟨(w.heap.size + 1 + 1), 2, none⟩)] := by rw [hW2]; exact Blk.new _ _ _
  have HN1 := Lib.hid (nums_aa W2 1 w1.heap.size 2 (w.heap.size + 1 + 1) 1 2 62 _ (by decide) (by decide) (HRS1.out.below ha2) KW2 (by have := HQ.out; omega) (by omega) (HG1.out.thru0 ha2) (by have := HQ.out; omega) (by have := HQ.out; omega) (by omega) (by simp) (by simp))
  have hWs2 := hW2.symm
  clear hW2 ha2 KW2 hs2 hl2 hg2 hWs
  go_wp2_with fail
  refine HN1.out.mono ?_
  rintro e w2 ⟨rfl, hrs, hbk, hnf⟩
  have HRS2 := Lib.hid hrs
  have HB2 := Lib.hid (hnf.below HBX2.out (by simp; omega))
  have HH2 := Lib.hid (hnf.blk HHX2.out (by first | (simp; done) | (simp; have := HQ.out; omega)))
  simp only [List.setIfInBounds_toArray, List.set_cons_zero, List.set_cons_succ] at hbk
  rw [← HM1.out, ← HM2.out] at hbk
  have HG2 := Lib.hid hbk
  clear hrs hbk hnf
  obtain ⟨W3, hW3⟩ : ∃ X, X = w2.alloc (.cells #[.pointer (some ⟨(w.heap.size + 1 + 1), 3, none⟩)] 80) := ⟨_, rfl⟩
  have ha3 : Below w2.heap.size w2 W3 := by rw [hW3]; exact (Below.refl _ _).alloc (Nat.le_refl _) _
  have HBX3 := Lib.hid (below_trans HB2.out ha3)
  have HHX3 := Lib.hid (HH2.out.thru0 ha3)
  have hs3 : w.heap.size ≤ w2.heap.size := HB2.out.size
  have hl3 : w.heap.size < w2.heap.size := HRS2.out.lt
  have hg3 : (w.heap.size + 1 + 1) < w2.heap.size := HG2.out.lt
  have KW3 : Blk W3 w2.heap.size 80 #[.pointer (some ⟨(w.heap.size + 1 + 1), 3, none⟩)] := by rw [hW3]; exact Blk.new _ _ _
  have HN2 := Lib.hid (nums_a W3 4 w2.heap.size 1 (w.heap.size + 1 + 1) 3 62 _ (by decide) (by decide) (HRS2.out.below ha3) KW3 (by have := HQ.out; omega) (by omega) (HG2.out.thru0 ha3) (by have := HQ.out; omega) (by have := HQ.out; omega) (by omega) (by simp))
  have hWs3 := hW3.symm
  clear hW3 ha3 KW3 hs3 hl3 hg3 hWs2
  go_wp2_with fail
  refine HN2.out.mono ?_
  rintro e w3 ⟨rfl, hrs, hbk, hnf⟩
  have HRS3 := Lib.hid hrs
  have HB3 := Lib.hid (hnf.below HBX3.out (by simp; omega))
  have HH3 := Lib.hid (hnf.blk HHX3.out (by first | (simp; done) | (simp; have := HQ.out; omega)))
  simp only [List.setIfInBounds_toArray, List.set_cons_zero, List.set_cons_succ] at hbk
  rw [← HM3.out] at hbk
  have HG3 := Lib.hid hbk
  clear hrs hbk hnf
  clear hWs3
  have HB9 := HB3
  have HH9 := HH3
  have HG9 := HG3
  have t0 := HG9.out.cell 0
  have s0 := HH9.out.cell 0
  have f0 := HH9.out.frozen 0
  have t1 := HG9.out.cell 1
  have s1 := HH9.out.cell 1
  have f1 := HH9.out.frozen 1
  have t2 := HG9.out.cell 2
  have s2 := HH9.out.cell 2
  have f2 := HH9.out.frozen 2
  have t3 := HG9.out.cell 3
  have s3 := HH9.out.cell 3
  have f3 := HH9.out.frozen 3
  simp only [List.getElem?_toArray, List.getElem?_cons_zero, List.getElem?_cons_succ] at t0 t1 t2 t3 s0 s1 s2 s3
  have hgh : ((w.heap.size + 1 + 1)) ≠ (w.heap.size + 1) := by have := HQ.out; omega
  have hhg : (w.heap.size + 1) ≠ ((w.heap.size + 1 + 1)) := Ne.symm hgh
  have HHG := Lib.hid hhg
  go_wp2_with fail
  (try simp only [Exit.inBlock, Exit.then])
  refine bodyPost_ret (results_cell_row rfl _ _ _ _ _ _ _ rfl ((((HH9.out.set_ 0 _).set_ 1 _).set_ 2 _).set_ 3 _) rfl rfl (by rfl)) rfl ?_
  exact ⟨by first | rfl | simp, (((((Nf.refl [(w.heap.size + 1 + 1), (w.heap.size + 1)] _).trans (Nf.set (g := w.heap.size + 1) _ 0 _ (by simp))).trans (Nf.set (g := w.heap.size + 1) _ 1 _ (by simp))).trans (Nf.set (g := w.heap.size + 1) _ 2 _ (by simp))).trans (Nf.set (g := w.heap.size + 1) _ 3 _ (by simp))).below HB9.out (by simp; have := HQ.out; omega)⟩
end Go.Proofs.Ytmapcdmegkfheaa
