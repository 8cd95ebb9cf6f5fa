/- reply: the document's Fits, by contract. -/
import Derived.Test.YtmapcdmegkfheaaZbRe13
import Derived.Test.YtmapcdmegkfheaaZbGeomHasM
namespace Go.Proofs.Ytmapcdmegkfheaa
set_option linter.unusedVariables false
set_option linter.unusedSimpArgs false
open Go.RowKit
/-- Nothing but its status and its rows. -/
def zeroB (a : An) : Bool := decide (a.sec = 0) && (four a.rid a.rx a.ry a.lab 0 0 0 0 && four a.b0 a.b1 a.b2 a.b3 0 0 0 0)
attribute [local go_sem ↓] rq_rec rq_rect0
set_option maxHeartbeats 2000000 in
theorem rin_any (n b : Int) (w : World) : Calls Try.prog 29 #[.int .i64 n, .int .i64 b] w fun e w' => e = .returned (.bool (withinB n 0 b)) ∧ w' = w := by
  unfold withinB
  by_cases h1 : 0 ≤ n
  · by_cases h2 : n ≤ b
    · rw [decide_eq_true ⟨h1, h2⟩]
      go_enter Try.func29, Try.ntmps29
      go_wp2
      go_ret
      exact ⟨rfl, rfl⟩
    · rw [decide_eq_false (fun h => h2 h.2)]
      go_enter Try.func29, Try.ntmps29
      go_wp2
      go_ret
      exact ⟨ret_bool (by simp), rfl⟩
  · rw [decide_eq_false (fun h => h1 h.1)]
    go_enter Try.func29, Try.ntmps29
    go_wp2
    go_ret
    exact ⟨rfl, rfl⟩
set_option maxRecDepth 100000 in
set_option maxHeartbeats 4000000 in
theorem rzero_any (w : World) (a : An) : Calls Try.prog 30 #[.agg a.cs] w fun e w' => e = .returned (.bool (zeroB a)) ∧ Below w.heap.size w w' := by
  have HB0 := Lib.hid (show Below w.heap.size w (w.alloc (.cells a.cs TA)) from (Below.refl _ _).alloc (Nat.le_refl _) _)
  have e0 : a.cs[0]? = some (.int .i64 a.st) := rfl
  have e1 : a.cs[1]? = some (.int .u64 (a.sec : Int)) := rfl
  have e2 : a.cs[2]? = some (.int .i64 a.rid) := rfl
  have e3 : a.cs[3]? = some (.int .i64 a.rx) := rfl
  have e4 : a.cs[4]? = some (.int .i64 a.ry) := rfl
  have e5 : a.cs[5]? = some (.int .i64 a.lab) := rfl
  have e6 : a.cs[6]? = some (.int .i64 a.b0) := rfl
  have e7 : a.cs[7]? = some (.int .i64 a.b1) := rfl
  have e8 : a.cs[8]? = some (.int .i64 a.b2) := rfl
  have e9 : a.cs[9]? = some (.int .i64 a.b3) := rfl
  have e10 : a.cs[10]? = some (.slice a.sA a.sn a.sc) := rfl
  have e11 : a.cs[11]? = some (.slice a.eA a.en a.ec) := rfl
  go_enter Try.func30, Try.ntmps30
  go_wp2_with fail
  all_goals
    go_ret
    refine ⟨ret_bool ?_, HB0.out⟩
    first | (simp [zeroB, *]; done) | (simp [zeroB, *]; rw [Bool.eq_iff_iff]; simp)
set_option maxRecDepth 100000 in
set_option maxHeartbeats 8000000 in
theorem rf_A (w : World) (op m : Int) (a : An) (L : List Snt) (M : List Evt) (h : AnR w a L M) (hc : (opB op && mB m) = false) :
    Calls Try.prog 15 #[.int .i64 op, .int .i64 m, .agg a.cs] w fun e w' => e = .returned (.bool (false)) ∧ Below w.heap.size w w' := by
  obtain ⟨W, hW⟩ : ∃ W, W = w.alloc (.cells a.cs TA) := ⟨_, rfl⟩
  have HBW := Lib.hid (show Below w.heap.size w W by rw [hW]; exact (Below.refl _ _).alloc (Nat.le_refl _) _)
  have HK := Lib.hid (show Blk W w.heap.size TA a.cs by rw [hW]; exact Blk.new _ _ _)
  obtain ⟨sn, hsn⟩ : ∃ n, n = a.sn := ⟨_, rfl⟩
  obtain ⟨en, hen⟩ : ∃ n, n = a.en := ⟨_, rfl⟩
  obtain ⟨sA, hsA⟩ : ∃ n, n = a.sA := ⟨_, rfl⟩
  obtain ⟨eA, heA⟩ : ∃ n, n = a.eA := ⟨_, rfl⟩
  have HRS : Hid (ERd elOS w (.slice sA sn a.sc) L) := Lib.hid (by rw [hsA, hsn]; exact h.seen)
  have HRE : Hid (ERd elOE w (.slice eA en a.ec) M) := Lib.hid (by rw [heA, hen]; exact h.evs)
  have HN1 : Hid (sn = L.length) := Lib.hid (hsn.trans h.sl.symm)
  have HN2 : Hid (en = M.length) := Lib.hid (hen.trans h.el.symm)
  have hq1 : sn ≤ 9223372036854775807 := by rw [HN1.out]; exact h.sm
  have hq2 : en ≤ 9223372036854775807 := by rw [HN2.out]; exact h.em
  have e0 : a.cs[0]? = some (.int .i64 a.st) := rfl
  have e1 : a.cs[1]? = some (.int .u64 (a.sec : Int)) := rfl
  have e2 : a.cs[2]? = some (.int .i64 a.rid) := rfl
  have e3 : a.cs[3]? = some (.int .i64 a.rx) := rfl
  have e4 : a.cs[4]? = some (.int .i64 a.ry) := rfl
  have e5 : a.cs[5]? = some (.int .i64 a.lab) := rfl
  have e6 : a.cs[6]? = some (.int .i64 a.b0) := rfl
  have e7 : a.cs[7]? = some (.int .i64 a.b1) := rfl
  have e8 : a.cs[8]? = some (.int .i64 a.b2) := rfl
  have e9 : a.cs[9]? = some (.int .i64 a.b3) := rfl
  have e10 : a.cs[10]? = some (.slice sA sn a.sc) := by rw [hsA, hsn]; rfl
  have e11 : a.cs[11]? = some (.slice eA en a.ec) := by rw [heA, hen]; rfl
  have HT := Lib.hid (fun w => rth20_any op m w)
  have HI := Lib.hid (fun w => rin_any a.st 12 w)
  have hcs : a.cs = #[.int .i64 a.st, .int .u64 (a.sec : Int), .int .i64 a.rid, .int .i64 a.rx, .int .i64 a.ry, .int .i64 a.lab, .int .i64 a.b0, .int .i64 a.b1, .int .i64 a.b2, .int .i64 a.b3, .slice sA sn a.sc, .slice eA en a.ec] := by rw [hsA, hsn, heA, hen]; rfl
  have HZ := Lib.hid (fun w => by have h9 := rzero_any w a; rw [hcs] at h9; exact h9)
  clear hcs
  have hWs := hW.symm
  clear h hW hsA heA
  rw [hc] at HT
  clear hc hsn hen
  go_enter Try.func15, Try.ntmps15
  go_wp2_with fail
  refine (HT.out _).mono ?_
  rintro e w1 ⟨rfl, rfl⟩
  go_wp2_with fail
  go_ret
  exact ⟨rfl, HBW.out⟩
set_option maxRecDepth 100000 in
set_option maxHeartbeats 8000000 in
theorem rf_B (w : World) (op m : Int) (a : An) (L : List Snt) (M : List Evt) (h : AnR w a L M) (hc : (opB op && mB m) = true) (hi : withinB a.st 0 12 = false) :
    Calls Try.prog 15 #[.int .i64 op, .int .i64 m, .agg a.cs] w fun e w' => e = .returned (.bool (false)) ∧ Below w.heap.size w w' := by
  obtain ⟨W, hW⟩ : ∃ W, W = w.alloc (.cells a.cs TA) := ⟨_, rfl⟩
  have HBW := Lib.hid (show Below w.heap.size w W by rw [hW]; exact (Below.refl _ _).alloc (Nat.le_refl _) _)
  have HK := Lib.hid (show Blk W w.heap.size TA a.cs by rw [hW]; exact Blk.new _ _ _)
  obtain ⟨sn, hsn⟩ : ∃ n, n = a.sn := ⟨_, rfl⟩
  obtain ⟨en, hen⟩ : ∃ n, n = a.en := ⟨_, rfl⟩
  obtain ⟨sA, hsA⟩ : ∃ n, n = a.sA := ⟨_, rfl⟩
  obtain ⟨eA, heA⟩ : ∃ n, n = a.eA := ⟨_, rfl⟩
  have HRS : Hid (ERd elOS w (.slice sA sn a.sc) L) := Lib.hid (by rw [hsA, hsn]; exact h.seen)
  have HRE : Hid (ERd elOE w (.slice eA en a.ec) M) := Lib.hid (by rw [heA, hen]; exact h.evs)
  have HN1 : Hid (sn = L.length) := Lib.hid (hsn.trans h.sl.symm)
  have HN2 : Hid (en = M.length) := Lib.hid (hen.trans h.el.symm)
  have hq1 : sn ≤ 9223372036854775807 := by rw [HN1.out]; exact h.sm
  have hq2 : en ≤ 9223372036854775807 := by rw [HN2.out]; exact h.em
  have e0 : a.cs[0]? = some (.int .i64 a.st) := rfl
  have e1 : a.cs[1]? = some (.int .u64 (a.sec : Int)) := rfl
  have e2 : a.cs[2]? = some (.int .i64 a.rid) := rfl
  have e3 : a.cs[3]? = some (.int .i64 a.rx) := rfl
  have e4 : a.cs[4]? = some (.int .i64 a.ry) := rfl
  have e5 : a.cs[5]? = some (.int .i64 a.lab) := rfl
  have e6 : a.cs[6]? = some (.int .i64 a.b0) := rfl
  have e7 : a.cs[7]? = some (.int .i64 a.b1) := rfl
  have e8 : a.cs[8]? = some (.int .i64 a.b2) := rfl
  have e9 : a.cs[9]? = some (.int .i64 a.b3) := rfl
  have e10 : a.cs[10]? = some (.slice sA sn a.sc) := by rw [hsA, hsn]; rfl
  have e11 : a.cs[11]? = some (.slice eA en a.ec) := by rw [heA, hen]; rfl
  have HT := Lib.hid (fun w => rth20_any op m w)
  have HI := Lib.hid (fun w => rin_any a.st 12 w)
  have hcs : a.cs = #[.int .i64 a.st, .int .u64 (a.sec : Int), .int .i64 a.rid, .int .i64 a.rx, .int .i64 a.ry, .int .i64 a.lab, .int .i64 a.b0, .int .i64 a.b1, .int .i64 a.b2, .int .i64 a.b3, .slice sA sn a.sc, .slice eA en a.ec] := by rw [hsA, hsn, heA, hen]; rfl
  have HZ := Lib.hid (fun w => by have h9 := rzero_any w a; rw [hcs] at h9; exact h9)
  clear hcs
  have hWs := hW.symm
  clear h hW hsA heA
  rw [hi] at HI
  clear hi
  rw [hc] at HT
  clear hc
  go_enter Try.func15, Try.ntmps15
  go_wp2_with fail
  refine (HT.out _).mono ?_
  rintro e w1 ⟨rfl, hw1⟩
  subst hw1
  clear hWs
  have k0 := HK.out.cell 0; simp only [e0] at k0
  go_wp2_with fail
  refine (HI.out _).mono ?_
  rintro e w2 ⟨rfl, rfl⟩
  go_wp2_with fail
  go_ret
  exact ⟨rfl, HBW.out⟩
set_option maxRecDepth 100000 in
set_option maxHeartbeats 8000000 in
theorem rf_C (w : World) (op m : Int) (a : An) (L : List Snt) (M : List Evt) (h : AnR w a L M) (hc : (opB op && mB m) = true) (hi : withinB a.st 0 12 = true) (hs : a.st ≠ 0) :
    Calls Try.prog 15 #[.int .i64 op, .int .i64 m, .agg a.cs] w fun e w' => e = .returned (.bool (zeroB a && (decide (a.sn = 0) && decide (a.en = 0)))) ∧ Below w.heap.size w w' := by
  obtain ⟨W, hW⟩ : ∃ W, W = w.alloc (.cells a.cs TA) := ⟨_, rfl⟩
  have HBW := Lib.hid (show Below w.heap.size w W by rw [hW]; exact (Below.refl _ _).alloc (Nat.le_refl _) _)
  have HK := Lib.hid (show Blk W w.heap.size TA a.cs by rw [hW]; exact Blk.new _ _ _)
  obtain ⟨sn, hsn⟩ : ∃ n, n = a.sn := ⟨_, rfl⟩
  obtain ⟨en, hen⟩ : ∃ n, n = a.en := ⟨_, rfl⟩
  obtain ⟨sA, hsA⟩ : ∃ n, n = a.sA := ⟨_, rfl⟩
  obtain ⟨eA, heA⟩ : ∃ n, n = a.eA := ⟨_, rfl⟩
  have HRS : Hid (ERd elOS w (.slice sA sn a.sc) L) := Lib.hid (by rw [hsA, hsn]; exact h.seen)
  have HRE : Hid (ERd elOE w (.slice eA en a.ec) M) := Lib.hid (by rw [heA, hen]; exact h.evs)
  have HN1 : Hid (sn = L.length) := Lib.hid (hsn.trans h.sl.symm)
  have HN2 : Hid (en = M.length) := Lib.hid (hen.trans h.el.symm)
  have hq1 : sn ≤ 9223372036854775807 := by rw [HN1.out]; exact h.sm
  have hq2 : en ≤ 9223372036854775807 := by rw [HN2.out]; exact h.em
  have e0 : a.cs[0]? = some (.int .i64 a.st) := rfl
  have e1 : a.cs[1]? = some (.int .u64 (a.sec : Int)) := rfl
  have e2 : a.cs[2]? = some (.int .i64 a.rid) := rfl
  have e3 : a.cs[3]? = some (.int .i64 a.rx) := rfl
  have e4 : a.cs[4]? = some (.int .i64 a.ry) := rfl
  have e5 : a.cs[5]? = some (.int .i64 a.lab) := rfl
  have e6 : a.cs[6]? = some (.int .i64 a.b0) := rfl
  have e7 : a.cs[7]? = some (.int .i64 a.b1) := rfl
  have e8 : a.cs[8]? = some (.int .i64 a.b2) := rfl
  have e9 : a.cs[9]? = some (.int .i64 a.b3) := rfl
  have e10 : a.cs[10]? = some (.slice sA sn a.sc) := by rw [hsA, hsn]; rfl
  have e11 : a.cs[11]? = some (.slice eA en a.ec) := by rw [heA, hen]; rfl
  have HT := Lib.hid (fun w => rth20_any op m w)
  have HI := Lib.hid (fun w => rin_any a.st 12 w)
  have hcs : a.cs = #[.int .i64 a.st, .int .u64 (a.sec : Int), .int .i64 a.rid, .int .i64 a.rx, .int .i64 a.ry, .int .i64 a.lab, .int .i64 a.b0, .int .i64 a.b1, .int .i64 a.b2, .int .i64 a.b3, .slice sA sn a.sc, .slice eA en a.ec] := by rw [hsA, hsn, heA, hen]; rfl
  have HZ := Lib.hid (fun w => by have h9 := rzero_any w a; rw [hcs] at h9; exact h9)
  clear hcs
  have hWs := hW.symm
  clear h hW hsA heA
  have hsb : (a.st != 0) = true := by simpa using hs
  have HWZ : Hid (decide (wrap64 ((sn : Int) + (en : Int)) = 0) = (decide (sn = 0) && decide (en = 0))) := Lib.hid (by
    rw [Bool.eq_iff_iff]
    simp only [decide_eq_true_eq, Bool.and_eq_true]
    unfold wrap64
    omega)
  rw [← hsn, ← hen]
  obtain ⟨zb0, hzb⟩ : ∃ b, zeroB a = b := ⟨_, rfl⟩
  simp only [hzb] at HZ
  rw [hzb]
  clear hzb
  have HWE : Hid ((wrap64 ((sn : Int) + (en : Int)) == 0) = (decide (sn = 0) && decide (en = 0))) := Lib.hid (by rw [← HWZ.out]; rfl)
  clear hsn hen
  rw [hi] at HI
  clear hi
  rw [hc] at HT
  clear hc
  go_enter Try.func15, Try.ntmps15
  go_wp2_with fail
  refine (HT.out _).mono ?_
  rintro e w1 ⟨rfl, hw1⟩
  subst hw1
  clear hWs
  have k0 := HK.out.cell 0; simp only [e0] at k0
  go_wp2_with fail
  refine (HI.out _).mono ?_
  rintro e w2 ⟨rfl, hw2⟩
  subst hw2
  have k1 := HK.out.cell 1; simp only [e1] at k1
  have k2 := HK.out.cell 2; simp only [e2] at k2
  have k3 := HK.out.cell 3; simp only [e3] at k3
  have k4 := HK.out.cell 4; simp only [e4] at k4
  have k5 := HK.out.cell 5; simp only [e5] at k5
  have k6 := HK.out.cell 6; simp only [e6] at k6
  have k7 := HK.out.cell 7; simp only [e7] at k7
  have k8 := HK.out.cell 8; simp only [e8] at k8
  have k9 := HK.out.cell 9; simp only [e9] at k9
  have k10 := HK.out.cell 10; simp only [e10] at k10
  have k11 := HK.out.cell 11; simp only [e11] at k11
  go_wp2_with fail
  refine (HZ.out _).mono ?_
  rintro e w3 ⟨rfl, hb3⟩
  have HB3 := Lib.hid (below_trans HBW.out hb3)
  clear k0 k1 k2 k3 k4 k5 k6 k7 k8 k9 k10 k11
  have k10 := (HK.out.thru0 hb3).cell 10; simp only [e10] at k10
  have k11 := (HK.out.thru0 hb3).cell 11; simp only [e11] at k11
  clear hb3
  cases zb0
  case false =>
    go_wp2_with fail
    go_ret
    exact ⟨rfl, HB3.out⟩
  case true =>
    go_wp2_with fail
    go_ret
    exact ⟨ret_bool (by rw [Bool.true_and, ← HWE.out]), HB3.out⟩
set_option maxRecDepth 100000 in
set_option maxHeartbeats 8000000 in
theorem rf_D1 (w : World) (op m : Int) (a : An) (L : List Snt) (M : List Evt) (h : AnR w a L M) (hc : (opB op && mB m) = true) (hi : withinB a.st 0 12 = true) (hs : a.st = 0) (k : Nat) (hk : op = (k : Int)) (hk1 : 1 ≤ k) (hk2 : k ≤ 19) (h1 : 0 < a.sn) (h2 : eachN k ≠ 11) :
    Calls Try.prog 15 #[.int .i64 op, .int .i64 m, .agg a.cs] w fun e w' => e = .returned (.bool (false)) ∧ Below w.heap.size w w' := by
  obtain ⟨W, hW⟩ : ∃ W, W = w.alloc (.cells a.cs TA) := ⟨_, rfl⟩
  have HBW := Lib.hid (show Below w.heap.size w W by rw [hW]; exact (Below.refl _ _).alloc (Nat.le_refl _) _)
  have HK := Lib.hid (show Blk W w.heap.size TA a.cs by rw [hW]; exact Blk.new _ _ _)
  obtain ⟨sn, hsn⟩ : ∃ n, n = a.sn := ⟨_, rfl⟩
  obtain ⟨en, hen⟩ : ∃ n, n = a.en := ⟨_, rfl⟩
  obtain ⟨sA, hsA⟩ : ∃ n, n = a.sA := ⟨_, rfl⟩
  obtain ⟨eA, heA⟩ : ∃ n, n = a.eA := ⟨_, rfl⟩
  have HRS : Hid (ERd elOS w (.slice sA sn a.sc) L) := Lib.hid (by rw [hsA, hsn]; exact h.seen)
  have HRE : Hid (ERd elOE w (.slice eA en a.ec) M) := Lib.hid (by rw [heA, hen]; exact h.evs)
  have HN1 : Hid (sn = L.length) := Lib.hid (hsn.trans h.sl.symm)
  have HN2 : Hid (en = M.length) := Lib.hid (hen.trans h.el.symm)
  have hq1 : sn ≤ 9223372036854775807 := by rw [HN1.out]; exact h.sm
  have hq2 : en ≤ 9223372036854775807 := by rw [HN2.out]; exact h.em
  have e0 : a.cs[0]? = some (.int .i64 a.st) := rfl
  have e1 : a.cs[1]? = some (.int .u64 (a.sec : Int)) := rfl
  have e2 : a.cs[2]? = some (.int .i64 a.rid) := rfl
  have e3 : a.cs[3]? = some (.int .i64 a.rx) := rfl
  have e4 : a.cs[4]? = some (.int .i64 a.ry) := rfl
  have e5 : a.cs[5]? = some (.int .i64 a.lab) := rfl
  have e6 : a.cs[6]? = some (.int .i64 a.b0) := rfl
  have e7 : a.cs[7]? = some (.int .i64 a.b1) := rfl
  have e8 : a.cs[8]? = some (.int .i64 a.b2) := rfl
  have e9 : a.cs[9]? = some (.int .i64 a.b3) := rfl
  have e10 : a.cs[10]? = some (.slice sA sn a.sc) := by rw [hsA, hsn]; rfl
  have e11 : a.cs[11]? = some (.slice eA en a.ec) := by rw [heA, hen]; rfl
  have HT := Lib.hid (fun w => rth20_any op m w)
  have HI := Lib.hid (fun w => rin_any a.st 12 w)
  have hcs : a.cs = #[.int .i64 a.st, .int .u64 (a.sec : Int), .int .i64 a.rid, .int .i64 a.rx, .int .i64 a.ry, .int .i64 a.lab, .int .i64 a.b0, .int .i64 a.b1, .int .i64 a.b2, .int .i64 a.b3, .slice sA sn a.sc, .slice eA en a.ec] := by rw [hsA, hsn, heA, hen]; rfl
  have HZ := Lib.hid (fun w => by have h9 := rzero_any w a; rw [hcs] at h9; exact h9)
  clear hcs
  have hWs := hW.symm
  clear h hW hsA heA
  rw [← hsn] at h1
  have h1' : (0 : Int) < (sn : Int) := by omega
  have hne : (((eachN k : Nat) : Int) != 11) = true := by simp; omega
  clear hsn hen
  have e0' : a.cs[0]? = some (.int .i64 0) := by rw [e0, hs]
  clear e0
  have e0 := e0'
  have HEA := Lib.hid (fun w => reach_any k hk1 hk2 w)
  rw [hs] at HI
  have hsi : withinB 0 0 12 = true := rfl
  rw [hsi] at HI
  clear hi hsi hs e0'
  subst hk
  rw [hc] at HT
  clear hc
  go_enter Try.func15, Try.ntmps15
  go_wp2_with fail
  refine (HT.out _).mono ?_
  rintro e w1 ⟨rfl, hw1⟩
  subst hw1
  clear hWs
  have k0 := HK.out.cell 0; simp only [e0] at k0
  have k10 := HK.out.cell 10; simp only [e10] at k10
  have k11 := HK.out.cell 11; simp only [e11] at k11
  go_wp2_with fail
  refine (HI.out _).mono ?_
  rintro e w2 ⟨rfl, hw2⟩
  subst hw2
  go_wp2_with fail
  refine (HEA.out _).mono ?_
  rintro e w3 ⟨rfl, hb3⟩
  have HB3 := Lib.hid (below_trans HBW.out hb3)
  generalize ((eachN k : Nat) : Int) = ea at *
  go_wp2_with fail
  go_ret
  exact ⟨rfl, HB3.out⟩
set_option maxRecDepth 100000 in
set_option maxHeartbeats 8000000 in
theorem rf_D2 (w : World) (op m : Int) (a : An) (L : List Snt) (M : List Evt) (h : AnR w a L M) (hc : (opB op && mB m) = true) (hi : withinB a.st 0 12 = true) (hs : a.st = 0) (k : Nat) (hk : op = (k : Int)) (hk1 : 1 ≤ k) (hk2 : k ≤ 19) (h1 : a.sn = 0) (h3 : 0 < a.en) (h2 : eachN k ≠ 8) :
    Calls Try.prog 15 #[.int .i64 op, .int .i64 m, .agg a.cs] w fun e w' => e = .returned (.bool (false)) ∧ Below w.heap.size w w' := by
  obtain ⟨W, hW⟩ : ∃ W, W = w.alloc (.cells a.cs TA) := ⟨_, rfl⟩
  have HBW := Lib.hid (show Below w.heap.size w W by rw [hW]; exact (Below.refl _ _).alloc (Nat.le_refl _) _)
  have HK := Lib.hid (show Blk W w.heap.size TA a.cs by rw [hW]; exact Blk.new _ _ _)
  obtain ⟨sn, hsn⟩ : ∃ n, n = a.sn := ⟨_, rfl⟩
  obtain ⟨en, hen⟩ : ∃ n, n = a.en := ⟨_, rfl⟩
  obtain ⟨sA, hsA⟩ : ∃ n, n = a.sA := ⟨_, rfl⟩
  obtain ⟨eA, heA⟩ : ∃ n, n = a.eA := ⟨_, rfl⟩
  have HRS : Hid (ERd elOS w (.slice sA sn a.sc) L) := Lib.hid (by rw [hsA, hsn]; exact h.seen)
  have HRE : Hid (ERd elOE w (.slice eA en a.ec) M) := Lib.hid (by rw [heA, hen]; exact h.evs)
  have HN1 : Hid (sn = L.length) := Lib.hid (hsn.trans h.sl.symm)
  have HN2 : Hid (en = M.length) := Lib.hid (hen.trans h.el.symm)
  have hq1 : sn ≤ 9223372036854775807 := by rw [HN1.out]; exact h.sm
  have hq2 : en ≤ 9223372036854775807 := by rw [HN2.out]; exact h.em
  have e0 : a.cs[0]? = some (.int .i64 a.st) := rfl
  have e1 : a.cs[1]? = some (.int .u64 (a.sec : Int)) := rfl
  have e2 : a.cs[2]? = some (.int .i64 a.rid) := rfl
  have e3 : a.cs[3]? = some (.int .i64 a.rx) := rfl
  have e4 : a.cs[4]? = some (.int .i64 a.ry) := rfl
  have e5 : a.cs[5]? = some (.int .i64 a.lab) := rfl
  have e6 : a.cs[6]? = some (.int .i64 a.b0) := rfl
  have e7 : a.cs[7]? = some (.int .i64 a.b1) := rfl
  have e8 : a.cs[8]? = some (.int .i64 a.b2) := rfl
  have e9 : a.cs[9]? = some (.int .i64 a.b3) := rfl
  have e10 : a.cs[10]? = some (.slice sA sn a.sc) := by rw [hsA, hsn]; rfl
  have e11 : a.cs[11]? = some (.slice eA en a.ec) := by rw [heA, hen]; rfl
  have HT := Lib.hid (fun w => rth20_any op m w)
  have HI := Lib.hid (fun w => rin_any a.st 12 w)
  have hcs : a.cs = #[.int .i64 a.st, .int .u64 (a.sec : Int), .int .i64 a.rid, .int .i64 a.rx, .int .i64 a.ry, .int .i64 a.lab, .int .i64 a.b0, .int .i64 a.b1, .int .i64 a.b2, .int .i64 a.b3, .slice sA sn a.sc, .slice eA en a.ec] := by rw [hsA, hsn, heA, hen]; rfl
  have HZ := Lib.hid (fun w => by have h9 := rzero_any w a; rw [hcs] at h9; exact h9)
  clear hcs
  have hWs := hW.symm
  clear h hW hsA heA
  rw [← hsn] at h1
  rw [← hen] at h3
  have h3' : (0 : Int) < (en : Int) := by omega
  have hne : (((eachN k : Nat) : Int) != 8) = true := by simp; omega
  clear hsn hen
  subst h1
  have e0' : a.cs[0]? = some (.int .i64 0) := by rw [e0, hs]
  clear e0
  have e0 := e0'
  have HEA := Lib.hid (fun w => reach_any k hk1 hk2 w)
  rw [hs] at HI
  have hsi : withinB 0 0 12 = true := rfl
  rw [hsi] at HI
  clear hi hsi hs e0'
  subst hk
  rw [hc] at HT
  clear hc
  go_enter Try.func15, Try.ntmps15
  go_wp2_with fail
  refine (HT.out _).mono ?_
  rintro e w1 ⟨rfl, hw1⟩
  subst hw1
  clear hWs
  have k0 := HK.out.cell 0; simp only [e0] at k0
  have k10 := HK.out.cell 10; simp only [e10] at k10
  have k11 := HK.out.cell 11; simp only [e11] at k11
  go_wp2_with fail
  refine (HI.out _).mono ?_
  rintro e w2 ⟨rfl, hw2⟩
  subst hw2
  go_wp2_with fail
  refine (HEA.out _).mono ?_
  rintro e w3 ⟨rfl, hb3⟩
  have HB3 := Lib.hid (below_trans HBW.out hb3)
  generalize ((eachN k : Nat) : Int) = ea at *
  go_wp2_with fail
  go_ret
  exact ⟨rfl, HB3.out⟩
set_option maxRecDepth 100000 in
set_option maxHeartbeats 8000000 in
theorem rf_D3 (w : World) (op m : Int) (a : An) (L : List Snt) (M : List Evt) (h : AnR w a L M) (hc : (opB op && mB m) = true) (hi : withinB a.st 0 12 = true) (hs : a.st = 0) (k : Nat) (hk : op = (k : Int)) (hk1 : 1 ≤ k) (hk2 : k ≤ 19) (h1 : 0 < a.sn) (h2 : eachN k = 11) (h3 : 0 < a.en) :
    Calls Try.prog 15 #[.int .i64 op, .int .i64 m, .agg a.cs] w fun e w' => e = .returned (.bool (false)) ∧ Below w.heap.size w w' := by
  obtain ⟨W, hW⟩ : ∃ W, W = w.alloc (.cells a.cs TA) := ⟨_, rfl⟩
  have HBW := Lib.hid (show Below w.heap.size w W by rw [hW]; exact (Below.refl _ _).alloc (Nat.le_refl _) _)
  have HK := Lib.hid (show Blk W w.heap.size TA a.cs by rw [hW]; exact Blk.new _ _ _)
  obtain ⟨sn, hsn⟩ : ∃ n, n = a.sn := ⟨_, rfl⟩
  obtain ⟨en, hen⟩ : ∃ n, n = a.en := ⟨_, rfl⟩
  obtain ⟨sA, hsA⟩ : ∃ n, n = a.sA := ⟨_, rfl⟩
  obtain ⟨eA, heA⟩ : ∃ n, n = a.eA := ⟨_, rfl⟩
  have HRS : Hid (ERd elOS w (.slice sA sn a.sc) L) := Lib.hid (by rw [hsA, hsn]; exact h.seen)
  have HRE : Hid (ERd elOE w (.slice eA en a.ec) M) := Lib.hid (by rw [heA, hen]; exact h.evs)
  have HN1 : Hid (sn = L.length) := Lib.hid (hsn.trans h.sl.symm)
  have HN2 : Hid (en = M.length) := Lib.hid (hen.trans h.el.symm)
  have hq1 : sn ≤ 9223372036854775807 := by rw [HN1.out]; exact h.sm
  have hq2 : en ≤ 9223372036854775807 := by rw [HN2.out]; exact h.em
  have e0 : a.cs[0]? = some (.int .i64 a.st) := rfl
  have e1 : a.cs[1]? = some (.int .u64 (a.sec : Int)) := rfl
  have e2 : a.cs[2]? = some (.int .i64 a.rid) := rfl
  have e3 : a.cs[3]? = some (.int .i64 a.rx) := rfl
  have e4 : a.cs[4]? = some (.int .i64 a.ry) := rfl
  have e5 : a.cs[5]? = some (.int .i64 a.lab) := rfl
  have e6 : a.cs[6]? = some (.int .i64 a.b0) := rfl
  have e7 : a.cs[7]? = some (.int .i64 a.b1) := rfl
  have e8 : a.cs[8]? = some (.int .i64 a.b2) := rfl
  have e9 : a.cs[9]? = some (.int .i64 a.b3) := rfl
  have e10 : a.cs[10]? = some (.slice sA sn a.sc) := by rw [hsA, hsn]; rfl
  have e11 : a.cs[11]? = some (.slice eA en a.ec) := by rw [heA, hen]; rfl
  have HT := Lib.hid (fun w => rth20_any op m w)
  have HI := Lib.hid (fun w => rin_any a.st 12 w)
  have hcs : a.cs = #[.int .i64 a.st, .int .u64 (a.sec : Int), .int .i64 a.rid, .int .i64 a.rx, .int .i64 a.ry, .int .i64 a.lab, .int .i64 a.b0, .int .i64 a.b1, .int .i64 a.b2, .int .i64 a.b3, .slice sA sn a.sc, .slice eA en a.ec] := by rw [hsA, hsn, heA, hen]; rfl
  have HZ := Lib.hid (fun w => by have h9 := rzero_any w a; rw [hcs] at h9; exact h9)
  clear hcs
  have hWs := hW.symm
  clear h hW hsA heA
  rw [← hsn] at h1
  rw [← hen] at h3
  have h1' : (0 : Int) < (sn : Int) := by omega
  have h3' : (0 : Int) < (en : Int) := by omega
  clear hsn hen
  have e0' : a.cs[0]? = some (.int .i64 0) := by rw [e0, hs]
  clear e0
  have e0 := e0'
  have HEA := Lib.hid (fun w => reach_any k hk1 hk2 w)
  rw [h2] at HEA
  rw [hs] at HI
  have hsi : withinB 0 0 12 = true := rfl
  rw [hsi] at HI
  clear hi hsi hs e0'
  subst hk
  rw [hc] at HT
  clear hc
  go_enter Try.func15, Try.ntmps15
  go_wp2_with fail
  refine (HT.out _).mono ?_
  rintro e w1 ⟨rfl, hw1⟩
  subst hw1
  clear hWs
  have k0 := HK.out.cell 0; simp only [e0] at k0
  have k10 := HK.out.cell 10; simp only [e10] at k10
  have k11 := HK.out.cell 11; simp only [e11] at k11
  go_wp2_with fail
  refine (HI.out _).mono ?_
  rintro e w2 ⟨rfl, hw2⟩
  subst hw2
  go_wp2_with fail
  refine (HEA.out _).mono ?_
  rintro e w3 ⟨rfl, hb3⟩
  have HB3 := Lib.hid (below_trans HBW.out hb3)
  clear k0 k10 k11
  have k10 := (HK.out.thru0 hb3).cell 10; simp only [e10] at k10
  have k11 := (HK.out.thru0 hb3).cell 11; simp only [e11] at k11
  go_wp2_with fail
  refine (HEA.out _).mono ?_
  rintro e w4 ⟨rfl, hb4⟩
  have HB4 := Lib.hid (below_trans HB3.out hb4)
  go_wp2_with fail
  go_ret
  exact ⟨rfl, HB4.out⟩
set_option maxRecDepth 100000 in
set_option maxHeartbeats 8000000 in
theorem rf_D4 (w : World) (op m : Int) (a : An) (L : List Snt) (M : List Evt) (h : AnR w a L M) (hc : (opB op && mB m) = true) (hi : withinB a.st 0 12 = true) (hs : a.st = 0) (k : Nat) (hk : op = (k : Int)) (hk1 : 1 ≤ k) (hk2 : k ≤ 19) (h1 : 0 < a.sn) (h2 : eachN k = 11) (h3 : a.en = 0) (h4 : m < (a.sn : Int)) :
    Calls Try.prog 15 #[.int .i64 op, .int .i64 m, .agg a.cs] w fun e w' => e = .returned (.bool (false)) ∧ Below w.heap.size w w' := by
  obtain ⟨W, hW⟩ : ∃ W, W = w.alloc (.cells a.cs TA) := ⟨_, rfl⟩
  have HBW := Lib.hid (show Below w.heap.size w W by rw [hW]; exact (Below.refl _ _).alloc (Nat.le_refl _) _)
  have HK := Lib.hid (show Blk W w.heap.size TA a.cs by rw [hW]; exact Blk.new _ _ _)
  obtain ⟨sn, hsn⟩ : ∃ n, n = a.sn := ⟨_, rfl⟩
  obtain ⟨en, hen⟩ : ∃ n, n = a.en := ⟨_, rfl⟩
  obtain ⟨sA, hsA⟩ : ∃ n, n = a.sA := ⟨_, rfl⟩
  obtain ⟨eA, heA⟩ : ∃ n, n = a.eA := ⟨_, rfl⟩
  have HRS : Hid (ERd elOS w (.slice sA sn a.sc) L) := Lib.hid (by rw [hsA, hsn]; exact h.seen)
  have HRE : Hid (ERd elOE w (.slice eA en a.ec) M) := Lib.hid (by rw [heA, hen]; exact h.evs)
  have HN1 : Hid (sn = L.length) := Lib.hid (hsn.trans h.sl.symm)
  have HN2 : Hid (en = M.length) := Lib.hid (hen.trans h.el.symm)
  have hq1 : sn ≤ 9223372036854775807 := by rw [HN1.out]; exact h.sm
  have hq2 : en ≤ 9223372036854775807 := by rw [HN2.out]; exact h.em
  have e0 : a.cs[0]? = some (.int .i64 a.st) := rfl
  have e1 : a.cs[1]? = some (.int .u64 (a.sec : Int)) := rfl
  have e2 : a.cs[2]? = some (.int .i64 a.rid) := rfl
  have e3 : a.cs[3]? = some (.int .i64 a.rx) := rfl
  have e4 : a.cs[4]? = some (.int .i64 a.ry) := rfl
  have e5 : a.cs[5]? = some (.int .i64 a.lab) := rfl
  have e6 : a.cs[6]? = some (.int .i64 a.b0) := rfl
  have e7 : a.cs[7]? = some (.int .i64 a.b1) := rfl
  have e8 : a.cs[8]? = some (.int .i64 a.b2) := rfl
  have e9 : a.cs[9]? = some (.int .i64 a.b3) := rfl
  have e10 : a.cs[10]? = some (.slice sA sn a.sc) := by rw [hsA, hsn]; rfl
  have e11 : a.cs[11]? = some (.slice eA en a.ec) := by rw [heA, hen]; rfl
  have HT := Lib.hid (fun w => rth20_any op m w)
  have HI := Lib.hid (fun w => rin_any a.st 12 w)
  have hcs : a.cs = #[.int .i64 a.st, .int .u64 (a.sec : Int), .int .i64 a.rid, .int .i64 a.rx, .int .i64 a.ry, .int .i64 a.lab, .int .i64 a.b0, .int .i64 a.b1, .int .i64 a.b2, .int .i64 a.b3, .slice sA sn a.sc, .slice eA en a.ec] := by rw [hsA, hsn, heA, hen]; rfl
  have HZ := Lib.hid (fun w => by have h9 := rzero_any w a; rw [hcs] at h9; exact h9)
  clear hcs
  have hWs := hW.symm
  clear h hW hsA heA
  rw [← hsn] at h1 h4
  rw [← hen] at h3
  have h1' : (0 : Int) < (sn : Int) := by omega
  clear hsn hen
  subst h3
  have e0' : a.cs[0]? = some (.int .i64 0) := by rw [e0, hs]
  clear e0
  have e0 := e0'
  have HEA := Lib.hid (fun w => reach_any k hk1 hk2 w)
  rw [h2] at HEA
  rw [hs] at HI
  have hsi : withinB 0 0 12 = true := rfl
  rw [hsi] at HI
  clear hi hsi hs e0'
  subst hk
  rw [hc] at HT
  clear hc
  go_enter Try.func15, Try.ntmps15
  go_wp2_with fail
  refine (HT.out _).mono ?_
  rintro e w1 ⟨rfl, hw1⟩
  subst hw1
  clear hWs
  have k0 := HK.out.cell 0; simp only [e0] at k0
  have k10 := HK.out.cell 10; simp only [e10] at k10
  have k11 := HK.out.cell 11; simp only [e11] at k11
  go_wp2_with fail
  refine (HI.out _).mono ?_
  rintro e w2 ⟨rfl, hw2⟩
  subst hw2
  go_wp2_with fail
  refine (HEA.out _).mono ?_
  rintro e w3 ⟨rfl, hb3⟩
  have HB3 := Lib.hid (below_trans HBW.out hb3)
  clear k0 k10 k11
  have k10 := (HK.out.thru0 hb3).cell 10; simp only [e10] at k10
  have k11 := (HK.out.thru0 hb3).cell 11; simp only [e11] at k11
  go_wp2_with fail
  go_ret
  exact ⟨rfl, HB3.out⟩
set_option maxRecDepth 100000 in
set_option maxHeartbeats 8000000 in
theorem rf_D5 (w : World) (op m : Int) (a : An) (L : List Snt) (M : List Evt) (h : AnR w a L M) (hc : (opB op && mB m) = true) (hi : withinB a.st 0 12 = true) (hs : a.st = 0) (k : Nat) (hk : op = (k : Int)) (hk1 : 1 ≤ k) (hk2 : k ≤ 19) (h1 : a.sn = 0) (h2 : eachN k = 8) (h3 : 0 < a.en) (h4 : m < (a.en : Int)) (h5 : 0 ≤ m) :
    Calls Try.prog 15 #[.int .i64 op, .int .i64 m, .agg a.cs] w fun e w' => e = .returned (.bool (false)) ∧ Below w.heap.size w w' := by
  obtain ⟨W, hW⟩ : ∃ W, W = w.alloc (.cells a.cs TA) := ⟨_, rfl⟩
  have HBW := Lib.hid (show Below w.heap.size w W by rw [hW]; exact (Below.refl _ _).alloc (Nat.le_refl _) _)
  have HK := Lib.hid (show Blk W w.heap.size TA a.cs by rw [hW]; exact Blk.new _ _ _)
  obtain ⟨sn, hsn⟩ : ∃ n, n = a.sn := ⟨_, rfl⟩
  obtain ⟨en, hen⟩ : ∃ n, n = a.en := ⟨_, rfl⟩
  obtain ⟨sA, hsA⟩ : ∃ n, n = a.sA := ⟨_, rfl⟩
  obtain ⟨eA, heA⟩ : ∃ n, n = a.eA := ⟨_, rfl⟩
  have HRS : Hid (ERd elOS w (.slice sA sn a.sc) L) := Lib.hid (by rw [hsA, hsn]; exact h.seen)
  have HRE : Hid (ERd elOE w (.slice eA en a.ec) M) := Lib.hid (by rw [heA, hen]; exact h.evs)
  have HN1 : Hid (sn = L.length) := Lib.hid (hsn.trans h.sl.symm)
  have HN2 : Hid (en = M.length) := Lib.hid (hen.trans h.el.symm)
  have hq1 : sn ≤ 9223372036854775807 := by rw [HN1.out]; exact h.sm
  have hq2 : en ≤ 9223372036854775807 := by rw [HN2.out]; exact h.em
  have e0 : a.cs[0]? = some (.int .i64 a.st) := rfl
  have e1 : a.cs[1]? = some (.int .u64 (a.sec : Int)) := rfl
  have e2 : a.cs[2]? = some (.int .i64 a.rid) := rfl
  have e3 : a.cs[3]? = some (.int .i64 a.rx) := rfl
  have e4 : a.cs[4]? = some (.int .i64 a.ry) := rfl
  have e5 : a.cs[5]? = some (.int .i64 a.lab) := rfl
  have e6 : a.cs[6]? = some (.int .i64 a.b0) := rfl
  have e7 : a.cs[7]? = some (.int .i64 a.b1) := rfl
  have e8 : a.cs[8]? = some (.int .i64 a.b2) := rfl
  have e9 : a.cs[9]? = some (.int .i64 a.b3) := rfl
  have e10 : a.cs[10]? = some (.slice sA sn a.sc) := by rw [hsA, hsn]; rfl
  have e11 : a.cs[11]? = some (.slice eA en a.ec) := by rw [heA, hen]; rfl
  have HT := Lib.hid (fun w => rth20_any op m w)
  have HI := Lib.hid (fun w => rin_any a.st 12 w)
  have hcs : a.cs = #[.int .i64 a.st, .int .u64 (a.sec : Int), .int .i64 a.rid, .int .i64 a.rx, .int .i64 a.ry, .int .i64 a.lab, .int .i64 a.b0, .int .i64 a.b1, .int .i64 a.b2, .int .i64 a.b3, .slice sA sn a.sc, .slice eA en a.ec] := by rw [hsA, hsn, heA, hen]; rfl
  have HZ := Lib.hid (fun w => by have h9 := rzero_any w a; rw [hcs] at h9; exact h9)
  clear hcs
  have hWs := hW.symm
  clear h hW hsA heA
  rw [← hsn] at h1
  rw [← hen] at h3 h4
  have h3' : (0 : Int) < (en : Int) := by omega
  clear hsn hen
  subst h1
  have e0' : a.cs[0]? = some (.int .i64 0) := by rw [e0, hs]
  clear e0
  have e0 := e0'
  have HEA := Lib.hid (fun w => reach_any k hk1 hk2 w)
  rw [h2] at HEA
  rw [hs] at HI
  have hsi : withinB 0 0 12 = true := rfl
  rw [hsi] at HI
  clear hi hsi hs e0'
  subst hk
  rw [hc] at HT
  clear hc
  go_enter Try.func15, Try.ntmps15
  go_wp2_with fail
  refine (HT.out _).mono ?_
  rintro e w1 ⟨rfl, hw1⟩
  subst hw1
  clear hWs
  have k0 := HK.out.cell 0; simp only [e0] at k0
  have k10 := HK.out.cell 10; simp only [e10] at k10
  have k11 := HK.out.cell 11; simp only [e11] at k11
  go_wp2_with fail
  refine (HI.out _).mono ?_
  rintro e w2 ⟨rfl, hw2⟩
  subst hw2
  go_wp2_with fail
  refine (HEA.out _).mono ?_
  rintro e w3 ⟨rfl, hb3⟩
  have HB3 := Lib.hid (below_trans HBW.out hb3)
  clear k0 k10 k11
  have k10 := (HK.out.thru0 hb3).cell 10; simp only [e10] at k10
  have k11 := (HK.out.thru0 hb3).cell 11; simp only [e11] at k11
  go_wp2_with fail
  go_ret
  exact ⟨rfl, HB3.out⟩
end Go.Proofs.Ytmapcdmegkfheaa
