/- reply: the document's Fits: what passes, by contract. -/
import Derived.Test.YtmapcdmegkfheaaZbRe16
namespace Go.Proofs.Ytmapcdmegkfheaa
set_option linter.unusedVariables false
set_option linter.unusedSimpArgs false
open Go.RowKit
set_option maxRecDepth 100000 in
set_option maxHeartbeats 8000000 in
theorem rf_Z4 (w : World) (op m : Int) (a : An) (L : List Snt) (M : List Evt) (h : AnR w a L M) (hc : (opB op && mB m) = true) (hs : a.st = 0) (hm0 : 0 ≤ m) (hop : op = 4) (h1 : a.sn = 0) (h3 : a.en = 0) :
    Calls Try.prog 15 #[.int .i64 op, .int .i64 m, .agg a.cs] w fun e w' => e = .returned (.bool (zeroB { a with sec := 0 })) ∧ Below w.heap.size w w' := by
  obtain ⟨W, hW⟩ : ∃ W, W = w.alloc (.cells a.cs TA) := ⟨_, rfl⟩
  have HBW := Lib.hid (show Below w.heap.size w W by rw [hW]; exact (Below.refl _ _).alloc (Nat.le_refl _) _)
  have HK := Lib.hid (show Blk W w.heap.size TA a.cs by rw [hW]; exact Blk.new _ _ _)
  obtain ⟨sn, hsn⟩ : ∃ n, n = a.sn := ⟨_, rfl⟩
  obtain ⟨en, hen⟩ : ∃ n, n = a.en := ⟨_, rfl⟩
  obtain ⟨sA, hsA⟩ : ∃ n, n = a.sA := ⟨_, rfl⟩
  obtain ⟨eA, heA⟩ : ∃ n, n = a.eA := ⟨_, rfl⟩
  have HRS : Hid (ERd elOS w (.slice sA sn a.sc) L) := Lib.hid (by rw [hsA, hsn]; exact h.seen)
  have HRE : Hid (ERd elOE w (.slice eA en a.ec) M) := Lib.hid (by rw [heA, hen]; exact h.evs)
  have HN1 : Hid (sn = L.length) := Lib.hid (hsn.trans h.sl.symm)
  have HN2 : Hid (en = M.length) := Lib.hid (hen.trans h.el.symm)
  have hq1 : sn ≤ 9223372036854775807 := by rw [HN1.out]; exact h.sm
  have hq2 : en ≤ 9223372036854775807 := by rw [HN2.out]; exact h.em
  have e0 : a.cs[0]? = some (.int .i64 a.st) := rfl
  have e1 : a.cs[1]? = some (.int .u64 (a.sec : Int)) := rfl
  have e2 : a.cs[2]? = some (.int .i64 a.rid) := rfl
  have e3 : a.cs[3]? = some (.int .i64 a.rx) := rfl
  have e4 : a.cs[4]? = some (.int .i64 a.ry) := rfl
  have e5 : a.cs[5]? = some (.int .i64 a.lab) := rfl
  have e6 : a.cs[6]? = some (.int .i64 a.b0) := rfl
  have e7 : a.cs[7]? = some (.int .i64 a.b1) := rfl
  have e8 : a.cs[8]? = some (.int .i64 a.b2) := rfl
  have e9 : a.cs[9]? = some (.int .i64 a.b3) := rfl
  have e10 : a.cs[10]? = some (.slice sA sn a.sc) := by rw [hsA, hsn]; rfl
  have e11 : a.cs[11]? = some (.slice eA en a.ec) := by rw [heA, hen]; rfl
  have HT := Lib.hid (fun w => rth20_any op m w)
  have HI := Lib.hid (fun w => rin_any a.st 12 w)
  have hcs : a.cs = #[.int .i64 a.st, .int .u64 (a.sec : Int), .int .i64 a.rid, .int .i64 a.rx, .int .i64 a.ry, .int .i64 a.lab, .int .i64 a.b0, .int .i64 a.b1, .int .i64 a.b2, .int .i64 a.b3, .slice sA sn a.sc, .slice eA en a.ec] := by rw [hsA, hsn, heA, hen]; rfl
  have HZ := Lib.hid (fun w => by have h9 := rzero_any w a; rw [hcs] at h9; exact h9)
  clear hcs
  have hcs9 : ({ a with sec := 0 } : An).cs = #[.int .i64 0, .int .u64 0, .int .i64 a.rid, .int .i64 a.rx, .int .i64 a.ry, .int .i64 a.lab, .int .i64 a.b0, .int .i64 a.b1, .int .i64 a.b2, .int .i64 a.b3, .slice sA 0 a.sc, .slice eA 0 a.ec] := by rw [hsA, heA]; (simp only [An.cs, hs, h1, h3]; try rfl)
  have HZ9 := Lib.hid (fun w => by have h9 := rzero_any w ({ a with sec := 0 } : An); rw [hcs9] at h9; exact h9)
  clear hcs9
  have hz1 : sn = 0 := by rw [hsn]; exact h1
  have hz2 : en = 0 := by rw [hen]; exact h3
  subst hz1
  subst hz2
  have hWs := hW.symm
  clear h hW hsA heA hsn hen
  subst hop
  have e0' : a.cs[0]? = some (.int .i64 0) := by rw [e0, hs]
  clear e0
  have e0 := e0'
  rw [hs] at HI
  have hsi : withinB 0 0 12 = true := rfl
  rw [hsi] at HI
  clear hsi e0'
  rw [hc] at HT
  clear hc
  go_enter Try.func15, Try.ntmps15
  go_wp2_with fail
  refine (HT.out _).mono ?_
  rintro e w1 ⟨rfl, hw1⟩
  subst hw1
  clear hWs
  have k0 := HK.out.cell 0; simp only [e0] at k0
  have k10 := HK.out.cell 10; simp only [e10] at k10
  have k11 := HK.out.cell 11; simp only [e11] at k11
  go_wp2_with fail
  refine (HI.out _).mono ?_
  rintro e w2 ⟨rfl, hw2⟩
  subst hw2
  go_wp2_with fail
  refine wp_loop_rounds 1 ?_
  rw [rounds_succ]
  go_wp2_with fail
  refine wp_loop_rounds 1 ?_
  rw [rounds_succ]
  have k1 := HK.out.cell 1; simp only [e1] at k1
  have k2 := HK.out.cell 2; simp only [e2] at k2
  have k3 := HK.out.cell 3; simp only [e3] at k3
  have k4 := HK.out.cell 4; simp only [e4] at k4
  have k5 := HK.out.cell 5; simp only [e5] at k5
  have k6 := HK.out.cell 6; simp only [e6] at k6
  have k7 := HK.out.cell 7; simp only [e7] at k7
  have k8 := HK.out.cell 8; simp only [e8] at k8
  have k9 := HK.out.cell 9; simp only [e9] at k9
  have f1 := HK.out.frozen 1
  go_wp2_with fail
  refine (HZ9.out _).mono ?_
  rintro e w8 ⟨rfl, hb8⟩
  have HB8 := Lib.hid (below_trans (below_setc HBW.out (Nat.le_refl _) 1 _) hb8)
  go_wp2_with fail
  go_ret
  exact ⟨ret_bool (by first | rfl | simp), HB8.out⟩
set_option maxRecDepth 100000 in
set_option maxHeartbeats 8000000 in
theorem rf_Z5 (w : World) (op m : Int) (a : An) (L : List Snt) (M : List Evt) (h : AnR w a L M) (hc : (opB op && mB m) = true) (hs : a.st = 0) (hm0 : 0 ≤ m) (hop : op = 5) (h1 : a.sn = 0) (h3 : a.en = 0) :
    Calls Try.prog 15 #[.int .i64 op, .int .i64 m, .agg a.cs] w fun e w' => e = .returned (.bool (zeroB { a with sec := 0 })) ∧ Below w.heap.size w w' := by
  obtain ⟨W, hW⟩ : ∃ W, W = w.alloc (.cells a.cs TA) := ⟨_, rfl⟩
  have HBW := Lib.hid (show Below w.heap.size w W by rw [hW]; exact (Below.refl _ _).alloc (Nat.le_refl _) _)
  have HK := Lib.hid (show Blk W w.heap.size TA a.cs by rw [hW]; exact Blk.new _ _ _)
  obtain ⟨sn, hsn⟩ : ∃ n, n = a.sn := ⟨_, rfl⟩
  obtain ⟨en, hen⟩ : ∃ n, n = a.en := ⟨_, rfl⟩
  obtain ⟨sA, hsA⟩ : ∃ n, n = a.sA := ⟨_, rfl⟩
  obtain ⟨eA, heA⟩ : ∃ n, n = a.eA := ⟨_, rfl⟩
  have HRS : Hid (ERd elOS w (.slice sA sn a.sc) L) := Lib.hid (by rw [hsA, hsn]; exact h.seen)
  have HRE : Hid (ERd elOE w (.slice eA en a.ec) M) := Lib.hid (by rw [heA, hen]; exact h.evs)
  have HN1 : Hid (sn = L.length) := Lib.hid (hsn.trans h.sl.symm)
  have HN2 : Hid (en = M.length) := Lib.hid (hen.trans h.el.symm)
  have hq1 : sn ≤ 9223372036854775807 := by rw [HN1.out]; exact h.sm
  have hq2 : en ≤ 9223372036854775807 := by rw [HN2.out]; exact h.em
  have e0 : a.cs[0]? = some (.int .i64 a.st) := rfl
  have e1 : a.cs[1]? = some (.int .u64 (a.sec : Int)) := rfl
  have e2 : a.cs[2]? = some (.int .i64 a.rid) := rfl
  have e3 : a.cs[3]? = some (.int .i64 a.rx) := rfl
  have e4 : a.cs[4]? = some (.int .i64 a.ry) := rfl
  have e5 : a.cs[5]? = some (.int .i64 a.lab) := rfl
  have e6 : a.cs[6]? = some (.int .i64 a.b0) := rfl
  have e7 : a.cs[7]? = some (.int .i64 a.b1) := rfl
  have e8 : a.cs[8]? = some (.int .i64 a.b2) := rfl
  have e9 : a.cs[9]? = some (.int .i64 a.b3) := rfl
  have e10 : a.cs[10]? = some (.slice sA sn a.sc) := by rw [hsA, hsn]; rfl
  have e11 : a.cs[11]? = some (.slice eA en a.ec) := by rw [heA, hen]; rfl
  have HT := Lib.hid (fun w => rth20_any op m w)
  have HI := Lib.hid (fun w => rin_any a.st 12 w)
  have hcs : a.cs = #[.int .i64 a.st, .int .u64 (a.sec : Int), .int .i64 a.rid, .int .i64 a.rx, .int .i64 a.ry, .int .i64 a.lab, .int .i64 a.b0, .int .i64 a.b1, .int .i64 a.b2, .int .i64 a.b3, .slice sA sn a.sc, .slice eA en a.ec] := by rw [hsA, hsn, heA, hen]; rfl
  have HZ := Lib.hid (fun w => by have h9 := rzero_any w a; rw [hcs] at h9; exact h9)
  clear hcs
  have hcs9 : ({ a with sec := 0 } : An).cs = #[.int .i64 0, .int .u64 0, .int .i64 a.rid, .int .i64 a.rx, .int .i64 a.ry, .int .i64 a.lab, .int .i64 a.b0, .int .i64 a.b1, .int .i64 a.b2, .int .i64 a.b3, .slice sA 0 a.sc, .slice eA 0 a.ec] := by rw [hsA, heA]; (simp only [An.cs, hs, h1, h3]; try rfl)
  have HZ9 := Lib.hid (fun w => by have h9 := rzero_any w ({ a with sec := 0 } : An); rw [hcs9] at h9; exact h9)
  clear hcs9
  have hz1 : sn = 0 := by rw [hsn]; exact h1
  have hz2 : en = 0 := by rw [hen]; exact h3
  subst hz1
  subst hz2
  have hWs := hW.symm
  clear h hW hsA heA hsn hen
  subst hop
  have e0' : a.cs[0]? = some (.int .i64 0) := by rw [e0, hs]
  clear e0
  have e0 := e0'
  rw [hs] at HI
  have hsi : withinB 0 0 12 = true := rfl
  rw [hsi] at HI
  clear hsi e0'
  rw [hc] at HT
  clear hc
  go_enter Try.func15, Try.ntmps15
  go_wp2_with fail
  refine (HT.out _).mono ?_
  rintro e w1 ⟨rfl, hw1⟩
  subst hw1
  clear hWs
  have k0 := HK.out.cell 0; simp only [e0] at k0
  have k10 := HK.out.cell 10; simp only [e10] at k10
  have k11 := HK.out.cell 11; simp only [e11] at k11
  go_wp2_with fail
  refine (HI.out _).mono ?_
  rintro e w2 ⟨rfl, hw2⟩
  subst hw2
  go_wp2_with fail
  refine wp_loop_rounds 1 ?_
  rw [rounds_succ]
  go_wp2_with fail
  refine wp_loop_rounds 1 ?_
  rw [rounds_succ]
  have k1 := HK.out.cell 1; simp only [e1] at k1
  have k2 := HK.out.cell 2; simp only [e2] at k2
  have k3 := HK.out.cell 3; simp only [e3] at k3
  have k4 := HK.out.cell 4; simp only [e4] at k4
  have k5 := HK.out.cell 5; simp only [e5] at k5
  have k6 := HK.out.cell 6; simp only [e6] at k6
  have k7 := HK.out.cell 7; simp only [e7] at k7
  have k8 := HK.out.cell 8; simp only [e8] at k8
  have k9 := HK.out.cell 9; simp only [e9] at k9
  have f1 := HK.out.frozen 1
  go_wp2_with fail
  refine (HZ9.out _).mono ?_
  rintro e w8 ⟨rfl, hb8⟩
  have HB8 := Lib.hid (below_trans (below_setc HBW.out (Nat.le_refl _) 1 _) hb8)
  go_wp2_with fail
  go_ret
  exact ⟨ret_bool (by first | rfl | simp), HB8.out⟩
set_option maxRecDepth 100000 in
set_option maxHeartbeats 8000000 in
theorem rf_Z0 (w : World) (op m : Int) (a : An) (L : List Snt) (M : List Evt) (h : AnR w a L M) (hc : (opB op && mB m) = true) (hs : a.st = 0) (hm0 : 0 ≤ m) (h4 : op ≠ 4) (h5 : op ≠ 5) (h12 : op ≠ 12) (h10 : op ≠ 10) (h1 : a.sn = 0) (h3 : a.en = 0) :
    Calls Try.prog 15 #[.int .i64 op, .int .i64 m, .agg a.cs] w fun e w' => e = .returned (.bool (zeroB a)) ∧ Below w.heap.size w w' := by
  obtain ⟨W, hW⟩ : ∃ W, W = w.alloc (.cells a.cs TA) := ⟨_, rfl⟩
  have HBW := Lib.hid (show Below w.heap.size w W by rw [hW]; exact (Below.refl _ _).alloc (Nat.le_refl _) _)
  have HK := Lib.hid (show Blk W w.heap.size TA a.cs by rw [hW]; exact Blk.new _ _ _)
  obtain ⟨sn, hsn⟩ : ∃ n, n = a.sn := ⟨_, rfl⟩
  obtain ⟨en, hen⟩ : ∃ n, n = a.en := ⟨_, rfl⟩
  obtain ⟨sA, hsA⟩ : ∃ n, n = a.sA := ⟨_, rfl⟩
  obtain ⟨eA, heA⟩ : ∃ n, n = a.eA := ⟨_, rfl⟩
  have HRS : Hid (ERd elOS w (.slice sA sn a.sc) L) := Lib.hid (by rw [hsA, hsn]; exact h.seen)
  have HRE : Hid (ERd elOE w (.slice eA en a.ec) M) := Lib.hid (by rw [heA, hen]; exact h.evs)
  have HN1 : Hid (sn = L.length) := Lib.hid (hsn.trans h.sl.symm)
  have HN2 : Hid (en = M.length) := Lib.hid (hen.trans h.el.symm)
  have hq1 : sn ≤ 9223372036854775807 := by rw [HN1.out]; exact h.sm
  have hq2 : en ≤ 9223372036854775807 := by rw [HN2.out]; exact h.em
  have e0 : a.cs[0]? = some (.int .i64 a.st) := rfl
  have e1 : a.cs[1]? = some (.int .u64 (a.sec : Int)) := rfl
  have e2 : a.cs[2]? = some (.int .i64 a.rid) := rfl
  have e3 : a.cs[3]? = some (.int .i64 a.rx) := rfl
  have e4 : a.cs[4]? = some (.int .i64 a.ry) := rfl
  have e5 : a.cs[5]? = some (.int .i64 a.lab) := rfl
  have e6 : a.cs[6]? = some (.int .i64 a.b0) := rfl
  have e7 : a.cs[7]? = some (.int .i64 a.b1) := rfl
  have e8 : a.cs[8]? = some (.int .i64 a.b2) := rfl
  have e9 : a.cs[9]? = some (.int .i64 a.b3) := rfl
  have e10 : a.cs[10]? = some (.slice sA sn a.sc) := by rw [hsA, hsn]; rfl
  have e11 : a.cs[11]? = some (.slice eA en a.ec) := by rw [heA, hen]; rfl
  have HT := Lib.hid (fun w => rth20_any op m w)
  have HI := Lib.hid (fun w => rin_any a.st 12 w)
  have hcs : a.cs = #[.int .i64 a.st, .int .u64 (a.sec : Int), .int .i64 a.rid, .int .i64 a.rx, .int .i64 a.ry, .int .i64 a.lab, .int .i64 a.b0, .int .i64 a.b1, .int .i64 a.b2, .int .i64 a.b3, .slice sA sn a.sc, .slice eA en a.ec] := by rw [hsA, hsn, heA, hen]; rfl
  have HZ := Lib.hid (fun w => by have h9 := rzero_any w a; rw [hcs] at h9; exact h9)
  clear hcs
  have hcs9 : a.cs = #[.int .i64 0, .int .u64 (a.sec : Int), .int .i64 a.rid, .int .i64 a.rx, .int .i64 a.ry, .int .i64 a.lab, .int .i64 a.b0, .int .i64 a.b1, .int .i64 a.b2, .int .i64 a.b3, .slice sA 0 a.sc, .slice eA 0 a.ec] := by rw [hsA, heA]; (simp only [An.cs, hs, h1, h3]; try rfl)
  have HZ9 := Lib.hid (fun w => by have h9 := rzero_any w a; rw [hcs9] at h9; exact h9)
  clear hcs9
  have hz1 : sn = 0 := by rw [hsn]; exact h1
  have hz2 : en = 0 := by rw [hen]; exact h3
  subst hz1
  subst hz2
  have hWs := hW.symm
  clear h hW hsA heA hsn hen
  have b4 : (op == 4) = false := beq_eq_false_iff_ne.2 h4
  have b5 : (op == 5) = false := beq_eq_false_iff_ne.2 h5
  have b10 : (op == 10) = false := beq_eq_false_iff_ne.2 h10
  have b12 : (op == 12) = false := beq_eq_false_iff_ne.2 h12
  have e0' : a.cs[0]? = some (.int .i64 0) := by rw [e0, hs]
  clear e0
  have e0 := e0'
  rw [hs] at HI
  have hsi : withinB 0 0 12 = true := rfl
  rw [hsi] at HI
  clear hsi e0'
  rw [hc] at HT
  clear hc
  go_enter Try.func15, Try.ntmps15
  go_wp2_with fail
  refine (HT.out _).mono ?_
  rintro e w1 ⟨rfl, hw1⟩
  subst hw1
  clear hWs
  have k0 := HK.out.cell 0; simp only [e0] at k0
  have k10 := HK.out.cell 10; simp only [e10] at k10
  have k11 := HK.out.cell 11; simp only [e11] at k11
  go_wp2_with fail
  refine (HI.out _).mono ?_
  rintro e w2 ⟨rfl, hw2⟩
  subst hw2
  go_wp2_with fail
  refine wp_loop_rounds 1 ?_
  rw [rounds_succ]
  go_wp2_with fail
  refine wp_loop_rounds 1 ?_
  rw [rounds_succ]
  have k1 := HK.out.cell 1; simp only [e1] at k1
  have k2 := HK.out.cell 2; simp only [e2] at k2
  have k3 := HK.out.cell 3; simp only [e3] at k3
  have k4 := HK.out.cell 4; simp only [e4] at k4
  have k5 := HK.out.cell 5; simp only [e5] at k5
  have k6 := HK.out.cell 6; simp only [e6] at k6
  have k7 := HK.out.cell 7; simp only [e7] at k7
  have k8 := HK.out.cell 8; simp only [e8] at k8
  have k9 := HK.out.cell 9; simp only [e9] at k9
  go_wp2_with fail
  refine (HZ9.out _).mono ?_
  rintro e w8 ⟨rfl, hb8⟩
  have HB8 := Lib.hid (below_trans HBW.out hb8)
  go_wp2_with fail
  go_ret
  exact ⟨ret_bool (by first | rfl | simp), HB8.out⟩
set_option maxRecDepth 100000 in
set_option maxHeartbeats 8000000 in
theorem rf_Z10 (w : World) (op m : Int) (a : An) (L : List Snt) (M : List Evt) (h : AnR w a L M) (hc : (opB op && mB m) = true) (hs : a.st = 0) (hm0 : 0 ≤ m) (hop : op = 10) (h1 : a.sn = 0) (h3 : a.en = 0) :
    Calls Try.prog 15 #[.int .i64 op, .int .i64 m, .agg a.cs] w fun e w' => e = .returned (.bool (rightB a.b0 a.b1 a.b2 a.b3 && zeroB { a with b0 := 0, b1 := 0, b2 := 0, b3 := 0 })) ∧ Below w.heap.size w w' := by
  obtain ⟨W, hW⟩ : ∃ W, W = w.alloc (.cells a.cs TA) := ⟨_, rfl⟩
  have HBW := Lib.hid (show Below w.heap.size w W by rw [hW]; exact (Below.refl _ _).alloc (Nat.le_refl _) _)
  have HK := Lib.hid (show Blk W w.heap.size TA a.cs by rw [hW]; exact Blk.new _ _ _)
  obtain ⟨sn, hsn⟩ : ∃ n, n = a.sn := ⟨_, rfl⟩
  obtain ⟨en, hen⟩ : ∃ n, n = a.en := ⟨_, rfl⟩
  obtain ⟨sA, hsA⟩ : ∃ n, n = a.sA := ⟨_, rfl⟩
  obtain ⟨eA, heA⟩ : ∃ n, n = a.eA := ⟨_, rfl⟩
  have HRS : Hid (ERd elOS w (.slice sA sn a.sc) L) := Lib.hid (by rw [hsA, hsn]; exact h.seen)
  have HRE : Hid (ERd elOE w (.slice eA en a.ec) M) := Lib.hid (by rw [heA, hen]; exact h.evs)
  have HN1 : Hid (sn = L.length) := Lib.hid (hsn.trans h.sl.symm)
  have HN2 : Hid (en = M.length) := Lib.hid (hen.trans h.el.symm)
  have hq1 : sn ≤ 9223372036854775807 := by rw [HN1.out]; exact h.sm
  have hq2 : en ≤ 9223372036854775807 := by rw [HN2.out]; exact h.em
  have e0 : a.cs[0]? = some (.int .i64 a.st) := rfl
  have e1 : a.cs[1]? = some (.int .u64 (a.sec : Int)) := rfl
  have e2 : a.cs[2]? = some (.int .i64 a.rid) := rfl
  have e3 : a.cs[3]? = some (.int .i64 a.rx) := rfl
  have e4 : a.cs[4]? = some (.int .i64 a.ry) := rfl
  have e5 : a.cs[5]? = some (.int .i64 a.lab) := rfl
  have e6 : a.cs[6]? = some (.int .i64 a.b0) := rfl
  have e7 : a.cs[7]? = some (.int .i64 a.b1) := rfl
  have e8 : a.cs[8]? = some (.int .i64 a.b2) := rfl
  have e9 : a.cs[9]? = some (.int .i64 a.b3) := rfl
  have e10 : a.cs[10]? = some (.slice sA sn a.sc) := by rw [hsA, hsn]; rfl
  have e11 : a.cs[11]? = some (.slice eA en a.ec) := by rw [heA, hen]; rfl
  have HT := Lib.hid (fun w => rth20_any op m w)
  have HI := Lib.hid (fun w => rin_any a.st 12 w)
  have hcs : a.cs = #[.int .i64 a.st, .int .u64 (a.sec : Int), .int .i64 a.rid, .int .i64 a.rx, .int .i64 a.ry, .int .i64 a.lab, .int .i64 a.b0, .int .i64 a.b1, .int .i64 a.b2, .int .i64 a.b3, .slice sA sn a.sc, .slice eA en a.ec] := by rw [hsA, hsn, heA, hen]; rfl
  have HZ := Lib.hid (fun w => by have h9 := rzero_any w a; rw [hcs] at h9; exact h9)
  clear hcs
  have hcs9 : ({ a with b0 := 0, b1 := 0, b2 := 0, b3 := 0 } : An).cs = #[.int .i64 0, .int .u64 (a.sec : Int), .int .i64 a.rid, .int .i64 a.rx, .int .i64 a.ry, .int .i64 a.lab, .int .i64 0, .int .i64 0, .int .i64 0, .int .i64 0, .slice sA 0 a.sc, .slice eA 0 a.ec] := by rw [hsA, heA]; (simp only [An.cs, hs, h1, h3]; try rfl)
  have HZ9 := Lib.hid (fun w => by have h9 := rzero_any w ({ a with b0 := 0, b1 := 0, b2 := 0, b3 := 0 } : An); rw [hcs9] at h9; exact h9)
  clear hcs9
  have hz1 : sn = 0 := by rw [hsn]; exact h1
  have hz2 : en = 0 := by rw [hen]; exact h3
  subst hz1
  subst hz2
  have hWs := hW.symm
  clear h hW hsA heA hsn hen
  subst hop
  have HRT := Lib.hid (fun w => ref_right a.b0 a.b1 a.b2 a.b3 w)
  generalize rightB a.b0 a.b1 a.b2 a.b3 = rb at *
  have e0' : a.cs[0]? = some (.int .i64 0) := by rw [e0, hs]
  clear e0
  have e0 := e0'
  rw [hs] at HI
  have hsi : withinB 0 0 12 = true := rfl
  rw [hsi] at HI
  clear hsi e0'
  rw [hc] at HT
  clear hc
  go_enter Try.func15, Try.ntmps15
  go_wp2_with fail
  refine (HT.out _).mono ?_
  rintro e w1 ⟨rfl, hw1⟩
  subst hw1
  clear hWs
  have k0 := HK.out.cell 0; simp only [e0] at k0
  have k10 := HK.out.cell 10; simp only [e10] at k10
  have k11 := HK.out.cell 11; simp only [e11] at k11
  go_wp2_with fail
  refine (HI.out _).mono ?_
  rintro e w2 ⟨rfl, hw2⟩
  subst hw2
  go_wp2_with fail
  refine wp_loop_rounds 1 ?_
  rw [rounds_succ]
  go_wp2_with fail
  refine wp_loop_rounds 1 ?_
  rw [rounds_succ]
  have k1 := HK.out.cell 1; simp only [e1] at k1
  have k2 := HK.out.cell 2; simp only [e2] at k2
  have k3 := HK.out.cell 3; simp only [e3] at k3
  have k4 := HK.out.cell 4; simp only [e4] at k4
  have k5 := HK.out.cell 5; simp only [e5] at k5
  have k6 := HK.out.cell 6; simp only [e6] at k6
  have k7 := HK.out.cell 7; simp only [e7] at k7
  have k8 := HK.out.cell 8; simp only [e8] at k8
  have k9 := HK.out.cell 9; simp only [e9] at k9
  go_wp2_with fail
  refine (HRT.out _).mono ?_
  rintro e w3 ⟨rfl, hb3⟩
  have HB3 := Lib.hid (below_trans HBW.out hb3)
  clear k0 k1 k2 k3 k4 k5 k6 k7 k8 k9 k10 k11
  have k0 := (HK.out.thru0 hb3).cell 0; simp only [e0] at k0
  have k1 := (HK.out.thru0 hb3).cell 1; simp only [e1] at k1
  have k2 := (HK.out.thru0 hb3).cell 2; simp only [e2] at k2
  have k3 := (HK.out.thru0 hb3).cell 3; simp only [e3] at k3
  have k4 := (HK.out.thru0 hb3).cell 4; simp only [e4] at k4
  have k5 := (HK.out.thru0 hb3).cell 5; simp only [e5] at k5
  have k6 := (HK.out.thru0 hb3).cell 6; simp only [e6] at k6
  have k7 := (HK.out.thru0 hb3).cell 7; simp only [e7] at k7
  have k8 := (HK.out.thru0 hb3).cell 8; simp only [e8] at k8
  have k9 := (HK.out.thru0 hb3).cell 9; simp only [e9] at k9
  have k10 := (HK.out.thru0 hb3).cell 10; simp only [e10] at k10
  have k11 := (HK.out.thru0 hb3).cell 11; simp only [e11] at k11
  have f6 := (HK.out.thru0 hb3).frozen 6
  have f7 := (HK.out.thru0 hb3).frozen 7
  have f8 := (HK.out.thru0 hb3).frozen 8
  have f9 := (HK.out.thru0 hb3).frozen 9
  clear hb3
  cases rb
  case false =>
    go_wp2_with fail
    go_ret
    exact ⟨rfl, (below_setc (below_setc (below_setc (below_setc HB3.out (Nat.le_refl _) 6 _) (Nat.le_refl _) 7 _) (Nat.le_refl _) 8 _) (Nat.le_refl _) 9 _)⟩
  case true =>
    go_wp2_with fail
    refine (HZ9.out _).mono ?_
    rintro e w8 ⟨rfl, hb8⟩
    have HB8 := Lib.hid (below_trans (below_setc (below_setc (below_setc (below_setc HB3.out (Nat.le_refl _) 6 _) (Nat.le_refl _) 7 _) (Nat.le_refl _) 8 _) (Nat.le_refl _) 9 _) hb8)
    go_wp2_with fail
    go_ret
    exact ⟨ret_bool (by first | rfl | simp), HB8.out⟩
set_option maxRecDepth 100000 in
set_option maxHeartbeats 8000000 in
theorem rf_Z12 (w : World) (op m : Int) (a : An) (L : List Snt) (M : List Evt) (h : AnR w a L M) (hc : (opB op && mB m) = true) (hs : a.st = 0) (hm0 : 0 ≤ m) (hop : op = 12) (h1 : a.sn = 0) (h3 : a.en = 0) :
    Calls Try.prog 15 #[.int .i64 op, .int .i64 m, .agg a.cs] w fun e w' => e = .returned (.bool ((fitsB a.rx a.ry && withinB a.lab 0 7) && zeroB { a with rx := 0, ry := 0, lab := 0 })) ∧ Below w.heap.size w w' := by
  obtain ⟨W, hW⟩ : ∃ W, W = w.alloc (.cells a.cs TA) := ⟨_, rfl⟩
  have HBW := Lib.hid (show Below w.heap.size w W by rw [hW]; exact (Below.refl _ _).alloc (Nat.le_refl _) _)
  have HK := Lib.hid (show Blk W w.heap.size TA a.cs by rw [hW]; exact Blk.new _ _ _)
  obtain ⟨sn, hsn⟩ : ∃ n, n = a.sn := ⟨_, rfl⟩
  obtain ⟨en, hen⟩ : ∃ n, n = a.en := ⟨_, rfl⟩
  obtain ⟨sA, hsA⟩ : ∃ n, n = a.sA := ⟨_, rfl⟩
  obtain ⟨eA, heA⟩ : ∃ n, n = a.eA := ⟨_, rfl⟩
  have HRS : Hid (ERd elOS w (.slice sA sn a.sc) L) := Lib.hid (by rw [hsA, hsn]; exact h.seen)
  have HRE : Hid (ERd elOE w (.slice eA en a.ec) M) := Lib.hid (by rw [heA, hen]; exact h.evs)
  have HN1 : Hid (sn = L.length) := Lib.hid (hsn.trans h.sl.symm)
  have HN2 : Hid (en = M.length) := Lib.hid (hen.trans h.el.symm)
  have hq1 : sn ≤ 9223372036854775807 := by rw [HN1.out]; exact h.sm
  have hq2 : en ≤ 9223372036854775807 := by rw [HN2.out]; exact h.em
  have e0 : a.cs[0]? = some (.int .i64 a.st) := rfl
  have e1 : a.cs[1]? = some (.int .u64 (a.sec : Int)) := rfl
  have e2 : a.cs[2]? = some (.int .i64 a.rid) := rfl
  have e3 : a.cs[3]? = some (.int .i64 a.rx) := rfl
  have e4 : a.cs[4]? = some (.int .i64 a.ry) := rfl
  have e5 : a.cs[5]? = some (.int .i64 a.lab) := rfl
  have e6 : a.cs[6]? = some (.int .i64 a.b0) := rfl
  have e7 : a.cs[7]? = some (.int .i64 a.b1) := rfl
  have e8 : a.cs[8]? = some (.int .i64 a.b2) := rfl
  have e9 : a.cs[9]? = some (.int .i64 a.b3) := rfl
  have e10 : a.cs[10]? = some (.slice sA sn a.sc) := by rw [hsA, hsn]; rfl
  have e11 : a.cs[11]? = some (.slice eA en a.ec) := by rw [heA, hen]; rfl
  have HT := Lib.hid (fun w => rth20_any op m w)
  have HI := Lib.hid (fun w => rin_any a.st 12 w)
  have hcs : a.cs = #[.int .i64 a.st, .int .u64 (a.sec : Int), .int .i64 a.rid, .int .i64 a.rx, .int .i64 a.ry, .int .i64 a.lab, .int .i64 a.b0, .int .i64 a.b1, .int .i64 a.b2, .int .i64 a.b3, .slice sA sn a.sc, .slice eA en a.ec] := by rw [hsA, hsn, heA, hen]; rfl
  have HZ := Lib.hid (fun w => by have h9 := rzero_any w a; rw [hcs] at h9; exact h9)
  clear hcs
  have hcs9 : ({ a with rx := 0, ry := 0, lab := 0 } : An).cs = #[.int .i64 0, .int .u64 (a.sec : Int), .int .i64 a.rid, .int .i64 0, .int .i64 0, .int .i64 0, .int .i64 a.b0, .int .i64 a.b1, .int .i64 a.b2, .int .i64 a.b3, .slice sA 0 a.sc, .slice eA 0 a.ec] := by rw [hsA, heA]; (simp only [An.cs, hs, h1, h3]; try rfl)
  have HZ9 := Lib.hid (fun w => by have h9 := rzero_any w ({ a with rx := 0, ry := 0, lab := 0 } : An); rw [hcs9] at h9; exact h9)
  clear hcs9
  have hz1 : sn = 0 := by rw [hsn]; exact h1
  have hz2 : en = 0 := by rw [hen]; exact h3
  subst hz1
  subst hz2
  have hWs := hW.symm
  clear h hW hsA heA hsn hen
  subst hop
  have HRT := Lib.hid (fun w => ref_fits a.rx a.ry w)
  have HLB := Lib.hid (fun w => rin_any a.lab 7 w)
  generalize fitsB a.rx a.ry = rb at *
  generalize withinB a.lab 0 7 = lb at *
  have e0' : a.cs[0]? = some (.int .i64 0) := by rw [e0, hs]
  clear e0
  have e0 := e0'
  rw [hs] at HI
  have hsi : withinB 0 0 12 = true := rfl
  rw [hsi] at HI
  clear hsi e0'
  rw [hc] at HT
  clear hc
  go_enter Try.func15, Try.ntmps15
  go_wp2_with fail
  refine (HT.out _).mono ?_
  rintro e w1 ⟨rfl, hw1⟩
  subst hw1
  clear hWs
  have k0 := HK.out.cell 0; simp only [e0] at k0
  have k10 := HK.out.cell 10; simp only [e10] at k10
  have k11 := HK.out.cell 11; simp only [e11] at k11
  go_wp2_with fail
  refine (HI.out _).mono ?_
  rintro e w2 ⟨rfl, hw2⟩
  subst hw2
  go_wp2_with fail
  refine wp_loop_rounds 1 ?_
  rw [rounds_succ]
  go_wp2_with fail
  refine wp_loop_rounds 1 ?_
  rw [rounds_succ]
  have k1 := HK.out.cell 1; simp only [e1] at k1
  have k2 := HK.out.cell 2; simp only [e2] at k2
  have k3 := HK.out.cell 3; simp only [e3] at k3
  have k4 := HK.out.cell 4; simp only [e4] at k4
  have k5 := HK.out.cell 5; simp only [e5] at k5
  have k6 := HK.out.cell 6; simp only [e6] at k6
  have k7 := HK.out.cell 7; simp only [e7] at k7
  have k8 := HK.out.cell 8; simp only [e8] at k8
  have k9 := HK.out.cell 9; simp only [e9] at k9
  go_wp2_with fail
  refine (HRT.out _).mono ?_
  rintro e w3 ⟨rfl, hb3⟩
  have HB3 := Lib.hid (below_trans HBW.out hb3)
  clear k0 k1 k2 k3 k4 k5 k6 k7 k8 k9 k10 k11
  have k0 := (HK.out.thru0 hb3).cell 0; simp only [e0] at k0
  have k1 := (HK.out.thru0 hb3).cell 1; simp only [e1] at k1
  have k2 := (HK.out.thru0 hb3).cell 2; simp only [e2] at k2
  have k3 := (HK.out.thru0 hb3).cell 3; simp only [e3] at k3
  have k4 := (HK.out.thru0 hb3).cell 4; simp only [e4] at k4
  have k5 := (HK.out.thru0 hb3).cell 5; simp only [e5] at k5
  have k6 := (HK.out.thru0 hb3).cell 6; simp only [e6] at k6
  have k7 := (HK.out.thru0 hb3).cell 7; simp only [e7] at k7
  have k8 := (HK.out.thru0 hb3).cell 8; simp only [e8] at k8
  have k9 := (HK.out.thru0 hb3).cell 9; simp only [e9] at k9
  have k10 := (HK.out.thru0 hb3).cell 10; simp only [e10] at k10
  have k11 := (HK.out.thru0 hb3).cell 11; simp only [e11] at k11
  have f2 := (HK.out.thru0 hb3).frozen 2
  have f3 := (HK.out.thru0 hb3).frozen 3
  have f4 := (HK.out.thru0 hb3).frozen 4
  have f5 := (HK.out.thru0 hb3).frozen 5
  clear hb3
  cases rb
  case false =>
    go_wp2_with fail
    go_ret
    exact ⟨rfl, (below_setc (below_setc (below_setc (below_setc HB3.out (Nat.le_refl _) 2 _) (Nat.le_refl _) 3 _) (Nat.le_refl _) 4 _) (Nat.le_refl _) 5 _)⟩
  case true =>
    go_wp2_with fail
    refine (HLB.out _).mono ?_
    rintro e w4 ⟨rfl, hw4⟩
    subst hw4
    cases lb
    case false =>
      go_wp2_with fail
      go_ret
      exact ⟨rfl, (below_setc (below_setc (below_setc (below_setc HB3.out (Nat.le_refl _) 2 _) (Nat.le_refl _) 3 _) (Nat.le_refl _) 4 _) (Nat.le_refl _) 5 _)⟩
    case true =>
      go_wp2_with fail
      refine (HZ9.out _).mono ?_
      rintro e w8 ⟨rfl, hb8⟩
      have HB8 := Lib.hid (below_trans (below_setc (below_setc (below_setc (below_setc HB3.out (Nat.le_refl _) 2 _) (Nat.le_refl _) 3 _) (Nat.le_refl _) 4 _) (Nat.le_refl _) 5 _) hb8)
      go_wp2_with fail
      go_ret
      exact ⟨ret_bool (by first | rfl | simp), HB8.out⟩
set_option maxRecDepth 100000 in
set_option maxHeartbeats 8000000 in
theorem rf_S (w : World) (op m : Int) (a : An) (L : List Snt) (M : List Evt) (h : AnR w a L M) (hc : (opB op && mB m) = true) (hs : a.st = 0) (hm0 : 0 ≤ m) (h4 : op ≠ 4) (h5 : op ≠ 5) (h12 : op ≠ 12) (h10 : op ≠ 10) (kk : Nat) (hk : op = (kk : Int)) (hk1 : 1 ≤ kk) (hk2 : kk ≤ 19) (h1 : 0 < a.sn) (h2 : eachN kk = 11) (h3 : a.en = 0) (h6 : (a.sn : Int) ≤ m) :
    Calls Try.prog 15 #[.int .i64 op, .int .i64 m, .agg a.cs] w fun e w' => e = .returned (.bool (L.all snB && zeroB a)) ∧ Below w.heap.size w w' := by
  obtain ⟨W, hW⟩ : ∃ W, W = w.alloc (.cells a.cs TA) := ⟨_, rfl⟩
  have HBW := Lib.hid (show Below w.heap.size w W by rw [hW]; exact (Below.refl _ _).alloc (Nat.le_refl _) _)
  have HK := Lib.hid (show Blk W w.heap.size TA a.cs by rw [hW]; exact Blk.new _ _ _)
  obtain ⟨sn, hsn⟩ : ∃ n, n = a.sn := ⟨_, rfl⟩
  obtain ⟨en, hen⟩ : ∃ n, n = a.en := ⟨_, rfl⟩
  obtain ⟨sA, hsA⟩ : ∃ n, n = a.sA := ⟨_, rfl⟩
  obtain ⟨eA, heA⟩ : ∃ n, n = a.eA := ⟨_, rfl⟩
  have HRS : Hid (ERd elOS w (.slice sA sn a.sc) L) := Lib.hid (by rw [hsA, hsn]; exact h.seen)
  have HRE : Hid (ERd elOE w (.slice eA en a.ec) M) := Lib.hid (by rw [heA, hen]; exact h.evs)
  have HN1 : Hid (sn = L.length) := Lib.hid (hsn.trans h.sl.symm)
  have HN2 : Hid (en = M.length) := Lib.hid (hen.trans h.el.symm)
  have hq1 : sn ≤ 9223372036854775807 := by rw [HN1.out]; exact h.sm
  have hq2 : en ≤ 9223372036854775807 := by rw [HN2.out]; exact h.em
  have e0 : a.cs[0]? = some (.int .i64 a.st) := rfl
  have e1 : a.cs[1]? = some (.int .u64 (a.sec : Int)) := rfl
  have e2 : a.cs[2]? = some (.int .i64 a.rid) := rfl
  have e3 : a.cs[3]? = some (.int .i64 a.rx) := rfl
  have e4 : a.cs[4]? = some (.int .i64 a.ry) := rfl
  have e5 : a.cs[5]? = some (.int .i64 a.lab) := rfl
  have e6 : a.cs[6]? = some (.int .i64 a.b0) := rfl
  have e7 : a.cs[7]? = some (.int .i64 a.b1) := rfl
  have e8 : a.cs[8]? = some (.int .i64 a.b2) := rfl
  have e9 : a.cs[9]? = some (.int .i64 a.b3) := rfl
  have e10 : a.cs[10]? = some (.slice sA sn a.sc) := by rw [hsA, hsn]; rfl
  have e11 : a.cs[11]? = some (.slice eA en a.ec) := by rw [heA, hen]; rfl
  have HT := Lib.hid (fun w => rth20_any op m w)
  have HI := Lib.hid (fun w => rin_any a.st 12 w)
  have hcs : a.cs = #[.int .i64 a.st, .int .u64 (a.sec : Int), .int .i64 a.rid, .int .i64 a.rx, .int .i64 a.ry, .int .i64 a.lab, .int .i64 a.b0, .int .i64 a.b1, .int .i64 a.b2, .int .i64 a.b3, .slice sA sn a.sc, .slice eA en a.ec] := by rw [hsA, hsn, heA, hen]; rfl
  have HZ := Lib.hid (fun w => by have h9 := rzero_any w a; rw [hcs] at h9; exact h9)
  clear hcs
  have hcs9 : a.cs = #[.int .i64 0, .int .u64 (a.sec : Int), .int .i64 a.rid, .int .i64 a.rx, .int .i64 a.ry, .int .i64 a.lab, .int .i64 a.b0, .int .i64 a.b1, .int .i64 a.b2, .int .i64 a.b3, .slice sA sn a.sc, .slice eA 0 a.ec] := by rw [hsA, heA, hsn]; (simp only [An.cs, hs, h3]; try rfl)
  have HZ9 := Lib.hid (fun w => by have h9 := rzero_any w a; rw [hcs9] at h9; exact h9)
  clear hcs9
  rw [← hsn] at h1 h6
  have hz2 : en = 0 := by rw [hen]; exact h3
  subst hz2
  have hWs := hW.symm
  clear h hW hsA heA hsn hen
  have h1' : (0 : Int) < (sn : Int) := by omega
  have b4 : (op == 4) = false := beq_eq_false_iff_ne.2 h4
  have b5 : (op == 5) = false := beq_eq_false_iff_ne.2 h5
  have b10 : (op == 10) = false := beq_eq_false_iff_ne.2 h10
  have b12 : (op == 12) = false := beq_eq_false_iff_ne.2 h12
  have HEA := Lib.hid (fun w => reach_any kk hk1 hk2 w)
  rw [h2] at HEA
  rw [← hk] at HEA
  have HIN := Lib.hid (fun n b w => rin_any n b w)
  have HRI := Lib.hid (fun a b c d w => ref_right a b c d w)
  obtain ⟨zb, hzb⟩ : ∃ b, zeroB a = b := ⟨_, rfl⟩
  simp only [hzb] at HZ9
  rw [hzb]
  clear hzb hk HZ
  have e0' : a.cs[0]? = some (.int .i64 0) := by rw [e0, hs]
  clear e0
  have e0 := e0'
  rw [hs] at HI
  have hsi : withinB 0 0 12 = true := rfl
  rw [hsi] at HI
  clear hsi e0'
  rw [hc] at HT
  clear hc
  go_enter Try.func15, Try.ntmps15
  go_wp2_with fail
  refine (HT.out _).mono ?_
  rintro e w1 ⟨rfl, hw1⟩
  subst hw1
  clear hWs
  have k0 := HK.out.cell 0; simp only [e0] at k0
  have k10 := HK.out.cell 10; simp only [e10] at k10
  have k11 := HK.out.cell 11; simp only [e11] at k11
  go_wp2_with fail
  refine (HI.out _).mono ?_
  rintro e w2 ⟨rfl, hw2⟩
  subst hw2
  go_wp2_with fail
  refine (HEA.out _).mono ?_
  rintro e w3 ⟨rfl, hb3⟩
  have HB3 := Lib.hid (below_trans HBW.out hb3)
  have HK3 := Lib.hid (HK.out.thru0 hb3)
  clear k10 k11
  have k10 := HK3.out.cell 10; simp only [e10] at k10
  have k11 := HK3.out.cell 11; simp only [e11] at k11
  clear hb3
  go_wp2_with fail
  clear k10 k11
  go_loopw [7] (fun i wr => ∃ j : Nat, j ≤ sn ∧ i = .int .i64 j ∧ Hid (Below w3.heap.size w3 wr) ∧ Hid ((L.take j).all snB = true)) (fun i _ => sn - (intOf i).toNat)
  case atStart => exact ⟨0, Nat.zero_le _, rfl, Below.refl _ _, by simp [Hid]⟩
  case round =>
    rename World => wr
    obtain ⟨j, hj, rfl, HW, HALL⟩ := hrel
    have HBr := Lib.hid (below_trans HB3.out HW.out)
    have k10 := (HK3.out.thru0 HW.out).cell 10; simp only [e10] at k10
    by_cases hlt : j < sn
    · have hjl : j < L.length := by rw [← HN1.out]; exact hlt
      have hx : L[j]? = some L[j] := List.getElem?_eq_getElem hjl
      have HT2 := Lib.hid (show (L.take (j + 1)).all snB = ((L.take j).all snB && snB L[j]) by rw [List.take_succ_eq_append_getElem hjl, List.all_append]; simp)
      have HF := Lib.hid (show snB L[j] = false → L.all snB = false from fun h9 => by
        rw [List.all_eq_false]; exact ⟨L[j], List.getElem_mem hjl, by rw [h9]; exact Bool.false_ne_true⟩)
      obtain ⟨g, o, hg, a0, a1, a2, a3, a4, a5⟩ := elOS_at (HRS.out.below HBr.out) hx
      subst hg
      have hlt2 : (j : Int) < sn := by omega
      generalize L[j] = x at *
      clear hx
      have HX : Hid (snB x = (withinB x.id 0 65535 && (withinB x.lev 0 16 && rightB x.b0 x.b1 x.b2 x.b3))) := Lib.hid (by unfold snB; rfl)
      have HI1 := Lib.hid (fun w => HIN.out x.id 65535 w)
      have HI2 := Lib.hid (fun w => HIN.out x.lev 16 w)
      have HI3 := Lib.hid (fun w => HRI.out x.b0 x.b1 x.b2 x.b3 w)
      generalize withinB x.id 0 65535 = c1 at *
      generalize withinB x.lev 0 16 = c2 at *
      generalize rightB x.b0 x.b1 x.b2 x.b3 = c3 at *
      cases c1
      case false =>
        have HZF := Lib.hid (HF.out (by rw [HX.out]; rfl))
        go_wp2_with fail
        refine (HI1.out _).mono ?_
        rintro e w4 ⟨rfl, hw4⟩
        subst hw4
        go_wp2_with fail
        go_ret
        exact ⟨by rw [HZF.out]; rfl, HBr.out⟩
      case true =>
      cases c2
      case false =>
        have HZF := Lib.hid (HF.out (by rw [HX.out]; rfl))
        go_wp2_with fail
        refine (HI1.out _).mono ?_
        rintro e w4 ⟨rfl, hw4⟩
        subst hw4
        go_wp2_with fail
        refine (HI2.out _).mono ?_
        rintro e w5 ⟨rfl, hw5⟩
        subst hw5
        go_wp2_with fail
        go_ret
        exact ⟨by rw [HZF.out]; rfl, HBr.out⟩
      case true =>
      cases c3
      case false =>
        have HZF := Lib.hid (HF.out (by rw [HX.out]; rfl))
        go_wp2_with fail
        refine (HI1.out _).mono ?_
        rintro e w4 ⟨rfl, hw4⟩
        subst hw4
        go_wp2_with fail
        refine (HI2.out _).mono ?_
        rintro e w5 ⟨rfl, hw5⟩
        subst hw5
        go_wp2_with fail
        refine (HI3.out _).mono ?_
        rintro e w6 ⟨rfl, hb6⟩
        have HB6 := Lib.hid (below_trans HBr.out hb6)
        clear hb6
        go_wp2_with fail
        go_ret
        exact ⟨by rw [HZF.out]; rfl, HB6.out⟩
      case true =>
        have HZT := Lib.hid (show (L.take (j + 1)).all snB = true by rw [HT2.out, HALL.out, HX.out]; rfl)
        go_wp2_with fail
        refine (HI1.out _).mono ?_
        rintro e w4 ⟨rfl, hw4⟩
        subst hw4
        go_wp2_with fail
        refine (HI2.out _).mono ?_
        rintro e w5 ⟨rfl, hw5⟩
        subst hw5
        go_wp2_with fail
        refine (HI3.out _).mono ?_
        rintro e w6 ⟨rfl, hb6⟩
        have HW6 := Lib.hid (below_trans HW.out hb6)
        clear hb6
        go_wp2_with fail
        go_roundw
        case rel => exact ⟨j + 1, by omega, by go_num, HW6, HZT⟩
        case measure => simp [intOf]; omega
    · obtain rfl : j = sn := by omega
      have HZT := Lib.hid (show L.all snB = true by have h9 := HALL.out; rw [List.take_of_length_le (by rw [← HN1.out]; omega)] at h9; exact h9)
      have k0 := (HK3.out.thru0 HW.out).cell 0; simp only [e0] at k0
      have k1 := (HK3.out.thru0 HW.out).cell 1; simp only [e1] at k1
      have k2 := (HK3.out.thru0 HW.out).cell 2; simp only [e2] at k2
      have k3 := (HK3.out.thru0 HW.out).cell 3; simp only [e3] at k3
      have k4 := (HK3.out.thru0 HW.out).cell 4; simp only [e4] at k4
      have k5 := (HK3.out.thru0 HW.out).cell 5; simp only [e5] at k5
      have k6 := (HK3.out.thru0 HW.out).cell 6; simp only [e6] at k6
      have k7 := (HK3.out.thru0 HW.out).cell 7; simp only [e7] at k7
      have k8 := (HK3.out.thru0 HW.out).cell 8; simp only [e8] at k8
      have k9 := (HK3.out.thru0 HW.out).cell 9; simp only [e9] at k9
      have k11 := (HK3.out.thru0 HW.out).cell 11; simp only [e11] at k11
      go_wp2_with fail
      refine wp_loop_rounds 1 ?_
      rw [rounds_succ]
      go_wp2_with fail
      refine (HZ9.out _).mono ?_
      rintro e w8 ⟨rfl, hb8⟩
      have HB8 := Lib.hid (below_trans HBr.out hb8)
      clear hb8
      go_wp2_with fail
      go_ret
      exact ⟨ret_bool (by rw [HZT.out]; rfl), HB8.out⟩
set_option maxRecDepth 100000 in
set_option maxHeartbeats 8000000 in
theorem rf_V (w : World) (op m : Int) (a : An) (L : List Snt) (M : List Evt) (h : AnR w a L M) (hc : (opB op && mB m) = true) (hs : a.st = 0) (hm0 : 0 ≤ m) (h4 : op ≠ 4) (h5 : op ≠ 5) (h12 : op ≠ 12) (h10 : op ≠ 10) (kk : Nat) (hk : op = (kk : Int)) (hk1 : 1 ≤ kk) (hk2 : kk ≤ 19) (h1 : a.sn = 0) (h2 : eachN kk = 8) (h3 : 0 < a.en) (h6 : (a.en : Int) ≤ m) :
    Calls Try.prog 15 #[.int .i64 op, .int .i64 m, .agg a.cs] w fun e w' => e = .returned (.bool (M.all evB && zeroB a)) ∧ Below w.heap.size w w' := by
  obtain ⟨W, hW⟩ : ∃ W, W = w.alloc (.cells a.cs TA) := ⟨_, rfl⟩
  have HBW := Lib.hid (show Below w.heap.size w W by rw [hW]; exact (Below.refl _ _).alloc (Nat.le_refl _) _)
  have HK := Lib.hid (show Blk W w.heap.size TA a.cs by rw [hW]; exact Blk.new _ _ _)
  obtain ⟨sn, hsn⟩ : ∃ n, n = a.sn := ⟨_, rfl⟩
  obtain ⟨en, hen⟩ : ∃ n, n = a.en := ⟨_, rfl⟩
  obtain ⟨sA, hsA⟩ : ∃ n, n = a.sA := ⟨_, rfl⟩
  obtain ⟨eA, heA⟩ : ∃ n, n = a.eA := ⟨_, rfl⟩
  have HRS : Hid (ERd elOS w (.slice sA sn a.sc) L) := Lib.hid (by rw [hsA, hsn]; exact h.seen)
  have HRE : Hid (ERd elOE w (.slice eA en a.ec) M) := Lib.hid (by rw [heA, hen]; exact h.evs)
  have HN1 : Hid (sn = L.length) := Lib.hid (hsn.trans h.sl.symm)
  have HN2 : Hid (en = M.length) := Lib.hid (hen.trans h.el.symm)
  have hq1 : sn ≤ 9223372036854775807 := by rw [HN1.out]; exact h.sm
  have hq2 : en ≤ 9223372036854775807 := by rw [HN2.out]; exact h.em
  have e0 : a.cs[0]? = some (.int .i64 a.st) := rfl
  have e1 : a.cs[1]? = some (.int .u64 (a.sec : Int)) := rfl
  have e2 : a.cs[2]? = some (.int .i64 a.rid) := rfl
  have e3 : a.cs[3]? = some (.int .i64 a.rx) := rfl
  have e4 : a.cs[4]? = some (.int .i64 a.ry) := rfl
  have e5 : a.cs[5]? = some (.int .i64 a.lab) := rfl
  have e6 : a.cs[6]? = some (.int .i64 a.b0) := rfl
  have e7 : a.cs[7]? = some (.int .i64 a.b1) := rfl
  have e8 : a.cs[8]? = some (.int .i64 a.b2) := rfl
  have e9 : a.cs[9]? = some (.int .i64 a.b3) := rfl
  have e10 : a.cs[10]? = some (.slice sA sn a.sc) := by rw [hsA, hsn]; rfl
  have e11 : a.cs[11]? = some (.slice eA en a.ec) := by rw [heA, hen]; rfl
  have HT := Lib.hid (fun w => rth20_any op m w)
  have HI := Lib.hid (fun w => rin_any a.st 12 w)
  have hcs : a.cs = #[.int .i64 a.st, .int .u64 (a.sec : Int), .int .i64 a.rid, .int .i64 a.rx, .int .i64 a.ry, .int .i64 a.lab, .int .i64 a.b0, .int .i64 a.b1, .int .i64 a.b2, .int .i64 a.b3, .slice sA sn a.sc, .slice eA en a.ec] := by rw [hsA, hsn, heA, hen]; rfl
  have HZ := Lib.hid (fun w => by have h9 := rzero_any w a; rw [hcs] at h9; exact h9)
  clear hcs
  have hcs9 : a.cs = #[.int .i64 0, .int .u64 (a.sec : Int), .int .i64 a.rid, .int .i64 a.rx, .int .i64 a.ry, .int .i64 a.lab, .int .i64 a.b0, .int .i64 a.b1, .int .i64 a.b2, .int .i64 a.b3, .slice sA 0 a.sc, .slice eA en a.ec] := by rw [hsA, heA, hen]; (simp only [An.cs, hs, h1]; try rfl)
  have HZ9 := Lib.hid (fun w => by have h9 := rzero_any w a; rw [hcs9] at h9; exact h9)
  clear hcs9
  rw [← hen] at h3 h6
  have hz2 : sn = 0 := by rw [hsn]; exact h1
  subst hz2
  have hWs := hW.symm
  clear h hW hsA heA hsn hen
  have h3' : (0 : Int) < (en : Int) := by omega
  have b4 : (op == 4) = false := beq_eq_false_iff_ne.2 h4
  have b5 : (op == 5) = false := beq_eq_false_iff_ne.2 h5
  have b10 : (op == 10) = false := beq_eq_false_iff_ne.2 h10
  have b12 : (op == 12) = false := beq_eq_false_iff_ne.2 h12
  have HEA := Lib.hid (fun w => reach_any kk hk1 hk2 w)
  rw [h2] at HEA
  rw [← hk] at HEA
  have HIN := Lib.hid (fun n b w => rin_any n b w)
  obtain ⟨zb, hzb⟩ : ∃ b, zeroB a = b := ⟨_, rfl⟩
  simp only [hzb] at HZ9
  rw [hzb]
  clear hzb hk HZ
  have e0' : a.cs[0]? = some (.int .i64 0) := by rw [e0, hs]
  clear e0
  have e0 := e0'
  rw [hs] at HI
  have hsi : withinB 0 0 12 = true := rfl
  rw [hsi] at HI
  clear hsi e0'
  rw [hc] at HT
  clear hc
  go_enter Try.func15, Try.ntmps15
  go_wp2_with fail
  refine (HT.out _).mono ?_
  rintro e w1 ⟨rfl, hw1⟩
  subst hw1
  clear hWs
  have k0 := HK.out.cell 0; simp only [e0] at k0
  have k10 := HK.out.cell 10; simp only [e10] at k10
  have k11 := HK.out.cell 11; simp only [e11] at k11
  go_wp2_with fail
  refine (HI.out _).mono ?_
  rintro e w2 ⟨rfl, hw2⟩
  subst hw2
  go_wp2_with fail
  refine (HEA.out _).mono ?_
  rintro e w3 ⟨rfl, hb3⟩
  have HB3 := Lib.hid (below_trans HBW.out hb3)
  have HK3 := Lib.hid (HK.out.thru0 hb3)
  clear k10 k11
  have k10 := HK3.out.cell 10; simp only [e10] at k10
  have k11 := HK3.out.cell 11; simp only [e11] at k11
  clear hb3
  go_wp2_with fail
  refine wp_loop_rounds 1 ?_
  rw [rounds_succ]
  go_wp2_with fail
  clear k10 k11
  go_loopw [8] (fun i wr => ∃ j : Nat, j ≤ en ∧ i = .int .i64 j ∧ Hid (Below w3.heap.size w3 wr) ∧ Hid ((M.take j).all evB = true)) (fun i _ => en - (intOf i).toNat)
  case atStart => exact ⟨0, Nat.zero_le _, rfl, Below.refl _ _, by simp [Hid]⟩
  case round =>
    rename World => wr
    obtain ⟨j, hj, rfl, HW, HALL⟩ := hrel
    have HBr := Lib.hid (below_trans HB3.out HW.out)
    have k11 := (HK3.out.thru0 HW.out).cell 11; simp only [e11] at k11
    by_cases hlt : j < en
    · have hjl : j < M.length := by rw [← HN2.out]; exact hlt
      have hx : M[j]? = some M[j] := List.getElem?_eq_getElem hjl
      have HT2 := Lib.hid (show (M.take (j + 1)).all evB = ((M.take j).all evB && evB M[j]) by rw [List.take_succ_eq_append_getElem hjl, List.all_append]; simp)
      have HF := Lib.hid (show evB M[j] = false → M.all evB = false from fun h9 => by
        rw [List.all_eq_false]; exact ⟨M[j], List.getElem_mem hjl, by rw [h9]; exact Bool.false_ne_true⟩)
      obtain ⟨g, o, hg, a0, a1, a2, a3⟩ := elOE_at (HRE.out.below HBr.out) hx
      subst hg
      have hlt2 : (j : Int) < en := by omega
      generalize M[j] = x at *
      clear hx
      have HX : Hid (evB x = (withinB x.usr 0 65535 && (withinB x.op 0 255 && (withinB x.st 0 255 && withinB x.tick 0 4294967295)))) := Lib.hid (by unfold evB; rfl)
      have HI1 := Lib.hid (fun w => HIN.out x.usr 65535 w)
      have HI2 := Lib.hid (fun w => HIN.out x.op 255 w)
      have HI3 := Lib.hid (fun w => HIN.out x.st 255 w)
      have HI4 := Lib.hid (fun w => HIN.out x.tick 4294967295 w)
      have HBA := Lib.hid (fun cs t => (Below.refl wr.heap.size wr).alloc (Nat.le_refl _) (.cells cs t))
      generalize withinB x.usr 0 65535 = c1 at *
      generalize withinB x.op 0 255 = c2 at *
      generalize withinB x.st 0 255 = c3 at *
      generalize withinB x.tick 0 4294967295 = c4 at *
      cases c1
      case false =>
        have HZF := Lib.hid (HF.out (by rw [HX.out]; rfl))
        go_wp2_with fail
        refine (HI1.out _).mono ?_
        rintro e w4 ⟨rfl, hw4⟩
        subst hw4
        go_wp2_with fail
        go_ret
        exact ⟨by rw [HZF.out]; rfl, below_trans HBr.out (HBA.out _ _)⟩
      case true =>
      cases c2
      case false =>
        have HZF := Lib.hid (HF.out (by rw [HX.out]; rfl))
        go_wp2_with fail
        refine (HI1.out _).mono ?_
        rintro e w4 ⟨rfl, hw4⟩
        subst hw4
        go_wp2_with fail
        refine (HI2.out _).mono ?_
        rintro e w5 ⟨rfl, hw5⟩
        subst hw5
        go_wp2_with fail
        go_ret
        exact ⟨by rw [HZF.out]; rfl, below_trans HBr.out (HBA.out _ _)⟩
      case true =>
      cases c3
      case false =>
        have HZF := Lib.hid (HF.out (by rw [HX.out]; rfl))
        go_wp2_with fail
        refine (HI1.out _).mono ?_
        rintro e w4 ⟨rfl, hw4⟩
        subst hw4
        go_wp2_with fail
        refine (HI2.out _).mono ?_
        rintro e w5 ⟨rfl, hw5⟩
        subst hw5
        go_wp2_with fail
        refine (HI3.out _).mono ?_
        rintro e w6 ⟨rfl, hw6⟩
        subst hw6
        go_wp2_with fail
        go_ret
        exact ⟨by rw [HZF.out]; rfl, below_trans HBr.out (HBA.out _ _)⟩
      case true =>
      cases c4
      case false =>
        have HZF := Lib.hid (HF.out (by rw [HX.out]; rfl))
        go_wp2_with fail
        refine (HI1.out _).mono ?_
        rintro e w4 ⟨rfl, hw4⟩
        subst hw4
        go_wp2_with fail
        refine (HI2.out _).mono ?_
        rintro e w5 ⟨rfl, hw5⟩
        subst hw5
        go_wp2_with fail
        refine (HI3.out _).mono ?_
        rintro e w6 ⟨rfl, hw6⟩
        subst hw6
        go_wp2_with fail
        refine (HI4.out _).mono ?_
        rintro e w7 ⟨rfl, hw7⟩
        subst hw7
        go_wp2_with fail
        go_ret
        exact ⟨by rw [HZF.out]; rfl, below_trans HBr.out (HBA.out _ _)⟩
      case true =>
        have HZT := Lib.hid (show (M.take (j + 1)).all evB = true by rw [HT2.out, HALL.out, HX.out]; rfl)
        go_wp2_with fail
        refine (HI1.out _).mono ?_
        rintro e w4 ⟨rfl, hw4⟩
        subst hw4
        go_wp2_with fail
        refine (HI2.out _).mono ?_
        rintro e w5 ⟨rfl, hw5⟩
        subst hw5
        go_wp2_with fail
        refine (HI3.out _).mono ?_
        rintro e w6 ⟨rfl, hw6⟩
        subst hw6
        go_wp2_with fail
        refine (HI4.out _).mono ?_
        rintro e w7 ⟨rfl, hw7⟩
        subst hw7
        go_wp2_with fail
        go_roundw
        case rel => exact ⟨j + 1, by omega, by go_num, Lib.hid (below_trans HW.out (HBA.out _ _)), HZT⟩
        case measure => simp [intOf]; omega
    · obtain rfl : j = en := by omega
      have HZT := Lib.hid (show M.all evB = true by have h9 := HALL.out; rw [List.take_of_length_le (by rw [← HN2.out]; omega)] at h9; exact h9)
      have k0 := (HK3.out.thru0 HW.out).cell 0; simp only [e0] at k0
      have k1 := (HK3.out.thru0 HW.out).cell 1; simp only [e1] at k1
      have k2 := (HK3.out.thru0 HW.out).cell 2; simp only [e2] at k2
      have k3 := (HK3.out.thru0 HW.out).cell 3; simp only [e3] at k3
      have k4 := (HK3.out.thru0 HW.out).cell 4; simp only [e4] at k4
      have k5 := (HK3.out.thru0 HW.out).cell 5; simp only [e5] at k5
      have k6 := (HK3.out.thru0 HW.out).cell 6; simp only [e6] at k6
      have k7 := (HK3.out.thru0 HW.out).cell 7; simp only [e7] at k7
      have k8 := (HK3.out.thru0 HW.out).cell 8; simp only [e8] at k8
      have k9 := (HK3.out.thru0 HW.out).cell 9; simp only [e9] at k9
      have k10 := (HK3.out.thru0 HW.out).cell 10; simp only [e10] at k10
      go_wp2_with fail
      refine (HZ9.out _).mono ?_
      rintro e w8 ⟨rfl, hb8⟩
      have HB8 := Lib.hid (below_trans HBr.out hb8)
      clear hb8
      go_wp2_with fail
      go_ret
      exact ⟨ret_bool (by rw [HZT.out]; rfl), HB8.out⟩
end Go.Proofs.Ytmapcdmegkfheaa
