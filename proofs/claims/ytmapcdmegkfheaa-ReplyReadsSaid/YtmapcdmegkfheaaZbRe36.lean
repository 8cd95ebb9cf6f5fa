/- reply: what Decode refuses at once, by contract. -/
import Derived.Test.YtmapcdmegkfheaaZbRe32
import Derived.Test.YtmapcdmegkfheaaZbRe30
namespace Go.Proofs.Ytmapcdmegkfheaa
set_option linter.unusedVariables false
set_option linter.unusedSimpArgs false
open Go.RowKit
def anZ : An := ⟨0, 0, 0, 0, 0, 0, 0, 0, 0, 0, none, 0, 0, none, 0, 0⟩
theorem anZ_r (w : World) : AnR w anZ [] [] := ⟨ERd.of_own elOS_ok (EOwn.nil_ w), ERd.of_own elOE_ok (EOwn.nil_ w), rfl, rfl, by simp, by simp⟩
theorem rsame_zero (w : World) : Calls Try.prog 19 #[.agg #[.int .i64 0, .int .u64 0, .int .i64 0, .int .i64 0, .int .i64 0, .int .i64 0, .int .i64 0, .int .i64 0, .int .i64 0, .int .i64 0, .slice none 0 0, .slice none 0 0], .agg #[.int .i64 0, .int .u64 0, .int .i64 0, .int .i64 0, .int .i64 0, .int .i64 0, .int .i64 0, .int .i64 0, .int .i64 0, .int .i64 0, .slice none 0 0, .slice none 0 0]] w fun e w' => e = .returned (.bool true) ∧ Below w.heap.size w w' :=
  rsame_ans w anZ [] [] none 0 none 0 (anZ_r w) (anZ_r w).seen (anZ_r w).evs
set_option maxRecDepth 100000 in
set_option maxHeartbeats 4000000 in
theorem decode_op (w : World) (op m : Int) (A : Option Addr) (n c : Nat) (hop : opB op = false) :
    Calls Try.prog 18 #[.int .i64 op, .int .i64 m, .slice A n c] w fun e w' => Below w.heap.size w w' ∧ e = .returned (.tuple #[.agg #[.int .i64 0, .int .u64 0, .int .i64 0, .int .i64 0, .int .i64 0, .int .i64 0, .int .i64 0, .int .i64 0, .int .i64 0, .int .i64 0, .slice none 0 0, .slice none 0 0], .int .i64 51]) := by
  obtain ⟨W, hW⟩ : ∃ W, W = w.alloc (.cells #[.int .i64 0, .int .u64 0, .int .i64 0, .int .i64 0, .int .i64 0, .int .i64 0, .int .i64 0, .int .i64 0, .int .i64 0, .int .i64 0, .slice none 0 0, .slice none 0 0] TA) := ⟨_, rfl⟩
  have hb0 : Below w.heap.size w W := by rw [hW]; exact (Below.refl _ _).alloc (Nat.le_refl _) _
  have HB0 := Lib.hid hb0
  have HK := Lib.hid (show Blk W w.heap.size TA #[.int .i64 0, .int .u64 0, .int .i64 0, .int .i64 0, .int .i64 0, .int .i64 0, .int .i64 0, .int .i64 0, .int .i64 0, .int .i64 0, .slice none 0 0, .slice none 0 0] by rw [hW]; exact Blk.new _ _ _)
  have HT := Lib.hid (fun w => rthere_any op w)
  have HBO := Lib.hid (fun w => bound_any m w)
  have HLN := Lib.hid (fun w => length_any op m w)
  rw [hop] at HT
  clear hop
  have hWs := hW.symm
  clear hW hb0
  go_enter Try.func18, Try.ntmps18
  go_wp2_with fail
  refine (HT.out _).mono ?_
  rintro e w0 ⟨rfl, hw0⟩
  subst hw0
  clear hWs
  have s0 := HK.out.cell 0
  have s1 := HK.out.cell 1
  have s2 := HK.out.cell 2
  have s3 := HK.out.cell 3
  have s4 := HK.out.cell 4
  have s5 := HK.out.cell 5
  have s6 := HK.out.cell 6
  have s7 := HK.out.cell 7
  have s8 := HK.out.cell 8
  have s9 := HK.out.cell 9
  have s10 := HK.out.cell 10
  have s11 := HK.out.cell 11
  simp only [List.getElem?_toArray, List.getElem?_cons_zero, List.getElem?_cons_succ] at s0 s1 s2 s3 s4 s5 s6 s7 s8 s9 s10 s11
  have f0 := HK.out.frozen 0
  have f1 := HK.out.frozen 1
  have f2 := HK.out.frozen 2
  have f3 := HK.out.frozen 3
  have f4 := HK.out.frozen 4
  have f5 := HK.out.frozen 5
  have f6 := HK.out.frozen 6
  have f7 := HK.out.frozen 7
  have f8 := HK.out.frozen 8
  have f9 := HK.out.frozen 9
  have f10 := HK.out.frozen 10
  have f11 := HK.out.frozen 11
  go_wp2_with fail
  (try simp only [Exit.inBlock, Exit.then])
  refine bodyPost_ret (results_row_tmp rfl _ _ _ _ _ _ rfl (blk12 HK.out _ _ _ _ _ _ _ _ _ _ _ _) (by rfl)) rfl ?_
  have HNF := Lib.hid (fun y0 y1 y2 y3 y4 y5 y6 y7 y8 y9 y10 y11 => nf12 (S := [w.heap.size]) (w := W) (g := w.heap.size) (by simp) y0 y1 y2 y3 y4 y5 y6 y7 y8 y9 y10 y11)
  exact ⟨(HNF.out _ _ _ _ _ _ _ _ _ _ _ _).below HB0.out (by simp), rfl⟩
set_option maxRecDepth 100000 in
set_option maxHeartbeats 4000000 in
theorem decode_m (w : World) (op m : Int) (A : Option Addr) (n c : Nat) (hop : opB op = true) (hm : mB m = false) :
    Calls Try.prog 18 #[.int .i64 op, .int .i64 m, .slice A n c] w fun e w' => Below w.heap.size w w' ∧ e = .returned (.tuple #[.agg #[.int .i64 0, .int .u64 0, .int .i64 0, .int .i64 0, .int .i64 0, .int .i64 0, .int .i64 0, .int .i64 0, .int .i64 0, .int .i64 0, .slice none 0 0, .slice none 0 0], .int .i64 1]) := by
  obtain ⟨W, hW⟩ : ∃ W, W = w.alloc (.cells #[.int .i64 0, .int .u64 0, .int .i64 0, .int .i64 0, .int .i64 0, .int .i64 0, .int .i64 0, .int .i64 0, .int .i64 0, .int .i64 0, .slice none 0 0, .slice none 0 0] TA) := ⟨_, rfl⟩
  have hb0 : Below w.heap.size w W := by rw [hW]; exact (Below.refl _ _).alloc (Nat.le_refl _) _
  have HB0 := Lib.hid hb0
  have HK := Lib.hid (show Blk W w.heap.size TA #[.int .i64 0, .int .u64 0, .int .i64 0, .int .i64 0, .int .i64 0, .int .i64 0, .int .i64 0, .int .i64 0, .int .i64 0, .int .i64 0, .slice none 0 0, .slice none 0 0] by rw [hW]; exact Blk.new _ _ _)
  have HT := Lib.hid (fun w => rthere_any op w)
  have HBO := Lib.hid (fun w => bound_any m w)
  have HLN := Lib.hid (fun w => length_any op m w)
  rw [hop] at HT
  rw [hm] at HBO
  clear hop hm
  have hWs := hW.symm
  clear hW hb0
  go_enter Try.func18, Try.ntmps18
  go_wp2_with fail
  refine (HT.out _).mono ?_
  rintro e w0 ⟨rfl, hw0⟩
  subst hw0
  go_wp2_with fail
  refine (HBO.out _).mono ?_
  rintro e w0 ⟨rfl, hw0⟩
  subst hw0
  clear hWs
  have s0 := HK.out.cell 0
  have s1 := HK.out.cell 1
  have s2 := HK.out.cell 2
  have s3 := HK.out.cell 3
  have s4 := HK.out.cell 4
  have s5 := HK.out.cell 5
  have s6 := HK.out.cell 6
  have s7 := HK.out.cell 7
  have s8 := HK.out.cell 8
  have s9 := HK.out.cell 9
  have s10 := HK.out.cell 10
  have s11 := HK.out.cell 11
  simp only [List.getElem?_toArray, List.getElem?_cons_zero, List.getElem?_cons_succ] at s0 s1 s2 s3 s4 s5 s6 s7 s8 s9 s10 s11
  have f0 := HK.out.frozen 0
  have f1 := HK.out.frozen 1
  have f2 := HK.out.frozen 2
  have f3 := HK.out.frozen 3
  have f4 := HK.out.frozen 4
  have f5 := HK.out.frozen 5
  have f6 := HK.out.frozen 6
  have f7 := HK.out.frozen 7
  have f8 := HK.out.frozen 8
  have f9 := HK.out.frozen 9
  have f10 := HK.out.frozen 10
  have f11 := HK.out.frozen 11
  go_wp2_with fail
  (try simp only [Exit.inBlock, Exit.then])
  refine bodyPost_ret (results_row_tmp rfl _ _ _ _ _ _ rfl (blk12 HK.out _ _ _ _ _ _ _ _ _ _ _ _) (by rfl)) rfl ?_
  have HNF := Lib.hid (fun y0 y1 y2 y3 y4 y5 y6 y7 y8 y9 y10 y11 => nf12 (S := [w.heap.size]) (w := W) (g := w.heap.size) (by simp) y0 y1 y2 y3 y4 y5 y6 y7 y8 y9 y10 y11)
  exact ⟨(HNF.out _ _ _ _ _ _ _ _ _ _ _ _).below HB0.out (by simp), rfl⟩
set_option maxRecDepth 100000 in
set_option maxHeartbeats 4000000 in
theorem decode_len (w : World) (op m : Int) (A : Option Addr) (n c : Nat) (hop : opB op = true) (hm : mB m = true) (hn : lenN op m ≠ (n : Int)) (hlm : n ≤ maxLen) :
    Calls Try.prog 18 #[.int .i64 op, .int .i64 m, .slice A n c] w fun e w' => Below w.heap.size w w' ∧ e = .returned (.tuple #[.agg #[.int .i64 0, .int .u64 0, .int .i64 0, .int .i64 0, .int .i64 0, .int .i64 0, .int .i64 0, .int .i64 0, .int .i64 0, .int .i64 0, .slice none 0 0, .slice none 0 0], .int .i64 50]) := by
  obtain ⟨W, hW⟩ : ∃ W, W = w.alloc (.cells #[.int .i64 0, .int .u64 0, .int .i64 0, .int .i64 0, .int .i64 0, .int .i64 0, .int .i64 0, .int .i64 0, .int .i64 0, .int .i64 0, .slice none 0 0, .slice none 0 0] TA) := ⟨_, rfl⟩
  have hb0 : Below w.heap.size w W := by rw [hW]; exact (Below.refl _ _).alloc (Nat.le_refl _) _
  have HB0 := Lib.hid hb0
  have HK := Lib.hid (show Blk W w.heap.size TA #[.int .i64 0, .int .u64 0, .int .i64 0, .int .i64 0, .int .i64 0, .int .i64 0, .int .i64 0, .int .i64 0, .int .i64 0, .int .i64 0, .slice none 0 0, .slice none 0 0] by rw [hW]; exact Blk.new _ _ _)
  have HT := Lib.hid (fun w => rthere_any op w)
  have HBO := Lib.hid (fun w => bound_any m w)
  have HLN := Lib.hid (fun w => length_any op m w)
  rw [hop] at HT
  rw [hm] at HBO
  clear hop hm
  generalize lenN op m = ln at *
  have hne : ¬ (n : Int) = ln := fun h => hn h.symm
  have hb9 : ((n : Int) != ln) = true := by simpa using hne
  unfold maxLen at hlm
  clear hn
  have hWs := hW.symm
  clear hW hb0
  go_enter Try.func18, Try.ntmps18
  go_wp2_with fail
  refine (HT.out _).mono ?_
  rintro e w0 ⟨rfl, hw0⟩
  subst hw0
  go_wp2_with fail
  refine (HBO.out _).mono ?_
  rintro e w0 ⟨rfl, hw0⟩
  subst hw0
  go_wp2_with fail
  refine (HLN.out _).mono ?_
  rintro e w0 ⟨rfl, hw0⟩
  subst hw0
  clear hWs
  have s0 := HK.out.cell 0
  have s1 := HK.out.cell 1
  have s2 := HK.out.cell 2
  have s3 := HK.out.cell 3
  have s4 := HK.out.cell 4
  have s5 := HK.out.cell 5
  have s6 := HK.out.cell 6
  have s7 := HK.out.cell 7
  have s8 := HK.out.cell 8
  have s9 := HK.out.cell 9
  have s10 := HK.out.cell 10
  have s11 := HK.out.cell 11
  simp only [List.getElem?_toArray, List.getElem?_cons_zero, List.getElem?_cons_succ] at s0 s1 s2 s3 s4 s5 s6 s7 s8 s9 s10 s11
  have f0 := HK.out.frozen 0
  have f1 := HK.out.frozen 1
  have f2 := HK.out.frozen 2
  have f3 := HK.out.frozen 3
  have f4 := HK.out.frozen 4
  have f5 := HK.out.frozen 5
  have f6 := HK.out.frozen 6
  have f7 := HK.out.frozen 7
  have f8 := HK.out.frozen 8
  have f9 := HK.out.frozen 9
  have f10 := HK.out.frozen 10
  have f11 := HK.out.frozen 11
  go_wp2_with fail
  (try simp only [Exit.inBlock, Exit.then])
  refine bodyPost_ret (results_row_tmp rfl _ _ _ _ _ _ rfl (blk12 HK.out _ _ _ _ _ _ _ _ _ _ _ _) (by rfl)) rfl ?_
  have HNF := Lib.hid (fun y0 y1 y2 y3 y4 y5 y6 y7 y8 y9 y10 y11 => nf12 (S := [w.heap.size]) (w := W) (g := w.heap.size) (by simp) y0 y1 y2 y3 y4 y5 y6 y7 y8 y9 y10 y11)
  exact ⟨(HNF.out _ _ _ _ _ _ _ _ _ _ _ _).below HB0.out (by simp), rfl⟩
end Go.Proofs.Ytmapcdmegkfheaa
