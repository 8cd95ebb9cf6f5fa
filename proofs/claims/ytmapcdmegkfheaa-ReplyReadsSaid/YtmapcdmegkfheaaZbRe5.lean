/- reply: an answer that refuses, written. -/
import Derived.Test.YtmapcdmegkfheaaZbRe4
import Derived.Laws.CopyOwn
namespace Go.Proofs.Ytmapcdmegkfheaa
set_option linter.unusedVariables false
set_option linter.unusedSimpArgs false
open Go.RowKit
def anF : An := ⟨6, 0, 0, 0, 0, 0, 0, 0, 0, 0, none, 0, 0, none, 0, 0⟩
set_option maxRecDepth 100000 in
set_option maxHeartbeats 4000000 in
theorem fitsF_any (w : World) : Calls Try.prog 16 #[.int .i64 12, .int .i64 3, .agg #[.int .i64 6, .int .u64 0, .int .i64 0, .int .i64 0, .int .i64 0, .int .i64 0, .int .i64 0, .int .i64 0, .int .i64 0, .int .i64 0, .slice none 0 0, .slice none 0 0]] w fun e w' => e = .returned (.bool true) ∧ Below w.heap.size w w' := by
  have HT := Lib.hid (fun w => rthere_any 12 w)
  have HB := Lib.hid (fun w => bound_any 3 w)
  have HW := Lib.hid (fun w => within_any 6 0 12 w)
  rw [show opB 12 = true from rfl] at HT
  rw [show mB 3 = true from rfl] at HB
  rw [show withinB 6 0 12 = true from rfl] at HW
  have HBA := Lib.hid (fun w => bare_any w anF)
  rw [show bareB anF = true from rfl] at HBA
  go_enter Try.func16, Try.ntmps16
  go_wp2_with (first | (go_at_call 22; refine (HT.out _).mono ?_; rintro e w9 ⟨rfl, hw9⟩; subst hw9) | (go_at_call 23; refine (HB.out _).mono ?_; rintro e w9 ⟨rfl, hw9⟩; subst hw9) | (go_at_call 26; refine (HW.out _).mono ?_; rintro e w9 ⟨rfl, hw9⟩; subst hw9) | (go_at_call 33; refine (HBA.out _).mono ?_; rintro e w9 ⟨rfl, hb9⟩))
  go_ret
  exact ⟨rfl, below_trans ((Below.refl _ _).alloc (Nat.le_refl _) _) hb9⟩
set_option maxRecDepth 100000 in
set_option maxHeartbeats 4000000 in
theorem writeF_any (w : World) : Calls Try.prog 28 #[.int .i64 12, .agg #[.int .i64 6, .int .u64 0, .int .i64 0, .int .i64 0, .int .i64 0, .int .i64 0, .int .i64 0, .int .i64 0, .int .i64 0, .int .i64 0, .slice none 0 0, .slice none 0 0]] w fun e w' => ∃ v, e = .returned v ∧ FBy w v [6, 12, 0, 0, 0, 0, 0, 0] w' := by
  obtain ⟨W, hW⟩ : ∃ W, W = w.alloc (.cells #[.int .i64 6, .int .u64 0, .int .i64 0, .int .i64 0, .int .i64 0, .int .i64 0, .int .i64 0, .int .i64 0, .int .i64 0, .int .i64 0, .slice none 0 0, .slice none 0 0] 38) := ⟨_, rfl⟩
  have hbw : Below w.heap.size w W := by rw [hW]; exact (Below.refl _ _).alloc (Nat.le_refl _) _
  have HBW := Lib.hid hbw
  have HAW := Lib.hid (show Blk W w.heap.size 38 #[.int .i64 6, .int .u64 0, .int .i64 0, .int .i64 0, .int .i64 0, .int .i64 0, .int .i64 0, .int .i64 0, .int .i64 0, .int .i64 0, .slice none 0 0, .slice none 0 0] by rw [hW]; exact Blk.new _ _ _)
  have HP1 := Lib.hid (put_call W 1 (by decide) (by decide) [6, 12, 0] (by decide))
  rw [show rowB 1 [6, 12, 0] = [6, 12, 0] from rfl] at HP1
  have HP2 := Lib.hid (fun w => put_call w 2 (by decide) (by decide) [0, 0] (by decide))
  rw [show rowB 2 [0, 0] = [0, 0, 0, 0] from rfl] at HP2
  have HP3 := Lib.hid (fun w => put_call w 1 (by decide) (by decide) [0] (by decide))
  rw [show rowB 1 [0] = [0] from rfl] at HP3
  go_enter Try.func28, Try.ntmps28
  have hWs := hW.symm
  have k0 := HAW.out.cell 0
  have k10 := HAW.out.cell 10
  have k11 := HAW.out.cell 11
  simp only [List.getElem?_toArray, List.getElem?_cons_zero, List.getElem?_cons_succ] at k0 k10 k11
  clear hW hbw
  go_wp2_with fail
  refine HP1.out.mono ?_
  rintro e w1 ⟨v1, rfl, hf1⟩
  have HF1 := Lib.hid hf1
  have HAE := Lib.hid HAW.out.lt
  have HA1 := Lib.hid (HAW.out.thru0 hf1.bel)
  clear hf1 hWs k0 k10 k11 HP1
  obtain ⟨A1, c1, hv1, _, _⟩ := HF1.out.own.slice
  have hx1 : v1 = .slice A1 3 c1 := hv1
  clear hv1
  subst hx1
  have k3 := HA1.out.cell 3
  have k4 := HA1.out.cell 4
  simp only [List.getElem?_toArray, List.getElem?_cons_zero, List.getElem?_cons_succ] at k3 k4
  go_wp2_with fail
  refine (HP2.out w1).mono ?_
  rintro e w2 ⟨v2, rfl, hf2⟩
  have HF2 := Lib.hid hf2
  have HA2 := Lib.hid (HA1.out.thru0 hf2.bel)
  have HG1 := Lib.hid (HF1.out.below hf2.bel)
  clear hf2 k3 k4
  obtain ⟨A2, c2, hv2, _, _⟩ := HF2.out.own.slice
  have hx2 : v2 = .slice A2 4 c2 := hv2
  clear hv2
  subst hx2
  have HR2 := Lib.hid (EOwn.reads (M := [0, 0, 0, 0]) elB_ok HF2.out.own)
  have k5 := HA2.out.cell 5
  simp only [List.getElem?_toArray, List.getElem?_cons_zero, List.getElem?_cons_succ] at k5
  go_wp2_with ((at_builtin; refine wpList_eappr2 (e2 := 5) elB_ok rfl _ _ 24 24 rfl (by kernel_rfl) (by kernel_rfl) _ [6, 12, 0] [0, 0, 0, 0] A2 c2 rfl rfl HG1.out.own HR2.out (by decide) (by decide) ?_; intro v3 w3 hA; have HF3 := Lib.hid (HG1.out.app (Below.refl _ _) hA); have HA3 := Lib.hid (HA2.out.grown hA.2.1 (by intro e; have := HG1.out.far _ e.symm; have := HAE.out; omega)); clear hA k5; obtain ⟨A3, c3, hv3, _, _⟩ := HF3.out.own.slice; have hx3 : v3 = .slice A3 7 c3 := hv3; clear hv3; subst hx3; have k5 := HA3.out.cell 5; simp only [List.getElem?_toArray, List.getElem?_cons_zero, List.getElem?_cons_succ] at k5))
  refine (HP3.out w3).mono ?_
  rintro e w4 ⟨v4, rfl, hf4⟩
  have HF4 := Lib.hid hf4
  have HA4 := Lib.hid (HA3.out.thru0 hf4.bel)
  have HG3 := Lib.hid (HF3.out.below hf4.bel)
  clear hf4 k5
  obtain ⟨A4, c4, hv4, _, _⟩ := HF4.out.own.slice
  have hx4 : v4 = .slice A4 1 c4 := hv4
  clear hv4
  subst hx4
  have HR4 := Lib.hid (EOwn.reads (M := [0]) elB_ok HF4.out.own)
  go_wp2_with ((at_builtin; refine wpList_eappr2 (e2 := 5) elB_ok rfl _ _ 24 24 rfl (by kernel_rfl) (by kernel_rfl) _ [6, 12, 0, 0, 0, 0, 0] [0] A4 c4 rfl rfl HG3.out.own HR4.out (by decide) (by decide) ?_; intro v5 w5 hA; have HF5 := Lib.hid (HG3.out.app (Below.refl _ _) hA); have HA5 := Lib.hid (HA4.out.grown hA.2.1 (by intro e; have := HG3.out.far _ e.symm; have := HAE.out; omega)); clear hA; obtain ⟨A5, c5, hv5, _, _⟩ := HF5.out.own.slice; have hx5 : v5 = .slice A5 8 c5 := hv5; clear hv5; subst hx5; have k10 := HA5.out.cell 10; have k11 := HA5.out.cell 11; simp only [List.getElem?_toArray, List.getElem?_cons_zero, List.getElem?_cons_succ] at k10 k11))
  refine wp_loop_rounds 1 ?_
  rw [rounds_succ]
  go_wp2_with fail
  refine wp_loop_rounds 1 ?_
  rw [rounds_succ]
  go_wp2_with fail
  go_ret
  exact ⟨_, rfl, HF5.out.up HBW.out⟩
end Go.Proofs.Ytmapcdmegkfheaa
