/- region: Grow and Concat of ends, by contract. -/
import Derived.Test.YtimfcgnnfgoaaaaRgC
namespace Go.Proofs.Ytimfcgnnfgoaaaa
set_option linter.unusedVariables false
set_option linter.unusedSimpArgs false
open Go.RowKit
theorem nextslicecap_pos0 (n : Nat) : n ≤ 1000000 → 0 ≤ Builtin.nextslicecap n 0 := fun _ => Nat.zero_le _
set_option maxHeartbeats 1000000 in
theorem growE_any (n : Nat) (hn : n ≤ 1000000) (w : World) : Calls Try.prog 58 #[.slice none 0 0, .int .i64 (n : Int)] w fun e w' => ∃ v, e = .returned v ∧ FE elEd w v [] w' := by
  by_cases h0 : n = 0
  · subst h0
    have HF := Lib.hid (FE.nil_ (E := elEd) w w (Below.refl _ _))
    go_enter Try.func58, Try.ntmps58
    go_wp2
    go_ret
    exact ⟨_, rfl, HF.out⟩
  · have n0 : ¬ ((n : Int) < 0) := by omega
    have n1 : (0 : Int) < (n : Int) := by omega
    have n2 : 0 < n := by omega
    have eb : Try.t80.bytes = 40 := by kernel_rfl
    have hq : ¬ (281474976710656 < (n : Int) * (Try.t80.bytes : Int)) := by rw [eb]; omega
    have hz := nextslicecap_zero (need := n) (by omega)
    have hq2 : ¬ (281474976710656 < Builtin.nextslicecap n 0 * Try.t80.bytes) := by rw [eb, hz]; omega
    have HZ := Lib.hid hz
    clear eb h0 hz
    go_enter Try.func58, Try.ntmps58
    go_wp2
    go_ret
    refine ⟨_, rfl, .inr ⟨w.heap.size, _, rfl, _, (Blk.new _ _ _).drew, ?_, Nat.zero_le _, ?_, ?_⟩, by go_grown, fun i hi => by simp [Value.ownBlock] at hi; omega⟩
    · have hge := grownCap_ge w n 0 80
      unfold grownCap at hge
      simp [Builtin.zeroCells, elEd]
      omega
    · have hle := grownCap_le_maxLen w n 0 80 (by simp only [maxLen]; omega)
      unfold grownCap at hle
      exact hle
    · simp [El.encs]
set_option maxRecDepth 100000 in
set_option maxHeartbeats 4000000 in
theorem concatE_any (g cc : Nat) (A B : Option Addr) (c d : Nat) (L M : List En) (w : World) (h : Blk w g 77 #[.slice A L.length c, .slice B M.length d]) (hx : ERd elEd w (.slice A L.length c) L) (hy : ERd elEd w (.slice B M.length d) M) (hl : L.length ≤ 100000) (hm : M.length ≤ 100000) :
    Calls Try.prog 52 #[.slice (some ⟨g, 0, none⟩) 2 cc] w fun e w' => ∃ v, e = .returned v ∧ FE elEd w v (L ++ M) w' := by
  have k0 := h.cell 0
  have k1 := h.cell 1
  simp only [List.getElem?_toArray, List.getElem?_cons_zero, List.getElem?_cons_succ] at k0 k1
  have HX := Lib.hid hx; have HY := Lib.hid hy; have HB := Lib.hid h; clear hx hy h
  have HTY := Lib.hid (show Try.prog.underlying 77 = some (.slice elEd.T) from Try.underlying77)
  obtain ⟨n, hn⟩ : ∃ n, n = L.length := ⟨_, rfl⟩
  obtain ⟨m, hm2⟩ : ∃ m, m = M.length := ⟨_, rfl⟩
  have HLL := Lib.hid (show L.length + M.length ≤ 200000 by omega)
  rw [← hn] at k0 HX hl HB
  rw [← hm2] at k1 HY hm HB
  have HN := Lib.hid hn; have HM := Lib.hid hm2; clear hn hm2
  have hn2 : (n : Int) ≤ 100000 := by omega
  have hm2 : (m : Int) ≤ 100000 := by omega
  have hnm : (n : Int) + (m : Int) = ((n + m : Nat) : Int) := by omega
  have HNM := Lib.hid hnm; clear hnm
  have HG := Lib.hid (growE_any (n + m) (by omega) w)
  go_enter Try.func52, Try.ntmps52
  go_wp2_with fail
  refine wp_loop_rounds 3 ?_
  rw [rounds_succ]
  go_wp2_with fail
  rw [rounds_succ]
  go_wp2_with fail
  rw [rounds_succ]
  go_wp2_with fail
  rw [HNM.out]
  refine HG.out.mono ?_
  rintro e w1 ⟨v1, rfl, hf⟩
  have q0 := (HB.out.below hf.bel HB.out.lt).cell 0
  have q1 := (HB.out.below hf.bel HB.out.lt).cell 1
  simp only [List.getElem?_toArray, List.getElem?_cons_zero, List.getElem?_cons_succ] at q0 q1
  have HX1 := Lib.hid (by have h9 := (HX.out.below hf.bel); rw [HN.out] at h9; exact h9.reads elEd_ok)
  have HF := Lib.hid hf
  clear hf k0 k1
  go_wp2_with fail
  refine wp_loop_rounds 3 ?_
  rw [rounds_succ]
  go_wp2_with ((at_builtin; refine wpList_eappr2 (e2 := 80) elEd_ok rfl (.tmp 31) (.tmp 32) 77 77 rfl HTY.out HTY.out v1 [] L A c rfl (by rw [← HN.out]; rfl) HF.out.own HX1.out (by have := HLL.out; simp only [maxLen, List.length_nil]; omega) (by have := HLL.out; simp only [elEd, List.length_nil]; omega) ?_; intro v2 w2 hA2; have HF2 := Lib.hid (HF.out.app hA2); clear hA2 q0 q1))
  rw [rounds_succ]
  have q1 := (HB.out.below HF2.out.bel HB.out.lt).cell 1
  simp only [List.getElem?_toArray, List.getElem?_cons_zero, List.getElem?_cons_succ] at q1
  have HY2 := Lib.hid (by have h9 := (HY.out.below HF2.out.bel); rw [HM.out] at h9; exact h9.reads elEd_ok)
  go_wp2_with ((at_builtin; refine wpList_eappr2 (e2 := 80) elEd_ok rfl (.tmp 31) (.tmp 32) 77 77 rfl HTY.out HTY.out v2 ([] ++ L) M B d (by simp [Act.eval]) (by rw [← HM.out]; rfl) HF2.out.own HY2.out (by have := HLL.out; simp only [maxLen, List.nil_append]; omega) (by have := HLL.out; simp only [elEd, List.nil_append]; omega) ?_; intro v3 w3 hA3; have HF3 := Lib.hid (HF2.out.app hA3); clear hA3 q1))
  rw [rounds_succ]
  go_wp2
  go_ret
  exact ⟨v3, by simp, by have h9 := HF3.out; simpa using h9⟩
end Go.Proofs.Ytimfcgnnfgoaaaa
