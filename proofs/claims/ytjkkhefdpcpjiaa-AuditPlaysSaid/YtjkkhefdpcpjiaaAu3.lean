/- audit: Clone, trim, Drain by contract. -/
import Derived.Test.YtjkkhefdpcpjiaaAu2
namespace Go.Proofs.Ytjkkhefdpcpjiaa
set_option linter.unusedVariables false
set_option linter.unusedSimpArgs false
open Go.RowKit
theorem eqE_some (a : Addr) (n c : Nat) (w : World) : (binOp BinOp.eql 25 (.slice (some a) n c) (.slice none 0 0)).run Try.prog w = .ok (.bool false) w := by kernel_rfl
theorem eqE_none (n c : Nat) (w : World) : (binOp BinOp.eql 25 (.slice none n c) (.slice none 0 0)).run Try.prog w = .ok (.bool true) w := by kernel_rfl
section
attribute [local go_sem] eqE_some eqE_none
set_option maxRecDepth 100000 in
set_option maxHeartbeats 2000000 in
theorem cloneE_any (w : World) (v : Value) (L : List (Ev)) (h : ERd elE w v L) (hl : L.length * elE.by_ ≤ 140737488355328) :
    Calls Try.prog 23 #[v] w fun e w' => ∃ v2, e = .returned v2 ∧ EOwn elE w' v2 L ∧ (∀ i, v2.ownBlock = some i → w.heap.size ≤ i) ∧ Below w.heap.size w w' := by
  obtain ⟨A, c, rfl, h1, h2, h3⟩ := id h
  have hlm : L.length ≤ maxLen := by omega
  cases A with
  | none =>
    obtain rfl : L = [] := by
      cases L with
      | nil => rfl
      | cons x L => obtain ⟨g, o, e, _⟩ := h3 0 x rfl; cases e
    clear h h1 h2 h3 hl
    go_enter Try.func23, Try.ntmps23
    go_wp2_with fail
    go_ret
    exact ⟨_, rfl, EOwn.nil_ _, fun i hi => by simp [Value.ownBlock] at hi, Below.refl _ _⟩
  | some a =>
    have HR := Lib.hid h
    have HL := Lib.hid hl
    have HM := Lib.hid hlm
    clear h h1 h2 h3 hl hlm
    go_enter Try.func23, Try.ntmps23
    have HO0 := Lib.hid (EOwn.block (M := ([] : List (Ev))) elE_ok (Blk.new w 27 #[]) rfl (by simp))
    have HAL := Lib.hid (show Below w.heap.size w (w.alloc (.cells #[] 27)) from (Below.refl _ _).alloc (Nat.le_refl _) _)
    have HRD := Lib.hid ((HR.out.below HAL.out).reads elE_ok)
    go_upto_region 3 with (fail)
    go_wp2_with ((at_builtin; refine wpList_eappr2 (e2 := 27) elE_ok rfl _ _ 25 25 rfl (by kernel_rfl) (by kernel_rfl) (.slice (some ⟨w.heap.size, 0, none⟩) 0 0) [] L (some a) c rfl rfl HO0.out HRD.out (by have := HM.out; simpa using this) (by have := HL.out; simpa using this) ?_; rintro v' w1 ⟨hO, hG, hW⟩; obtain ⟨A9, c9, rfl, _, _⟩ := hO.slice; have HO := Lib.hid hO; have HG := Lib.hid hG; have HW := Lib.hid hW; clear hO hG hW))
    go_ret
    exact ⟨_, rfl, HO.out, fun i hi => by
      rcases HW.out i hi with h9 | h9
      · simp [Value.ownBlock] at h9; omega
      · simp at h9; omega, HAL.out.grown HG.out (by simp) (fun i hi => by simp [Value.ownBlock] at hi; omega)⟩
end

/-- What is left is as it was, perhaps laid anew. -/
def TrimP (y : Nat) (v : Value) (w : World) (H : List Ev) (n p : Nat) (w' : World) : Prop := ∃ (v' : Value) (H' : List Ev) (n' : Nat), AS y v w v' H' n' p w' ∧ H'.drop n' = H.drop n ∧ H'.length ≤ H.length
theorem AS.set1 {w : World} {y : Nat} {v : Value} {H : List Ev} {n p : Nat} (h : TR w y v H n p) (n' : Nat) (hn : n' ≤ H.length) : AS y v w v H n' p (w.setCell ⟨y, 1, none⟩ (.int .i64 n')) := by
  refine ⟨⟨?_, h.own.keep fun i hi e2 => Below.heap_setCell w ⟨y, 1, none⟩ _ i (fun e3 => h.ne (by rw [e2]; simpa using e3)), h.ne, hn, h.past⟩, ?_, fun i hi => .inl hi⟩
  · have := h.blk.set_ 1 (.int .i64 n')
    simpa using this
  · have hB := (Below.refl 0 w).setCell (p := ⟨y, 1, none⟩) (Nat.zero_le _) (.int .i64 n')
    exact ⟨hB.os, hB.tape, hB.output, hB.size, fun i hi h1 h2 => Below.heap_setCell w ⟨y, 1, none⟩ _ i (by simpa using h1)⟩
theorem AS.set2 {w : World} {y : Nat} {v : Value} {H : List Ev} {n p : Nat} (h : TR w y v H n p) (p' : Nat) (hp : p' ≤ 4611686018427387903) : AS y v w v H n p' (w.setCell ⟨y, 2, none⟩ (.int .i64 p')) := by
  refine ⟨⟨?_, h.own.keep fun i hi e2 => Below.heap_setCell w ⟨y, 2, none⟩ _ i (fun e3 => h.ne (by rw [e2]; simpa using e3)), h.ne, h.gone, hp⟩, ?_, fun i hi => .inl hi⟩
  · have := h.blk.set_ 2 (.int .i64 p')
    simpa using this
  · have hB := (Below.refl 0 w).setCell (p := ⟨y, 2, none⟩) (Nat.zero_le _) (.int .i64 p')
    exact ⟨hB.os, hB.tape, hB.output, hB.size, fun i hi h1 h2 => Below.heap_setCell w ⟨y, 2, none⟩ _ i (by simpa using h1)⟩
/-- The row laid anew: its value and the count 0 are stored. -/
theorem AS.anew {w : World} {y : Nat} {v v2 : Value} {H R : List Ev} {n p : Nat} (h : TR w y v H n p) (h2 : EOwn elE w v2 R) (hne : v2.ownBlock ≠ some y) {w0 : World} (hw : Below w0.heap.size w0 w) (hv : ∀ i, v2.ownBlock = some i → w0.heap.size ≤ i) : AS y v w0 v2 R 0 p ((w.setCell ⟨y, 0, none⟩ v2).setCell ⟨y, 1, none⟩ (.int .i64 0)) := by
  have hB := ((Below.refl 0 w).setCell (p := ⟨y, 0, none⟩) (Nat.zero_le _) v2).setCell (p := ⟨y, 1, none⟩) (Nat.zero_le _) (.int .i64 0)
  have hk : ∀ i, i ≠ y → ((w.setCell ⟨y, 0, none⟩ v2).setCell ⟨y, 1, none⟩ (.int .i64 0)).heap[i]? = w.heap[i]? := fun i hi => by
    rw [Below.heap_setCell _ ⟨y, 1, none⟩ _ i (by simpa using hi), Below.heap_setCell w ⟨y, 0, none⟩ _ i (by simpa using hi)]
  refine ⟨⟨?_, h2.keep fun i hi e2 => hk i (fun e3 => hne (by rw [e2, e3])), hne, Nat.zero_le _, h.past⟩, ?_, fun i hi => .inr (hv i hi)⟩
  · have := (h.blk.set_ 0 v2).set_ 1 (.int .i64 0)
    simpa using this
  · exact ⟨hB.os.trans hw.os, hB.tape.trans hw.tape, hB.output.trans hw.output, Nat.le_trans hw.size hB.size, fun i hi h1 h2 => (hk i h1).trans (hw.block i hi)⟩
set_option maxRecDepth 100000 in
set_option maxHeartbeats 4000000 in
theorem atrim_any (w : World) (y : Nat) (v : Value) (H : List Ev) (n p : Nat) (h : TR w y v H n p) (hl : H.length ≤ 1000000) :
    Calls Try.prog 25 #[ptrA y] w fun e w' => e = .returned (.tuple #[]) ∧ TrimP y v w H n p w' := by
  have HT := Lib.hid h
  have hg := h.gone
  have hy := h.blk.lt
  have HN := Lib.hid (show ∀ W, Below w.heap.size w W → Calls Try.prog 15 #[ptrA y] W fun e w' => e = .returned (.int .i64 (H.length - n : Nat)) ∧ ∃ q, w' = W.drewN q from fun W hW => alen_any W y v H n p (h.below hW))
  have t1 : w.cell? ⟨y, 1, none⟩ = some (.int .i64 n) := h.blk.cell 1
  clear h
  obtain ⟨r, hr⟩ : ∃ r, r = H.length - n := ⟨_, rfl⟩
  rw [← hr] at HN
  go_enter Try.func25, Try.ntmps25
  by_cases hc : r < n
  · have hc' : decide ((r : Int) < (n : Int)) = true := by simp; exact hc
    have hlt : (r : Int) < (n : Int) := by omega
    have HH := Lib.hid (show H.length ≤ 1000000 ∧ r = H.length - n from ⟨hl, hr⟩)
    clear hl hr hg hc
    go_upto_region 0 with fail
    go_quiet ((go_at_call 15; exact Calls.quiet_of (HN.out _ (below_drawn (Below.refl _ _) _))))
    rename Nat => q
    have HB1 := Lib.hid (show Below w.heap.size w (w.drewN q) from below_drawn (Below.refl _ _) q)
    have HT1 := Lib.hid (HT.out.below HB1.out)
    clear t1 HN
    have HZ1 := Lib.hid (show (w.drewN q).heap.size = w.heap.size from rfl)
    generalize w.drewN q = W1 at *
    have HLF := Lib.hid (aleft_any W1 y v H n p HT1.out HH.out.1)
    go_wp2_with fail
    refine HLF.out.mono ?_
    rintro e w2 ⟨v2, rfl, hO2, hF2, hB2⟩
    have HT2 := Lib.hid (HT1.out.below hB2)
    have hne : v2.ownBlock ≠ some y := fun e => by have := hF2 _ e; have := HT1.out.blk.lt; omega
    have HEND := Lib.hid (AS.anew HT2.out hO2 hne (below_trans HB1.out hB2) (fun i hi => by have := hF2 i hi; have := HZ1.out; omega))
    obtain ⟨A2, c2, rfl, -, -⟩ := hO2.slice
    clear hO2 hF2 hB2 hne HLF HT1
    have k0 := HT2.out.blk.cell 0
    have k1 := HT2.out.blk.cell 1
    have f0 := HT2.out.blk.frozen 0
    have f1 := HT2.out.blk.frozen 1
    simp only [List.getElem?_toArray, List.getElem?_cons_zero, List.getElem?_cons_succ] at k0 k1
    have hy2 := HT2.out.blk.lt
    go_wp2
    refine bodyPost_end (v := .tuple #[]) ?_ rfl ⟨rfl, _, H.drop n, 0, by have h9 := HEND.out; simp only [List.length_drop] at h9; exact h9, rfl, by simp⟩
    simp [results, Try.results25, go_sem, *]
  · have hc' : decide ((r : Int) < (n : Int)) = false := by simp; omega
    have hlt : (n : Int) ≤ (r : Int) := by omega
    clear hl hr hg hc
    go_upto_region 0 with fail
    go_quiet ((go_at_call 15; exact Calls.quiet_of (HN.out _ (below_drawn (Below.refl _ _) _))))
    rename Nat => q
    go_wp2
    refine bodyPost_end (v := .tuple #[]) ?_ rfl ⟨rfl, _, _, _, AS.start HT.out (below_drawn (Below.refl _ _) q), rfl, Nat.le_refl _⟩
    simp [results, Try.results25, go_sem, *]
end Go.Proofs.Ytjkkhefdpcpjiaa
