/- wire: text, where it is written. -/
import Derived.Test.YthlmldbgohnpnaaWr5
namespace Go.Proofs.Ythlmldbgohnpnaa
set_option linter.unusedVariables false
set_option linter.unusedSimpArgs false
open Go.RowKit
theorem eappB_drew {B : Nat} {w w' : World} {v v' : Value} {M : Bs} (h : EAppB B v M w.drew v' w') : EAppB B v M w v' w' := ⟨h.1, ⟨h.2.1.os, h.2.1.tape, h.2.1.output, h.2.1.size, h.2.1.block⟩, h.2.2⟩
set_option maxHeartbeats 4000000 in
theorem text_write {B : Nat} {w0 : World} {y q : Nat} {s : Wk} {tq : TypeId} {cq : Array Value} (w : World) (o : Nat) (t : Bs) (hd : s.does = 1) (h : WS B w0 y s w) (hq : Blk w q tq cq) (ht : tq ≠ 48) (ht2 : tq ≠ 5) (ho : cq[o]? = some (.string (bs t))) (hr : s.L.length ≤ 1000) (htl : t.length ≤ maxLen) :
    Calls Try.prog 33 #[ptrW y, .pointer (some ⟨q, o, none⟩)] w fun e w' => WEnd B w0 y q tq (s.txt t) (cq.setIfInBounds o (.string (bs (s.txtC t)))) w e w' := by
  have e1 : s.txt t = { s with L := s.L ++ t.take 512 } := by unfold Wk.txt; rw [if_neg (by omega), if_pos hd]
  have e2 : s.txtC t = t := by unfold Wk.txtC; rw [if_neg (by omega)]
  rw [e1, e2, set_same ho]
  obtain ⟨v, h1, h2⟩ := id h.st
  have h2 : EOwn elB w v s.L ∧ ∀ i, v.ownBlock = some i → B ≤ i := by
    rcases h2 with ⟨h2, _⟩ | ⟨_, h2⟩ | ⟨h2, _⟩
    · omega
    · exact h2
    · omega
  have k0 := h1.cell 0
  have k2 := h1.cell 2
  simp only [List.getElem?_toArray, List.getElem?_cons_zero, List.getElem?_cons_succ, hd] at k0 k2
  have kq := hq.cell o
  rw [ho] at kq
  have HB : Hid (B ≤ w.heap.size) := Lib.hid (Nat.le_trans h.h0 h.bel.size)
  have HO := Lib.hid h2
  have H1 := Lib.hid h1
  have HW := Lib.hid h
  have HQ := Lib.hid hq
  have HT := Lib.hid ht
  have HT2 := Lib.hid ht2
  have HD := Lib.hid hd
  have HLT : Hid (s.L.length + (t.take 512).length ≤ 1000000) := Lib.hid (by rw [List.length_take]; omega)
  have HE : ∀ (w' : World) (A' : Option Addr) (n' c' : Nat), EAppB B v (s.L ++ t.take 512) w (.slice A' n' c') w' → WEnd B w0 y q tq { s with L := s.L ++ t.take 512 } cq w (.returned (.tuple #[])) (w'.setCell ⟨y, 2, none⟩ (.slice A' n' c')) := by
    intro w' A' n' c' hA
    have hg : ∀ k t cs, Blk w k t cs → t ≠ 5 → Blk w' k t cs := fun k t cs hk hkt => eappB_keep hA HO.out.1 hk hkt
    have hyq := HW.out.ne HQ.out HT.out
    have hrow : WRow B w' { s with L := s.L ++ t.take 512 } (.slice A' n' c') := .inr (.inl ⟨HD.out, hA.1, hA.2.2⟩)
    have hy2 := hg _ _ _ H1.out (by decide)
    have hq2 := hg _ _ _ HQ.out HT2.out
    have hbel : Below B w0 w' := HW.out.bel.grown hA.2.1 HB.out HO.out.2
    refine ⟨rfl, ⟨HW.out.hy, HW.out.h0, below_setc hbel HW.out.hy 2 _, .slice A' n' c', ?_, ?_⟩, hq2.far (p := ⟨y, 2, none⟩) hyq _, ?_⟩
    · have := hy2.set_ 2 (.slice A' n' c')
      simpa using this
    · exact hrow.setC rfl rfl hy2 (by decide) HW.out.hy _
    · refine ⟨by have := hA.2.1.size; simp; omega, fun k t cs hk hkt h1 h2 => ?_⟩
      exact (hg k t cs hk hkt).far (p := ⟨y, 2, none⟩) h1 _
  have HE := Lib.hid HE
  have hsz : (bs t).size = t.length := bs_size t
  have HX1 : Hid (∀ m, (bs t).extract 0 m = bs (t.take m)) := Lib.hid (bs_take t)
  have hs63 : (bs t).size ≤ 9223372036854775807 := by rw [hsz]; unfold maxLen at htl; omega
  obtain ⟨A0, c0, rfl, _, _⟩ := HO.out.1.slice
  obtain ⟨m, hm⟩ : ∃ m : Nat, m = min t.length 512 := ⟨_, rfl⟩
  have HXE : Hid ((bs t).extract 0 m = bs (t.take 512)) := Lib.hid (by
    rw [HX1.out, hm]
    rcases Nat.le_total t.length 512 with h | h
    · rw [Nat.min_eq_left h, List.take_of_length_le (Nat.le_refl _), List.take_of_length_le h]
    · rw [Nat.min_eq_right h])
  have hif : (if (512 : Int) < ((bs t).size : Int) then (512 : Int) else ((bs t).size : Int)) = (m : Int) := by
    rw [hsz]; split <;> omega
  have hmx : (m : Int) ≤ ((bs t).size : Int) := by rw [hsz]; omega
  clear e1 e2 ho hr h1 h2 h hd hq ht ht2 hsz HX1 htl hm
  generalize bs t = x at *
  go_enter Try.func33, Try.ntmps33
  go_wp2_with fail
  go_region_law ((refine step_estr (B := B) rfl (.tmp 14) (.tmp 23) 22 9 rfl (by kernel_rfl) (by kernel_rfl) (.slice A0 s.L.length c0) s.L (t.take 512) (by simp [Act.eval, Act.put]) (by simp [Act.eval, Act.put, HXE.out]) HO.out.1 HO.out.2 HB.out HLT.out ?_; intro v' w' hA; obtain ⟨A9, c9, hv9, _, _⟩ := hA.1.slice; generalize (s.L ++ t.take 512).length = n9 at hv9; subst hv9; have c29 := (eappB_keep hA HO.out.1 H1.out (by decide)).cell 2; have f29 := (eappB_keep hA HO.out.1 H1.out (by decide)).frozen 2; simp only [List.getElem?_toArray, List.getElem?_cons_zero, List.getElem?_cons_succ] at c29; have HA := Lib.hid hA; clear hA))
  all_goals
    go_wp2_with fail
    go_end0
    first | exact HE.out _ _ _ _ HA.out | exact HE.out _ _ _ _ (eappB_drew HA.out)
theorem text_any {B : Nat} {w0 : World} {y q : Nat} {s : Wk} {tq : TypeId} {cq : Array Value} (w : World) (o : Nat) (t : Bs) (hd : s.does ≤ 2) (h : WS B w0 y s w) (hq : Blk w q tq cq) (hqB : B ≤ q) (ht : tq ≠ 48) (ht2 : tq ≠ 5) (ho : cq[o]? = some (.string (bs t))) (hr : s.does = 1 → s.L.length ≤ 1000) (htl : t.length ≤ maxLen) :
    Calls Try.prog 33 #[ptrW y, .pointer (some ⟨q, o, none⟩)] w fun e w' => WEnd B w0 y q tq (s.txt t) (cq.setIfInBounds o (.string (bs (s.txtC t)))) w e w' := by
  have hc : s.does = 0 ∨ s.does = 1 ∨ s.does = 2 := by omega
  rcases hc with h0 | h0 | h0
  · exact text_count w o t h0 h hq ho
  · exact text_write w o t h0 h hq ht ht2 ho (hr h0) htl
  · exact text_read w o t h0 h hq hqB ht ht2 ho
end Go.Proofs.Ythlmldbgohnpnaa
