/- wire: whole and cut, by contract. -/
import Derived.Test.YthlmldbgohnpnaaWr0
namespace Go.Proofs.Ythlmldbgohnpnaa
set_option linter.unusedVariables false
set_option linter.unusedSimpArgs false
open Go.RowKit
theorem WRow.push {B : Nat} {w w' : World} {s : Wk} {v v' : Value} {M : Bs} (hd : s.does = 1) (h : EApp elB v (s.L ++ M) w v' w') (h0 : EOwn elB w v s.L) (hf : ∀ i, v.ownBlock = some i → B ≤ i) (hB : B ≤ w.heap.size) : WRow B w' { s with L := s.L ++ M } v' := by
  obtain ⟨h1, h2, h3⟩ := h
  refine .inr (.inl ⟨hd, h1, fun i hi => ?_⟩)
  rcases h3 i hi with h4 | h4
  · exact hf i h4
  · omega
set_option maxHeartbeats 2000000 in
theorem whole_count {B : Nat} {w0 : World} {y q : Nat} {s : Wk} {tq : TypeId} {cq : Array Value} (w : World) (k n o : Nat) (hd : s.does = 0) (h : WS B w0 y s w) (hq : Blk w q tq cq) (ht : tq ≠ 48) (ho : cq[o]? = some (.int .u64 (n : Int))) (hr : Room s k) :
    Calls Try.prog 31 #[ptrW y, .int .i64 (k : Int), .pointer (some ⟨q, o, none⟩)] w fun e w' => WEnd B w0 y q tq (s.whole k n) (cq.setIfInBounds o (.int .u64 (s.num k n : Nat))) w e w' := by
  have e1 : s.whole k n = { s with count := s.count + k } := by unfold Wk.whole; rw [if_pos hd]
  have e2 : s.num k n = n := by unfold Wk.num; rw [if_neg (by omega)]
  have hr2 : 0 ≤ s.count ∧ s.count + k ≤ 1000 := by unfold Room at hr; omega
  obtain ⟨r1, r2⟩ := hr2
  obtain ⟨v, h1, h2⟩ := h.st
  have k0 := h1.cell 0
  have k1 := h1.cell 1
  have f1 := h1.frozen 1
  simp only [List.getElem?_toArray, List.getElem?_cons_zero, List.getElem?_cons_succ, hd] at k0 k1
  rw [e1, e2, set_same ho]
  have HW := Lib.hid h
  have HQ := Lib.hid hq
  have HT := Lib.hid ht
  clear e1 e2 ho hr h1 h2 h hd hq ht
  go_enter Try.func31, Try.ntmps31
  go_wp2_with fail
  go_end0
  exact ⟨rfl, HW.out.count _, HQ.out.far (p := ⟨y, 1, none⟩) (HW.out.ne HQ.out HT.out) _, WF.setY _ _ _⟩
theorem eapp_keep {w w' : World} {v v' : Value} {L M : Bs} {k : Nat} {t : TypeId} {cs : Array Value} (hA : EApp elB v M w v' w') (h0 : EOwn elB w v L) (hk : Blk w k t cs) (hkt : t ≠ 5) : Blk w' k t cs := by
  refine hk.grown hA.2.1 (fun e => ?_)
  rcases h0 with ⟨rfl, _⟩ | ⟨g', cap, rfl, cur, hb, _⟩
  · simp [Value.ownBlock] at e
  · simp [Value.ownBlock] at e
    subst e
    exact Blk.ne_ hb hk (Ne.symm hkt) rfl
theorem bv_encs (M : Bs) : elB.encs M = bv M := by
  induction M with
  | nil => rfl
  | cons c M ih =>
    have e1 : elB.encs (c :: M) = elB.enc c ++ elB.encs M := rfl
    rw [e1, ih]; rfl
set_option maxHeartbeats 2000000 in
theorem whole_write {B : Nat} {w0 : World} {y q : Nat} {s : Wk} {tq : TypeId} {cq : Array Value} (w : World) (k n o : Nat) (hd : s.does = 1) (h : WS B w0 y s w) (hq : Blk w q tq cq) (ht : tq ≠ 48) (ht2 : tq ≠ 5) (ho : cq[o]? = some (.int .u64 (n : Int))) (hn : n ≤ 18446744073709551615) (hr : Room s k) (hk1 : 1 ≤ k) (hk8 : k ≤ 8) :
    Calls Try.prog 31 #[ptrW y, .int .i64 (k : Int), .pointer (some ⟨q, o, none⟩)] w fun e w' => WEnd B w0 y q tq (s.whole k n) (cq.setIfInBounds o (.int .u64 (s.num k n : Nat))) w e w' := by
  have e1 : s.whole k n = { s with L := s.L ++ putL n k } := by unfold Wk.whole; rw [if_neg (by omega), if_pos hd]
  have e2 : s.num k n = n := by unfold Wk.num; rw [if_neg (by omega)]
  have hr2 : s.L.length + k ≤ 1000 := by unfold Room at hr; omega
  have kq := hq.cell o
  rw [ho] at kq
  have HR := Lib.hid hr2
  obtain ⟨v, h1, h2⟩ := h.st
  have h2 : EOwn elB w v s.L ∧ ∀ i, v.ownBlock = some i → B ≤ i := by
    rcases h2 with ⟨h2, _⟩ | ⟨_, h2⟩ | ⟨h2, _⟩
    · omega
    · exact h2
    · omega
  have k0 := h1.cell 0
  simp only [List.getElem?_toArray, List.getElem?_cons_zero, List.getElem?_cons_succ, hd] at k0
  have HP := Lib.hid (put_any n hn k hk1 hk8 w)
  unfold PutPost at HP
  rw [e1, e2, set_same ho]
  have HO := Lib.hid h2
  have H1 := Lib.hid h1
  have HW := Lib.hid h
  have HQ := Lib.hid hq
  have HT := Lib.hid ht
  have HT2 := Lib.hid ht2
  have HD := Lib.hid hd
  have HK := Lib.hid hk8
  clear e1 e2 ho hr h1 h2 h hd hq ht hn hk1 hk8 hr2 ht2
  have HB : Hid (B ≤ w.heap.size) := Lib.hid (Nat.le_trans HW.out.h0 HW.out.bel.size)
  have HE : ∀ (w1 : World) (v1 v' : Value) (w' : World) (M : Bs), Below w.heap.size w w1 → EApp elB v (s.L ++ M) w1 v' w' → WEnd B w0 y q tq { s with L := s.L ++ M } cq w (.returned (.tuple #[])) (w'.setCell ⟨y, 2, none⟩ v') := by
    intro w1 v1 v' w' M hb hA
    have hb1 := HW.out.below hb
    have hq1 := HQ.out.thru0 hb
    have hy1 := H1.out.thru0 hb
    have ho1 := HO.out.1.below hb
    have hg : ∀ k t cs, Blk w1 k t cs → t ≠ 5 → Blk w' k t cs := fun k t cs hk hkt => eapp_keep hA ho1 hk hkt
    have hyq := HW.out.ne HQ.out HT.out
    have hBw := HB.out
    have hs1 := hb.size
    have hrow := WRow.push HD.out hA ho1 HO.out.2 (by omega)
    have hy2 := hg _ _ _ hy1 (by decide)
    have hq2 := hg _ _ _ hq1 HT2.out
    have hbel : Below B w0 w' := hb1.bel.grown hA.2.1 (by omega) HO.out.2
    refine ⟨rfl, ⟨HW.out.hy, HW.out.h0, below_setc hbel HW.out.hy 2 v', v', ?_, ?_⟩, hq2.far (p := ⟨y, 2, none⟩) hyq _, ?_⟩
    · have := hy2.set_ 2 v'
      simpa using this
    · exact hrow.setC rfl rfl hy2 (by decide) HW.out.hy _
    · refine ⟨by have := hA.2.1.size; simp; omega, fun k t cs hk hkt h1 h2 => ?_⟩
      exact (hg k t cs (hk.thru0 hb) hkt).far (p := ⟨y, 2, none⟩) h1 v'
  have HE := Lib.hid HE
  go_enter Try.func31, Try.ntmps31
  go_wp2_with fail
  refine HP.out.mono ?_
  rintro e w1 (⟨hlt, A, c, rfl, hrb, hb⟩ | ⟨hge, rfl, hb⟩)
  · have hpl : putL n k = be k n := by unfold putL; rw [if_pos hlt]
    have HRB := Lib.hid hrb
    have k2 := (H1.out.thru0 hb).cell 2
    have f2 := (H1.out.thru0 hb).frozen 2
    simp only [List.getElem?_toArray, List.getElem?_cons_zero, List.getElem?_cons_succ] at k2
    have HOW := Lib.hid (HO.out.1.below hb)
    have HBB := Lib.hid hb
    have HPL := Lib.hid hpl
    have HLB := Lib.hid (be_length k n)
    clear hlt hpl hrb hb
    generalize be k n = M at *
    obtain rfl : M.length = k := HLB.out
    have HRM : Hid (Reads w1 w1.heap.size 1 A M.length (elB.encs M)) := Lib.hid (by rw [bv_encs]; exact HRB.out)
    clear HLB
    have HY1 := Lib.hid (H1.out.thru0 HBB.out)
    go_wp2_with ((at_builtin; refine wpList_eappr2 (e2 := 5) elB_ok rfl _ _ 22 22 rfl (by kernel_rfl) (by kernel_rfl) v s.L M A c rfl rfl HOW.out HRM.out (by have := HR.out; simp only [maxLen]; omega) (by have := HR.out; have : elB.by_ = 1 := rfl; rw [this]; omega) ?_; intro v' w' hA; obtain ⟨A9, c9, hv9, _, _⟩ := hA.1.slice; generalize (s.L ++ M).length = n9 at hv9; subst hv9; have c29 := (eapp_keep hA HOW.out HY1.out (by decide)).cell 2; have f29 := (eapp_keep hA HOW.out HY1.out (by decide)).frozen 2; simp only [List.getElem?_toArray, List.getElem?_cons_zero, List.getElem?_cons_succ] at c29; have HA := Lib.hid hA; clear hA))
    go_end0
    rw [HPL.out]
    exact HE.out w1 v _ _ M HBB.out HA.out
  · have hpl : putL n k = [] := by unfold putL; rw [if_neg (by omega)]
    have k2 := (H1.out.thru0 hb).cell 2
    have f2 := (H1.out.thru0 hb).frozen 2
    simp only [List.getElem?_toArray, List.getElem?_cons_zero, List.getElem?_cons_succ] at k2
    have HOW := Lib.hid (HO.out.1.below hb)
    have HBB := Lib.hid hb
    have HPL := Lib.hid hpl
    have HRM : Hid (Reads w1 w1.heap.size 1 none 0 (elB.encs [])) := Lib.hid Reads.none_
    have HY1 := Lib.hid (H1.out.thru0 HBB.out)
    clear hge hpl hb
    go_wp2_with ((at_builtin; refine wpList_eappr2 (e2 := 5) elB_ok rfl _ _ 22 22 rfl (by kernel_rfl) (by kernel_rfl) v s.L [] none 0 rfl rfl HOW.out HRM.out (by have := HR.out; simp only [maxLen, List.length_nil]; omega) (by have := HR.out; have : elB.by_ = 1 := rfl; rw [this, List.length_nil]; omega) ?_; intro v' w' hA; obtain ⟨A9, c9, hv9, _, _⟩ := hA.1.slice; generalize (s.L ++ []).length = n9 at hv9; subst hv9; have c29 := (eapp_keep hA HOW.out HY1.out (by decide)).cell 2; have f29 := (eapp_keep hA HOW.out HY1.out (by decide)).frozen 2; simp only [List.getElem?_toArray, List.getElem?_cons_zero, List.getElem?_cons_succ] at c29; have HA := Lib.hid hA; clear hA))
    go_end0
    rw [HPL.out]
    exact HE.out w1 v _ _ [] HBB.out HA.out
theorem bv_take (l : Bs) (k : Nat) : bv (l.take k) = (bv l).take k := by simp [bv]
theorem bv_drop (l : Bs) (k : Nat) : bv (l.drop k) = (bv l).drop k := by simp [bv]
theorem reads_take {w : World} {B k n : Nat} {A : Option Addr} {xs : List Value} (h : Reads w B 1 A n xs) (hk : k ≤ n) : Reads w B 1 A k (xs.take k) := by
  refine ⟨by rw [List.length_take, h.1]; omega, fun h0 => ?_⟩
  obtain ⟨ad, e, hb, hc⟩ := h.2 (by omega)
  refine ⟨ad, e, hb, fun j u hu => hc j u ?_⟩
  rw [List.getElem?_take] at hu
  split at hu
  · exact hu
  · cases hu
/-- The first k bytes of those that are still to be read. -/
def CutP (B : Nat) (w0 : World) (y : Nat) (s : Wk) (k : Nat) (w : World) (e : Ending) (w' : World) : Prop :=
  ∃ A c, e = .returned (.slice A k c) ∧ k ≤ c ∧ c ≤ maxLen ∧ Reads w B 1 A k (bv (s.L.take k)) ∧ WS B w0 y { s with L := s.L.drop k } w' ∧ ∃ v, w' = w.setCell ⟨y, 2, none⟩ v
set_option maxHeartbeats 2000000 in
theorem cut_any {B : Nat} {w0 : World} {y : Nat} {s : Wk} (w : World) (k : Nat) (hd : s.does = 2) (h : WS B w0 y s w) (hk : k ≤ s.L.length) :
    Calls Try.prog 40 #[ptrW y, .int .i64 (k : Int)] w fun e w' => CutP B w0 y s k w e w' := by
  obtain ⟨v, h1, h2⟩ := h.st
  obtain ⟨A, c, rfl, hlc, hcm, hrd⟩ : ∃ A c, v = .slice A s.L.length c ∧ s.L.length ≤ c ∧ c ≤ maxLen ∧ Reads w B 1 A s.L.length (bv s.L) := by
    rcases h2 with ⟨h2, _⟩ | ⟨h2, _⟩ | ⟨_, h2⟩
    · omega
    · omega
    · exact h2
  have k2 := h1.cell 2
  have f2 := h1.frozen 2
  simp only [List.getElem?_toArray, List.getElem?_cons_zero, List.getElem?_cons_succ] at k2
  have H1 := Lib.hid h1
  have HW := Lib.hid h
  have HD := Lib.hid hd
  have HRD := Lib.hid hrd
  unfold maxLen at hcm
  clear h1 h2 h hd hrd
  have HC := Lib.hid hcm
  have HE : ∀ (A2 : Option Addr) (m : Nat), m = s.L.length - k → A2 = (if c = k then A else A.map (·.add (k * 1))) → CutP B w0 y s k w (.returned (.slice A k c)) (w.setCell ⟨y, 2, none⟩ (.slice A2 m (c - k))) := by
    intro A2 m hm hA2
    refine ⟨A, c, rfl, by omega, HC.out, by rw [bv_take]; exact reads_take HRD.out hk, ⟨HW.out.hy, HW.out.h0, below_setc HW.out.bel HW.out.hy 2 _, .slice A2 m (c - k), ?_, ?_⟩, _, rfl⟩
    · have := H1.out.set_ 2 (.slice A2 m (c - k))
      simpa using this
    · have hl : (s.L.drop k).length = m := by rw [List.length_drop]; omega
      have hr : WRow B w { s with L := s.L.drop k } (.slice A2 m (c - k)) := by
        refine .inr (.inr ⟨HD.out, A2, c - k, ?_, ?_, ?_, ?_⟩)
        · simp only [hl]
        · simp only [hl]; omega
        · have := HC.out; simp only [maxLen] at *; omega
        · simp only [hl, hA2, hm, bv_drop]
          have := HRD.out.cut hk hlc
          simpa using this
      exact hr.setC rfl rfl H1.out (by decide) HW.out.hy _
  have HE := Lib.hid HE
  by_cases hck : c = k
  · have hlk : s.L.length = k := by omega
    have HLK := Lib.hid hlk
    have HCK := Lib.hid hck
    subst hck
    rw [hlk] at k2
    clear hlk hlc
    go_enter Try.func40, Try.ntmps40
    go_wp2_with fail
    go_ret
    have := HE.out A 0 (by have := HLK.out; omega) (by simp)
    simpa using this
  · have hck2 : k < c := by omega
    go_enter Try.func40, Try.ntmps40
    go_wp2_with fail
    go_ret
    have := HE.out (A.map (·.add k)) (s.L.length - k) rfl (by rw [if_neg hck]; simp)
    simpa using this
end Go.Proofs.Ythlmldbgohnpnaa
