/- wire: text, by contract. -/
import Derived.Test.YthlmldbgohnpnaaWr4
import Derived.Lib.AppendStr
import Derived.Deep.RegionLaw
namespace Go.Proofs.Ythlmldbgohnpnaa
set_option linter.unusedVariables false
set_option linter.unusedSimpArgs false
open Go.RowKit
/-- What an append of bytes leaves. -/
def EAppB (B : Nat) (v : Value) (L : Bs) (w : World) (v' : Value) (w' : World) : Prop := EOwn elB w' v' L ∧ w.grownBy w' v.ownBlock ∧ ∀ g, v'.ownBlock = some g → B ≤ g
theorem ownB {B : Nat} {w : World} {v : Value} {L : Bs} (h : EOwn elB w v L) (hf : ∀ i, v.ownBlock = some i → B ≤ i) : w.ownsRow B 5 1 v L.length (bv L) := by
  rw [← bv_encs]
  rcases h with ⟨rfl, rfl⟩ | ⟨g, cap, rfl, cur, h1, h2, h3, h4, h5⟩
  · exact World.ownsRow_nil _ _ _ _
  · exact ⟨El.encs_length elB_ok L, .inr ⟨g, cap, cur, rfl, hf g rfl, h1, h3, h4, h2, h5⟩⟩
theorem strCells_bs (M : Bs) : Lib.strCells (bs M) = bv M := rfl
theorem run_estr {B : Nat} {w : World} {t u ty : TypeId} (ht : Try.prog.underlying t = some (.slice 5)) (hu : Try.prog.underlying u = some .string) {v : Value} {L M : Bs} (h : EOwn elB w v L) (hf : ∀ i, v.ownBlock = some i → B ≤ i) (hB : B ≤ w.heap.size) (hl : L.length + M.length ≤ 1000000) :
    ∃ v' w', (Builtin.append_ #[t, u] ty #[v, .string (bs M)]).run Try.prog w = .ok v' w' ∧ EAppB B v (L ++ M) w v' w' := by
  obtain ⟨i0, hi, hz, hsz, hby⟩ := info_parts elB_ok.info
  have hM : (bs M).size = M.length := bs_size M
  obtain ⟨v', w', hr, ho, hg, _⟩ := Lib.run_append_own_string (P := Try.prog) w B t u ty 5 i0 ht hu hi hz hsz hby v L.length (bv L) (ownB h hf) (bs M) (by rw [hM]; simp only [maxLen]; omega) (by rw [hM]; omega) hB
  rw [hM, strCells_bs, ← bv_append, ← bv_encs] at ho
  refine ⟨v', w', hr, ?_, hg, fun g e => ?_⟩
  · rcases ho.2 with ⟨h1, h2⟩ | ⟨g, cap, cur, hv, _, h1, h3, h4, h2, h5⟩
    · exact .inl ⟨h1, List.eq_nil_of_length_eq_zero (by simp; simp at h2; exact h2)⟩
    · exact .inr ⟨g, cap, by rw [List.length_append]; exact hv, cur, h1, h2, by rw [List.length_append]; exact h3, h4, by rw [List.length_append]; exact h5⟩
  · rcases ho.2 with ⟨h1, h2⟩ | ⟨g', cap, cur, hv, hb, _⟩
    · rw [h1] at e; simp [Value.ownBlock] at e
    · rw [hv] at e; simp [Value.ownBlock] at e; omega
theorem step_estr {B : Nat} {w : World} {ops : Array Oper} {o : Oper} {a : Act} {K : Act → World → Prop} {Q : Exit → Act → World → Prop} {F : Prop} (hgd : o.guard = none) (s x : Operand) (t u : TypeId)
    (ho : o.op = .call { callee := .builtin .append, args := #[s, x], argTypes := #[t, u] }) (ht : Try.prog.underlying t = some (.slice 5)) (hu : Try.prog.underlying u = some .string) (v : Value) (L M : Bs) (hs : a.eval s = v) (hx : a.eval x = .string (bs M))
    (h : EOwn elB w v L) (hf : ∀ i, v.ownBlock = some i → B ≤ i) (hB : B ≤ w.heap.size) (hl : L.length + M.length ≤ 1000000)
    (hK : ∀ v' w', EAppB B v (L ++ M) w v' w' → K (a.put o.dst v') w') : if Region.wanted o (yielded ops a.tmps) = true then Oper.wp Try.prog o a w K Q else F := by
  have hw : Region.wanted o (yielded ops a.tmps) = true := by simp [Region.wanted, hgd]
  rw [if_pos hw]
  obtain ⟨v', w', hrun, hA⟩ := run_estr (ty := o.type) ht hu h hf hB hl
  unfold Oper.wp execOp
  simp only [ho, resolve, invoke, builtin, Sem.run_bind, Sem.run_pure, Result.andThen_ok, List.map_toArray, List.map_cons, List.map_nil, hs, hx, hrun]
  exact hK _ _ hA
theorem eappB_keep {B : Nat} {w w' : World} {v v' : Value} {L M : Bs} {k : Nat} {t : TypeId} {cs : Array Value} (hA : EAppB B v M w v' w') (h0 : EOwn elB w v L) (hk : Blk w k t cs) (hkt : t ≠ 5) : Blk w' k t cs := by
  refine hk.grown hA.2.1 (fun e => ?_)
  rcases h0 with ⟨rfl, _⟩ | ⟨g', cap, rfl, cur, hb, _⟩
  · simp [Value.ownBlock] at e
  · simp [Value.ownBlock] at e
    subst e
    exact Blk.ne_ hb hk (Ne.symm hkt) rfl
theorem conv_reads {w : World} {B n c : Nat} {A : Option Addr} {l : Bs} (h : Reads w B 1 A n (bv l)) (src dst : TypeId) (hs : Try.prog.underlying src = some (.slice 5)) (hd : Try.prog.underlying dst = some .string) : (convert src dst (.slice A n c)).run Try.prog w = .ok (.string (bs l)) w := by
  have he : Try.prog.underlying 5 = some (.int .u8) := by kernel_rfl
  have hl : l.length = n := by have := h.1; simpa [bv_length] using this
  cases A with
  | none =>
    have hn : n = 0 := by
      rcases Nat.eq_zero_or_pos n with h0 | h0
      · exact h0
      · obtain ⟨ad, e, _⟩ := h.2 h0; cases e
    subst hn
    have hl0 : l = [] := List.eq_nil_of_length_eq_zero hl
    subst hl0
    rw [run_convert_bytes_nil w src _ hs he 0 c dst hd]; rfl
  | some ad =>
    subst hl
    refine run_convert_bytes_back w src dst _ ad c l hs he hd fun j hj => ?_
    obtain ⟨ad', e1, _, hc⟩ := h.2 (by omega)
    cases e1
    exact hc j _ (by simp [bv, List.getElem?_eq_getElem hj])
def Wk.txt (s : Wk) (t : Bs) : Wk := if s.does = 0 then s else if s.does = 1 then { s with L := s.L ++ t.take 512 } else { s with L := [] }
def Wk.txtC (s : Wk) (t : Bs) : Bs := if s.does = 2 then s.L else t
theorem bs_take (t : Bs) (m : Nat) : (bs t).extract 0 m = bs (t.take m) := by
  apply ByteArray.ext
  simp [bs, List.extract_eq_take_drop]
set_option maxHeartbeats 4000000 in
theorem text_count {B : Nat} {w0 : World} {y q : Nat} {s : Wk} {tq : TypeId} {cq : Array Value} (w : World) (o : Nat) (t : Bs) (hd : s.does = 0) (h : WS B w0 y s w) (hq : Blk w q tq cq) (ho : cq[o]? = some (.string (bs t))) :
    Calls Try.prog 33 #[ptrW y, .pointer (some ⟨q, o, none⟩)] w fun e w' => WEnd B w0 y q tq (s.txt t) (cq.setIfInBounds o (.string (bs (s.txtC t)))) w e w' := by
  have e1 : s.txt t = s := by unfold Wk.txt; rw [if_pos hd]
  have e2 : s.txtC t = t := by unfold Wk.txtC; rw [if_neg (by omega)]
  rw [e1, e2, set_same ho]
  obtain ⟨v, h1, h2⟩ := id h.st
  have k0 := h1.cell 0
  simp only [List.getElem?_toArray, List.getElem?_cons_zero, List.getElem?_cons_succ, hd] at k0
  have HD := Lib.hid (WDone.refl h hq)
  clear e1 e2 ho hd h hq h1 h2
  go_enter Try.func33, Try.ntmps33
  go_wp2_with fail
  go_end0
  exact ⟨rfl, HD.out⟩
set_option maxHeartbeats 4000000 in
theorem text_read {B : Nat} {w0 : World} {y q : Nat} {s : Wk} {tq : TypeId} {cq : Array Value} (w : World) (o : Nat) (t : Bs) (hd : s.does = 2) (h : WS B w0 y s w) (hq : Blk w q tq cq) (hqB : B ≤ q) (ht : tq ≠ 48) (ht2 : tq ≠ 5) (ho : cq[o]? = some (.string (bs t))) :
    Calls Try.prog 33 #[ptrW y, .pointer (some ⟨q, o, none⟩)] w fun e w' => WEnd B w0 y q tq (s.txt t) (cq.setIfInBounds o (.string (bs (s.txtC t)))) w e w' := by
  have e1 : s.txt t = { s with L := [] } := by unfold Wk.txt; rw [if_neg (by omega), if_neg (by omega)]
  have e2 : s.txtC t = s.L := by unfold Wk.txtC; rw [if_pos hd]
  rw [e1, e2]
  obtain ⟨v, h1, h2⟩ := id h.st
  obtain ⟨A, c, rfl, hlc, hcm, hrd⟩ : ∃ A c, v = .slice A s.L.length c ∧ s.L.length ≤ c ∧ c ≤ maxLen ∧ Reads w B 1 A s.L.length (bv s.L) := by
    rcases h2 with ⟨h2, _⟩ | ⟨h2, _⟩ | ⟨_, h2⟩
    · omega
    · omega
    · exact h2
  have k0 := h1.cell 0
  have k2 := h1.cell 2
  simp only [List.getElem?_toArray, List.getElem?_cons_zero, List.getElem?_cons_succ, hd] at k0 k2
  have hqy := h.ne hq ht
  have HCT := Lib.hid (cut_any w s.L.length hd h (Nat.le_refl _))
  have kq : ∀ v, (w.setCell ⟨y, 2, none⟩ v).cell? ⟨q, o, none⟩ = some (.string (bs t)) := fun v => by rw [(hq.far (p := ⟨y, 2, none⟩) hqy v).cell, ho]
  have fq : ∀ v, (w.setCell ⟨y, 2, none⟩ v).frozen? ⟨q, o, none⟩ = false := fun v => (hq.far (p := ⟨y, 2, none⟩) hqy v).frozen o
  have KQ := Lib.hid kq
  have FQ := Lib.hid fq
  have HW := Lib.hid h
  have HQ := Lib.hid hq
  have HT := Lib.hid ht
  have HT2 := Lib.hid ht2
  have HQY := Lib.hid hqy
  have HDR : Hid (s.L.drop s.L.length = [] ∧ s.L.take s.L.length = s.L) := Lib.hid ⟨by simp, by simp⟩
  clear e1 e2 ho h1 h2 h hd hq ht ht2 kq fq hqy hrd hcm hlc
  generalize s.L.length = n at *
  go_enter Try.func33, Try.ntmps33
  go_wp2_with fail
  refine HCT.out.mono ?_
  rintro e w1 ⟨A1, c1, rfl, hkc, hcm, hrd, hws, v1, hw1⟩
  rw [HDR.out.1] at hws
  rw [HDR.out.2] at hrd
  have hrd1 : Reads w1 B 1 A1 n (bv s.L) := by subst hw1; exact hrd.setCell (p := ⟨y, 2, none⟩) HW.out.hy v1
  have HCV := conv_reads (c := c1) hrd1 22 9 (by kernel_rfl) (by kernel_rfl)
  have HDN : Hid (WDone B w0 y q tq { s with L := [] } cq w w1) := Lib.hid ⟨hws, by subst hw1; exact HQ.out.far (p := ⟨y, 2, none⟩) HQY.out v1, by subst hw1; exact WF.setY _ _ _⟩
  have KQ1 := KQ.out v1
  have FQ1 := FQ.out v1
  rw [← hw1] at KQ1 FQ1
  clear hws hrd hw1 hkc hcm hrd1 HDR
  go_wp2_with fail
  go_end0
  exact ⟨rfl, HDN.out.setQ hqB HT.out HT2.out o _⟩
end Go.Proofs.Ythlmldbgohnpnaa
