/- wire: Decode, by contract. -/
import Derived.Test.YthlmldbgohnpnaaWrD
namespace Go.Proofs.Ythlmldbgohnpnaa
set_option linter.unusedVariables false
set_option linter.unusedSimpArgs false
open Go.RowKit
/-- The request of bytes: an error, and it. -/
def decR (L : Bs) : Int × Rq :=
  if L.length < 13 then (50, Rq.z) else
  if ¬ (1 ≤ (hdR L).op ∧ (hdR L).op ≤ 19) then (51, Rq.z) else
  if 64 < (hdR L).m then (33, Rq.z) else
  if enoughN (hdR L).op.toNat (L.length - 13) ≠ 0 then (enoughN (hdR L).op.toNat (L.length - 13), Rq.z) else
  if badR (hdR L).op.toNat (fdR (hdR L).op.toNat (L.drop 13) (hdR L)) = true then (33, Rq.z) else (0, fdR (hdR L).op.toNat (L.drop 13) (hdR L))
def DecP (L : Bs) (w : World) (e : Ending) (w' : World) : Prop := e = .returned (.tuple #[.agg (decR L).2.cs, .int .i64 (decR L).1]) ∧ Below w.heap.size w w'
theorem hdR_op (L : Bs) (h : 13 ≤ L.length) : ∃ c : UInt8, (hdR L).op = (c.toNat : Int) := by
  cases L with
  | nil => simp at h
  | cons c L => exact ⟨c, by simp [hdR, gN, getB, getF]⟩
structure DecE (w : World) (x : Int × Rq) (w' : World) : Prop where
  p : Blk w' w.heap.size TQ Rq.z.cs
  b : Below w.heap.size w w'
theorem Go1.keep {B : Nat} {w0 w wr w2 : World} {y q m : Nat} {x : Wk × Array Value} (h : Go1 B w0 y q x m w wr) (hb : Below wr.heap.size wr w2) : Go1 B w0 y q x m w w2 := ⟨⟨h.d.ws.below hb, h.d.bq.thru0 hb, h.d.fr.trans (WF.of_below hb)⟩, h.qB, h.rq, h.room, h.does⟩
theorem dec_results {w : World} {q : Nat} {r : Rq} {e : Value} (tmps : Array Value) (h2 : tmps.getD 2 undef = .pointer (some ⟨q, 0, none⟩)) (h3 : tmps.getD 3 undef = e) (hq : Blk w q TQ r.cs) :
    (results Try.f8 tmps).run Try.prog w = .ok (.tuple #[.agg r.cs, e]) w := by
  have hl := run_ldV hq
  unfold ldV at hl
  simp only [results, Try.results8]
  rw [Array.getD_eq_getD_getElem?] at h2 h3
  simp [h2, h3, asAddr, hl]
theorem DecP.mk {L : Bs} {w w' : World} {e : Int} {r : Rq} (h : decR L = (e, r)) (hb : Below w.heap.size w w') : DecP L w (.returned (.tuple #[.agg r.cs, .int .i64 e])) w' := ⟨by rw [h], hb⟩
/-- The result is stored. -/
theorem store_q {w w2 : World} {r r0 : Rq} (hp : Blk w2 w.heap.size TQ r0.cs) (hb : Below w.heap.size w w2) : ∃ w3, (stQ (.pointer (some ⟨w.heap.size, 0, none⟩)) (.agg r.cs)).run Try.prog w2 = .ok () w3 ∧ Blk w3 w.heap.size TQ r.cs ∧ Below w.heap.size w w3 := ⟨_, run_stQ0 hp, hp.setQ, below_sets (Nat.le_refl _) _ _ _ hb⟩
section
attribute [local go_sem ↓] to_ldQ to_stQ
set_option maxRecDepth 100000 in
set_option maxHeartbeats 8000000 in
theorem decode_any (w : World) (A : Option Addr) (n c : Nat) (L : Bs) (hn : n ≤ c) (hc : c ≤ maxLen) (h : RB w A n L) :
    Calls Try.prog 8 #[.slice A n c] w fun e w' => DecP L w e w' := by
  have hlen := h.len
  subst hlen
  have hcm := hc
  unfold maxLen at hcm
  by_cases h13 : L.length < 13
  · have HDR := Lib.hid (show decR L = (50, Rq.z) by unfold decR; rw [if_pos h13])
    have hst : (stQ (.pointer (some ⟨w.heap.size, 0, none⟩)) (.agg #[.int .i64 0, .int .i64 0, .int .i64 0, .int .u64 0, .int .i64 0, .int .i64 0, .int .i64 0, .int .i64 0, .int .i64 0, .string ⟨#[]⟩, .int .i64 0, .int .i64 0, .int .i64 0, .int .i64 0, .int .i64 0, .int .i64 0, .int .i64 0, .int .u64 0, .int .i64 0, .int .u64 0, .int .i64 0, .int .i64 0, .int .i64 0, .int .i64 0])).run Try.prog (w.alloc (.cells #[.int .i64 0, .int .i64 0, .int .i64 0, .int .u64 0, .int .i64 0, .int .i64 0, .int .i64 0, .int .i64 0, .int .i64 0, .string ⟨#[]⟩, .int .i64 0, .int .i64 0, .int .i64 0, .int .i64 0, .int .i64 0, .int .i64 0, .int .i64 0, .int .u64 0, .int .i64 0, .int .u64 0, .int .i64 0, .int .i64 0, .int .i64 0, .int .i64 0] TQ)) = .ok () (w.alloc (.cells Rq.z.cs TQ)) := run_stQ (r := Rq.z) (r0 := Rq.z)
    have HLD := Lib.hid (Blk.new w TQ Rq.z.cs)
    clear h hn hc
    go_enter Try.func8, Try.ntmps8
    go_wp2_with fail
    exact bodyPost_ret (v := .tuple #[.agg Rq.z.cs, .int .i64 50]) (dec_results _ rfl rfl HLD.out) rfl (DecP.mk HDR.out ((Below.refl _ _).alloc (Nat.le_refl _) _))
  · have HD0 : Hid (decR L = _) := Lib.hid (by unfold decR; rw [if_neg h13])
    have HLL := Lib.hid (show 13 ≤ L.length by omega)
    have HNC := Lib.hid hn
    have h13' : ¬ (L.length : Int) < 13 := by omega
    have hb3 := blk_three w TQ TQ 48 Rq.z.cs Rq.z.cs #[.int .i64 2, .int .i64 0, .slice A L.length c, .bool false]
    have HB0 : Hid (Below w.heap.size w (((w.alloc (.cells Rq.z.cs TQ)).alloc (.cells Rq.z.cs TQ)).alloc (.cells #[.int .i64 2, .int .i64 0, .slice A L.length c, .bool false] 48))) := Lib.hid ((((Below.refl _ _).alloc (Nat.le_refl _) _).alloc (by simp) _).alloc (by simp; omega) _)
    have HG := Lib.hid (start (m := 13 + (L.length - 13)) (L := L) (d := 2) (v := .slice A L.length c) Rq.z_ok (by decide) HB0.out (Nat.le_refl _) (by omega) (by omega) hb3.2.2 hb3.2.1 (.inr (.inr ⟨rfl, A, c, rfl, hn, hc, Reads.below h HB0.out⟩)) (.inr (.inr ⟨rfl, by show 13 + _ ≤ L.length; omega⟩)))
    have HP := Lib.hid hb3.1
    have HC := Lib.hid (head_any HG.out)
    rw [head_read] at HC
    obtain ⟨c0, hc0⟩ := hdR_op L (by omega)
    have HOP := Lib.hid hc0
    have hcl := c0.toNat_lt
    have HCL := Lib.hid (show c0.toNat ≤ 255 by omega)
    have HTN := Lib.hid (show (hdR L).op.toNat = c0.toNat by rw [hc0]; simp)
    have HPI := Lib.hid HP.out
    clear h hn hc hb3 HB0 h13 hc0 hcl HG
    go_enter Try.func8, Try.ntmps8
    go_wp2_with fail
    refine HC.out.mono ?_
    rintro e w1 ⟨rfl, hg⟩
    have HG1 := Lib.hid hg
    have HP1 := Lib.hid (hg.d.fr.blk _ _ _ HP.out (by decide) (by omega) (by omega))
    obtain ⟨v1, hy1, hrow1⟩ := hg.d.ws.st
    obtain ⟨A1, c1, rfl, hc1, hm1, hrd1⟩ : ∃ A1 c1, v1 = .slice A1 (L.drop 13).length c1 ∧ (L.drop 13).length ≤ c1 ∧ c1 ≤ maxLen ∧ Reads w1 w.heap.size 1 A1 (L.drop 13).length (bv (L.drop 13)) := by
      rcases hrow1 with ⟨h2, _⟩ | ⟨h2, _⟩ | ⟨_, h2⟩
      · cases h2
      · cases h2
      · exact h2
    rw [List.length_drop] at hy1 hc1
    have HY1 := Lib.hid hy1
    have q1 := hg.d.bq.cell 0
    rw [show (hdR L).cs[0]? = some (.int .i64 (hdR L).op) from rfl, HOP.out] at q1
    have HND := Lib.hid (needs_any (c0.toNat : Int) (by have := HCL.out; unfold i64ok; omega) w1)
    clear hg hy1 hrow1 hrd1 hc1 hm1 HC HP
    go_wp2_with fail
    refine HND.out.mono ?_
    rintro e w2 ⟨rfl, hb2⟩
    have HG2 := Lib.hid (Go1.keep HG1.out hb2)
    have HP2 := Lib.hid (HP1.out.thru0 hb2)
    have HY2 := Lib.hid (HY1.out.thru0 hb2)
    clear hb2 HND HG1 HP1 HY1
    clear q1
    by_cases hop : 1 ≤ c0.toNat ∧ c0.toNat ≤ 19
    · have HO2 := Lib.hid hop
      have hnn : needN (c0.toNat : Int) = (fieldsN c0.toNat : Int) := by unfold needN; rw [if_pos (by omega), Int.toNat_natCast]
      have HD1 : Hid (decR L = _) := Lib.hid (by rw [HD0.out, if_neg (by rw [HOP.out]; omega), HTN.out])
      rw [hnn]
      have hf0 : ¬ ((fieldsN c0.toNat : Int) < 0) := by omega
      clear hnn hop HD0
      have kb := HY2.out.cell 3
      have kv := HY2.out.cell 2
      have kq := HG2.out.d.bq.cell 0
      simp only [List.getElem?_toArray, List.getElem?_cons_zero, List.getElem?_cons_succ] at kb kv
      rw [show (hdR L).cs[0]? = some (.int .i64 (hdR L).op) from rfl, HOP.out] at kq
      by_cases hm : 64 < (hdR L).m
      · have HDR := Lib.hid (show decR L = (33, Rq.z) by rw [HD1.out, if_pos hm])
        rw [decide_eq_true hm] at kb
        clear hm
        obtain ⟨w3, hst, hp3, hb3⟩ : ∃ w3, (stQ (.pointer (some ⟨w.heap.size, 0, none⟩)) (.agg #[.int .i64 0, .int .i64 0, .int .i64 0, .int .u64 0, .int .i64 0, .int .i64 0, .int .i64 0, .int .i64 0, .int .i64 0, .string ⟨#[]⟩, .int .i64 0, .int .i64 0, .int .i64 0, .int .i64 0, .int .i64 0, .int .i64 0, .int .i64 0, .int .u64 0, .int .i64 0, .int .u64 0, .int .i64 0, .int .i64 0, .int .i64 0, .int .i64 0])).run Try.prog w2 = .ok () w3 ∧ Blk w3 w.heap.size TQ Rq.z.cs ∧ Below w.heap.size w w3 := store_q (r := Rq.z) HP2.out HG2.out.d.ws.bel
        have HP3 := Lib.hid hp3
        have HB3 := Lib.hid hb3
        clear hp3 hb3
        go_wp2_with fail
        exact bodyPost_ret (v := .tuple #[.agg Rq.z.cs, .int .i64 33]) (dec_results _ rfl rfl HP3.out) rfl (DecP.mk HDR.out HB3.out)
      · have HD2 : Hid (decR L = _) := Lib.hid (by rw [HD1.out, if_neg hm])
        rw [decide_eq_false hm] at kb HG2 HY2
        clear hm HD1
        have HEN := Lib.hid (enough_any c0.toNat HO2.out.1 HO2.out.2 (L.length - 13) (by have := HNC.out; unfold maxLen; omega) w2)
        go_wp2_with fail
        refine HEN.out.mono ?_
        rintro e w4 ⟨rfl, hb4⟩
        have HG4 := Lib.hid (Go1.keep HG2.out hb4)
        have HP4 := Lib.hid (HP2.out.thru0 hb4)
        clear hb4 HEN HG2 HP2 HY2 kb kv kq
        by_cases he : enoughN c0.toNat (L.length - 13) = 0
        · have hen : (enoughN c0.toNat (L.length - 13) != 0) = false := by rw [he]; rfl
          have HD3 : Hid (decR L = _) := Lib.hid (by rw [HD2.out, if_neg (not_not_intro he)])
          have HRM : Hid (fieldsN c0.toNat ≤ L.length - 13) := Lib.hid (by
            unfold enoughN at he
            by_cases h9 : L.length - 13 < fieldsN c0.toNat
            · rw [if_pos h9] at he; cases he
            · omega)
          clear he HD2
          have HG5 := Lib.hid (show Go1 _ _ _ _ _ (fieldsN c0.toNat + 0) _ _ from ⟨HG4.out.d, HG4.out.qB, HG4.out.rq, HG4.out.room.less HRM.out, HG4.out.does⟩)
          have HC5 := Lib.hid (fields_any c0.toNat HO2.out.1 HO2.out.2 HG5.out (by rw [← HOP.out]; rfl))
          rw [fields_read c0.toNat HO2.out.1 HO2.out.2] at HC5
          clear HG5
          go_wp2_with fail
          refine HC5.out.mono ?_
          rintro e w5 ⟨rfl, hd⟩
          have hpp := hd.fr.blk _ _ _ HPI.out (by decide) (by omega) (by omega)
          obtain ⟨v5, hy5, _⟩ := hd.ws.st
          have kb := hy5.cell 3
          simp only [List.getElem?_toArray, List.getElem?_cons_zero, List.getElem?_cons_succ] at kb
          have HBQ := Lib.hid hd.bq
          have HPP := Lib.hid hpp
          have HBL := Lib.hid hd.ws.bel
          clear hd hy5 hpp HC5
          by_cases hbd : badR c0.toNat (fdR c0.toNat (L.drop 13) (hdR L)) = true
          · have HDR := Lib.hid (show decR L = (33, Rq.z) by rw [HD3.out, if_pos hbd])
            simp only [hbd] at kb
            clear hbd
            obtain ⟨w3, hst, hp3, hb3⟩ : ∃ w3, (stQ (.pointer (some ⟨w.heap.size, 0, none⟩)) (.agg #[.int .i64 0, .int .i64 0, .int .i64 0, .int .u64 0, .int .i64 0, .int .i64 0, .int .i64 0, .int .i64 0, .int .i64 0, .string ⟨#[]⟩, .int .i64 0, .int .i64 0, .int .i64 0, .int .i64 0, .int .i64 0, .int .i64 0, .int .i64 0, .int .u64 0, .int .i64 0, .int .u64 0, .int .i64 0, .int .i64 0, .int .i64 0, .int .i64 0])).run Try.prog w5 = .ok () w3 ∧ Blk w3 w.heap.size TQ Rq.z.cs ∧ Below w.heap.size w w3 := store_q (r := Rq.z) HPP.out HBL.out
            have HP3 := Lib.hid hp3
            have HB3 := Lib.hid hb3
            clear hp3 hb3
            go_wp2_with fail
            exact bodyPost_ret (v := .tuple #[.agg Rq.z.cs, .int .i64 33]) (dec_results _ rfl rfl HP3.out) rfl (DecP.mk HDR.out HB3.out)
          · have HDR := Lib.hid (show decR L = (0, fdR c0.toNat (L.drop 13) (hdR L)) by rw [HD3.out, if_neg hbd])
            simp only [hbd] at kb
            clear hbd
            generalize fdR c0.toNat (L.drop 13) (hdR L) = r at *
            have hld := run_ldQ HBQ.out
            obtain ⟨w3, hst, hp3, hb3⟩ := store_q (r := r) HPP.out HBL.out
            have HP3 := Lib.hid hp3
            have HB3 := Lib.hid hb3
            clear hp3 hb3
            go_wp2_with fail
            exact bodyPost_ret (v := .tuple #[.agg r.cs, .int .i64 0]) (dec_results _ rfl rfl HP3.out) rfl (DecP.mk HDR.out HB3.out)
        · have hen : (enoughN c0.toNat (L.length - 13) != 0) = true := by simpa using he
          have HDR := Lib.hid (show decR L = (enoughN c0.toNat (L.length - 13), Rq.z) by rw [HD2.out, if_pos he])
          clear he HD2
          obtain ⟨w3, hst, hp3, hb3⟩ : ∃ w3, (stQ (.pointer (some ⟨w.heap.size, 0, none⟩)) (.agg #[.int .i64 0, .int .i64 0, .int .i64 0, .int .u64 0, .int .i64 0, .int .i64 0, .int .i64 0, .int .i64 0, .int .i64 0, .string ⟨#[]⟩, .int .i64 0, .int .i64 0, .int .i64 0, .int .i64 0, .int .i64 0, .int .i64 0, .int .i64 0, .int .u64 0, .int .i64 0, .int .u64 0, .int .i64 0, .int .i64 0, .int .i64 0, .int .i64 0])).run Try.prog w4 = .ok () w3 ∧ Blk w3 w.heap.size TQ Rq.z.cs ∧ Below w.heap.size w w3 := store_q (r := Rq.z) HP4.out HG4.out.d.ws.bel
          have HP3 := Lib.hid hp3
          have HB3 := Lib.hid hb3
          clear hp3 hb3
          go_wp2_with fail
          exact bodyPost_ret (v := .tuple #[.agg Rq.z.cs, .int .i64 (enoughN c0.toNat (L.length - 13))]) (dec_results _ rfl rfl HP3.out) rfl (DecP.mk HDR.out HB3.out)
    · have hnn : needN (c0.toNat : Int) = -1 := by unfold needN; rw [if_neg (by omega)]
      have HDR := Lib.hid (show decR L = (51, Rq.z) by rw [HD0.out, if_pos (by rw [HOP.out]; omega)])
      rw [hnn]
      clear hnn hop
      obtain ⟨w3, hst, hp3, hb3⟩ : ∃ w3, (stQ (.pointer (some ⟨w.heap.size, 0, none⟩)) (.agg #[.int .i64 0, .int .i64 0, .int .i64 0, .int .u64 0, .int .i64 0, .int .i64 0, .int .i64 0, .int .i64 0, .int .i64 0, .string ⟨#[]⟩, .int .i64 0, .int .i64 0, .int .i64 0, .int .i64 0, .int .i64 0, .int .i64 0, .int .i64 0, .int .u64 0, .int .i64 0, .int .u64 0, .int .i64 0, .int .i64 0, .int .i64 0, .int .i64 0])).run Try.prog w2 = .ok () w3 ∧ Blk w3 w.heap.size TQ Rq.z.cs ∧ Below w.heap.size w w3 := store_q (r := Rq.z) HP2.out HG2.out.d.ws.bel
      have HP3 := Lib.hid hp3
      have HB3 := Lib.hid hb3
      clear hp3 hb3
      go_wp2_with fail
      exact bodyPost_ret (v := .tuple #[.agg Rq.z.cs, .int .i64 51]) (dec_results _ rfl rfl HP3.out) rfl (DecP.mk HDR.out HB3.out)
end
end Go.Proofs.Ythlmldbgohnpnaa
