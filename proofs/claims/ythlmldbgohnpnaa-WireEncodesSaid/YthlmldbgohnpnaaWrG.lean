/- wire: Encode and Right, by contract. -/
import Derived.Test.YthlmldbgohnpnaaWrF
namespace Go.Proofs.Ythlmldbgohnpnaa
set_option linter.unusedVariables false
set_option linter.unusedSimpArgs false
open Go.RowKit
def wrR (r : Rq) : Bs := hdW r ++ fdW r.op.toNat r
/-- Is it read as it was? -/
def wrOk (r : Rq) : Bool := decide ((decR (wrR r)).1 = 0) && eqQ (decR (wrR r)).2 r
/-- A request's bytes: an error, and they. -/
def encR (r : Rq) : Int × Bs := if ¬ (1 ≤ r.op ∧ r.op ≤ 19) then (51, []) else if wrOk r = true then (0, wrR r) else (1, [])
def EncP (r : Rq) (w : World) (e : Ending) (w' : World) : Prop := ∃ v, e = .returned (.tuple #[v, .int .i64 (encR r).1]) ∧ EOwn elB w' v (encR r).2 ∧ (∀ i, v.ownBlock = some i → w.heap.size ≤ i) ∧ Below w.heap.size w w'
theorem EncP.none_ {r : Rq} {w w' : World} {e : Int} (h : encR r = (e, [])) (hb : Below w.heap.size w w') : EncP r w (.returned (.tuple #[.slice none 0 0, .int .i64 e])) w' := ⟨_, by rw [h], by rw [h]; exact EOwn.nil_ _, fun i hi => by simp [Value.ownBlock] at hi, hb⟩
theorem EncP.some_ {r : Rq} {w w' : World} {v : Value} (h : encR r = (0, wrR r)) (ho : EOwn elB w' v (wrR r)) (hf : ∀ i, v.ownBlock = some i → w.heap.size ≤ i) (hb : Below w.heap.size w w') : EncP r w (.returned (.tuple #[v, .int .i64 0])) w' := ⟨_, by rw [h], by rw [h]; exact ho, hf, hb⟩
theorem EOwn.rb {w : World} {A : Option Addr} {c n : Nat} {L : Bs} (h : EOwn elB w (.slice A n c) L) : RB w A n L := by
  obtain ⟨A', c', e, _⟩ := h.slice
  injection e with e1 e2 e3
  subst e2
  have := EOwn.reads elB_ok h
  rw [bv_encs] at this
  exact this
theorem hdW_len (r : Rq) : (hdW r).length ≤ 13 := by
  have h0 := putL_le (toU r.op) 1
  have h1 := putL_le (toU r.ten) 1
  have h2 := putL_le (toU r.usr) 2
  have h3 := putL_le r.sec 8
  have h4 := putL_le (toU r.m) 1
  simp only [hdW, pI, List.length_append]
  omega
theorem fdW_len (k : Nat) (r : Rq) : (fdW k r).length ≤ 512 := by
  have e1 := putL_le (toU r.who) 2
  have e2 := putL_le (toU r.role) 1
  have e3 := putL_le (toU r.tier) 1
  have e4 := putL_le (toU r.quota) 2
  have e5 := putL_le (toU r.rights) 1
  have e6 := putL_le (toU r.til) 4
  have e7 := putL_le (toU r.zoom) 1
  have e8 := putL_le (toU r.x0) 2
  have e9 := putL_le (toU r.y0) 2
  have e10 := putL_le (toU r.x1) 2
  have e11 := putL_le (toU r.y1) 2
  have e12 := putL_le (toU r.k) 2
  have e13 := putL_le (toU r.px) 2
  have e14 := putL_le (toU r.py) 2
  have e15 := putL_le (toU r.lab) 1
  have e16 := putL_le (toU r.fro) 2
  have e17 := putL_le r.oth 8
  have e18 := putL_le r.area 8
  unfold fdW
  split
  all_goals (try simp only [pI, boxW, List.length_append, List.length_take])
  all_goals first | omega | simp
theorem wrR_len (r : Rq) : (wrR r).length ≤ 600 := by
  have h1 := hdW_len r
  have h2 := fdW_len r.op.toNat r
  simp only [wrR, List.length_append]; omega
section
attribute [local go_sem ↓] to_ldQ to_stQ to_ldV
attribute [local go_sem ↓] eq_req
set_option maxRecDepth 100000 in
set_option maxHeartbeats 8000000 in
theorem encode_any (r : Rq) (hr : r.Ok) (w : World) : Calls Try.prog 11 #[.agg r.cs] w fun e w' => EncP r w e w' := by
  have HR := Lib.hid hr
  have e0 : r.cs[0]? = some (.int .i64 r.op) := rfl
  have HP0 := Lib.hid (Blk.new w TQ r.cs)
  have HB0 := Lib.hid (show Below w.heap.size w (w.alloc (.cells r.cs TQ)) from (Below.refl _ _).alloc (Nat.le_refl _) _)
  have HN := Lib.hid (needs_any r.op hr.op (w.alloc (.cells r.cs TQ)))
  by_cases hop : 1 ≤ r.op ∧ r.op ≤ 19
  · obtain ⟨k, hk⟩ : ∃ k : Nat, r.op = (k : Int) := ⟨r.op.toNat, by omega⟩
    have hnn : needN r.op = (fieldsN k : Int) := by unfold needN; rw [if_pos hop, hk, Int.toNat_natCast]
    rw [hnn] at HN
    have HW := Lib.hid (write_any r hr k hk (by omega) (by omega))
    have hwr : hdW r ++ fdW k r = wrR r := by unfold wrR; rw [hk, Int.toNat_natCast]
    rw [hwr] at HW
    have hf0 : ¬ ((fieldsN k : Int) < 0) := by omega
    have HOP := Lib.hid hop
    clear hr hop hk hnn hwr
    go_enter Try.func11, Try.ntmps11
    go_wp2_with fail
    refine HN.out.mono ?_
    rintro e w1 ⟨rfl, hb1⟩
    have HP1 := Lib.hid (HP0.out.thru0 hb1)
    have HB1 := Lib.hid (HB0.out.trans (hb1.mono HB0.out.size))
    have hld := run_ldQ HP1.out
    clear hb1 HP0 HB0 HN
    go_wp2_with fail
    refine (HW.out w1).mono ?_
    rintro e w2 ⟨v, rfl, ho, hf, hb2⟩
    have HP2 := Lib.hid (HP1.out.thru0 hb2)
    have HB2 := Lib.hid (HB1.out.trans (hb2.mono HB1.out.size))
    obtain ⟨A, c, rfl, hlc, hcm⟩ := ho.slice
    have HO2 := Lib.hid ho
    have HF2 := Lib.hid hf
    have HD := Lib.hid (decode_any w2 A _ c (wrR r) hlc hcm ho.rb)
    clear hld ho hf hb2 hlc hcm HP1 HW
    have HLR := Lib.hid (wrR_len r)
    have HWO : Hid (wrOk r = (decide ((decR (wrR r)).1 = 0) && eqQ (decR (wrR r)).2 r)) := Lib.hid rfl
    have HE0 : Hid (wrOk r = true → encR r = (0, wrR r)) := Lib.hid (fun h => by unfold encR; rw [if_neg (not_not_intro HOP.out), if_pos h])
    have HE1 : Hid (¬ wrOk r = true → encR r = (1, [])) := Lib.hid (fun h => by unfold encR; rw [if_neg (not_not_intro HOP.out), if_neg h])
    obtain ⟨n, hn⟩ : ∃ n, n = (wrR r).length := ⟨_, rfl⟩
    rw [← hn] at HO2 HF2 HD HLR ⊢
    clear hn
    unfold DecP at HD
    generalize decR (wrR r) = x at *
    obtain ⟨er, r2⟩ := x
    simp only at HD HWO
    go_wp2_with fail
    refine HD.out.mono ?_
    rintro e w3 ⟨rfl, hb3⟩
    have HP3 := Lib.hid (HP2.out.thru0 hb3)
    have HB3 := Lib.hid (HB2.out.trans (hb3.mono HB2.out.size))
    have HO3 := Lib.hid (HO2.out.below hb3)
    have hst : (stQ (.pointer (some ⟨w3.heap.size, 0, none⟩)) (.agg r2.cs)).run Try.prog (w3.alloc (.cells #[.int .i64 0, .int .i64 0, .int .i64 0, .int .u64 0, .int .i64 0, .int .i64 0, .int .i64 0, .int .i64 0, .int .i64 0, .string ⟨#[]⟩, .int .i64 0, .int .i64 0, .int .i64 0, .int .i64 0, .int .i64 0, .int .i64 0, .int .i64 0, .int .u64 0, .int .i64 0, .int .u64 0, .int .i64 0, .int .i64 0, .int .i64 0, .int .i64 0] TQ)) = .ok () (w3.alloc (.cells r2.cs TQ)) := run_stQ (r := r2) (r0 := Rq.z)
    have hb4 : Below w3.heap.size w3 (w3.alloc (.cells r2.cs TQ)) := (Below.refl _ _).alloc (Nat.le_refl _) _
    have hl5 := run_ldQ (Blk.new w3 TQ r2.cs)
    have hv5 := run_ldV (Blk.new w3 TQ r2.cs)
    have hv1 := run_ldV (HP3.out.thru0 hb4)
    have hl1 := run_ldQ (HP3.out.thru0 hb4)
    have HB4 := Lib.hid (HB3.out.trans (hb4.mono HB3.out.size))
    have HO4 := Lib.hid (HO3.out.below hb4)
    clear hb3 hb4 HD HP2 HB2 HO2 HP3 HB3 HO3
    have HF4 : Hid (∀ i, (Value.slice A n c).ownBlock = some i → w.heap.size ≤ i) := Lib.hid (fun i hi => Nat.le_trans HB1.out.size (HF2.out i hi))
    by_cases he : er = 0
    · subst he
      cases hq : eqQ r2 r with
      | true =>
        have HE := Lib.hid (HE0.out (by rw [HWO.out, hq]; rfl))
        go_wp2_with fail
        go_ret2
        exact EncP.some_ HE.out HO4.out HF4.out HB4.out
      | false =>
        have HE := Lib.hid (HE1.out (by rw [HWO.out, hq, Bool.and_false]; decide))
        go_wp2_with fail
        go_ret2
        exact EncP.none_ HE.out HB4.out
    · have hne : (er != 0) = true := by simpa using he
      have HE := Lib.hid (HE1.out (by rw [HWO.out, decide_eq_false he]; simp))
      clear he
      go_wp2_with fail
      go_ret2
      exact EncP.none_ HE.out HB4.out
  · have HE : Hid (encR r = (51, [])) := Lib.hid (by unfold encR; rw [if_pos hop])
    have hnn : needN r.op = -1 := by unfold needN; rw [if_neg hop]
    rw [hnn] at HN
    clear hr hop hnn
    go_enter Try.func11, Try.ntmps11
    go_wp2_with fail
    refine HN.out.mono ?_
    rintro e w1 ⟨rfl, hb1⟩
    have HB1 := Lib.hid (HB0.out.trans (hb1.mono HB0.out.size))
    clear hb1
    go_wp2_with fail
    go_ret2
    exact EncP.none_ HE.out HB1.out
set_option maxRecDepth 100000 in
set_option maxHeartbeats 8000000 in
theorem wright_any (r : Rq) (hr : r.Ok) (w : World) : Calls Try.prog 13 #[.agg r.cs] w fun e w' => e = .returned (.bool ((encR r).1 == 0)) ∧ Below w.heap.size w w' := by
  have HE := Lib.hid (encode_any r hr (w.alloc (.cells r.cs TQ)))
  have hld := run_ldQ (Blk.new w TQ r.cs)
  have HB0 := Lib.hid (show Below w.heap.size w (w.alloc (.cells r.cs TQ)) from (Below.refl _ _).alloc (Nat.le_refl _) _)
  unfold EncP at HE
  generalize (encR r) = x at *
  obtain ⟨er, L⟩ := x
  simp only at HE
  clear hr
  go_enter Try.func13, Try.ntmps13
  go_wp2_with fail
  refine HE.out.mono ?_
  rintro e w1 ⟨v, rfl, ho, hf, hb⟩
  have HB1 := Lib.hid (HB0.out.trans (hb.mono HB0.out.size))
  clear ho hf hb hld
  go_wp2_with fail
  go_ret
  exact ⟨rfl, HB1.out⟩
end
end Go.Proofs.Ythlmldbgohnpnaa
