/- wire: Needs, enough, write, by contract. -/
import Derived.Test.YthlmldbgohnpnaaWrC
namespace Go.Proofs.Ythlmldbgohnpnaa
set_option linter.unusedVariables false
set_option linter.unusedSimpArgs false
open Go.RowKit
def opQ (op : Int) : Rq := { Rq.z with op := op }
theorem opQ_ok {op : Int} (h : i64ok op) : (opQ op).Ok := by
  have hz := Rq.z_ok
  exact ⟨h, hz.ten, hz.usr, hz.sec, hz.m, hz.who, hz.role, hz.tier, hz.quota, hz.text, hz.rights, hz.zoom, hz.x0, hz.y0, hz.x1, hz.y1, hz.til, hz.oth, hz.k, hz.area, hz.px, hz.py, hz.lab, hz.fro⟩
/-- A walk's beginning: the walk's block and the request's, both new. -/
theorem start {w wr : World} {B y q d m : Nat} {v : Value} {L : Bs} {r : Rq} (hr : r.Ok) (hd : d ≤ 2) (hb : Below B w wr) (hB : B ≤ w.heap.size) (hyB : B ≤ y) (hqB : B ≤ q) (hy : Blk wr y 48 #[.int .i64 (d : Int), .int .i64 0, v, .bool false]) (hq : Blk wr q TQ r.cs) (hrow : WRow B wr ⟨d, 0, L, false⟩ v) (hm : Room ⟨d, 0, L, false⟩ m) : Go1 B w y q (⟨d, 0, L, false⟩, r.cs) m wr wr :=
  ⟨WDone.refl ⟨hyB, hB, hb, v, hy, hrow⟩ hq, hqB, hr.rq, hm, hd⟩
set_option maxRecDepth 100000 in
set_option maxHeartbeats 4000000 in
theorem needs_any (op : Int) (hop : i64ok op) (w : World) : Calls Try.prog 16 #[.int .i64 op] w fun e w' => e = .returned (.int .i64 (needN op)) ∧ Below w.heap.size w w' := by
  have HB2 : Hid (Below w.heap.size w ((w.alloc (.cells #[.int .i64 0, .int .i64 0, .slice none 0 0, .bool false] 48)).alloc (.cells (opQ op).cs TQ))) := Lib.hid (((Below.refl _ _).alloc (Nat.le_refl _) _).alloc (by simp) _)
  have hbb := blk_two w 48 TQ #[.int .i64 0, .int .i64 0, .slice none 0 0, .bool false] (opQ op).cs
  have HG := Lib.hid (start (m := 116) (L := []) (d := 0) (opQ_ok hop) (by decide) HB2.out (Nat.le_refl _) (Nat.le_refl _) (by omega) hbb.1 hbb.2 (.inl ⟨rfl, rfl⟩) (.inl ⟨rfl, by decide, by decide⟩))
  by_cases h : 1 ≤ op ∧ op ≤ 19
  · obtain ⟨k, rfl⟩ : ∃ k : Nat, op = (k : Int) := ⟨op.toNat, by omega⟩
    have hs := fields_sizes k
    have HG2 := Lib.hid (show Go1 w.heap.size w w.heap.size (w.heap.size + 1) (⟨0, 0, [], false⟩, (opQ k).cs) (fieldsN k + 0) _ _ from ⟨HG.out.d, HG.out.qB, HG.out.rq, HG.out.room.less (by omega), HG.out.does⟩)
    have HC := Lib.hid (fields_any (m := 0) k (by omega) (by omega) HG2.out rfl)
    have HN := Lib.hid (show needN k = (fieldsN k : Int) by unfold needN; rw [if_pos h, Int.toNat_natCast])
    have HRC := Lib.hid (runs_count (fieldsS k) (⟨0, 0, [], false⟩, (opQ k).cs) rfl)
    clear HG hbb HB2 hs h hop
    generalize runs (fieldsS k) (⟨0, 0, [], false⟩, (opQ k).cs) = x at *
    go_enter Try.func16, Try.ntmps16
    go_wp2_with fail
    refine HC.out.mono ?_
    rintro e w2 ⟨rfl, hd⟩
    obtain ⟨v, hy, _⟩ := hd.ws.st
    have ky := hy.cell 1
    simp only [List.getElem?_toArray, List.getElem?_cons_zero, List.getElem?_cons_succ] at ky
    have HBL := Lib.hid hd.ws.bel
    clear hd hy
    go_wp2_with fail
    go_ret
    refine ⟨?_, HBL.out⟩
    rw [HN.out, HRC.out]
    simp [fieldsN]
  · have HC := Lib.hid (fields_no op HG.out rfl h)
    have HN := Lib.hid (show needN op = -1 by unfold needN; rw [if_neg h])
    clear HG hbb HB2 h hop
    go_enter Try.func16, Try.ntmps16
    go_wp2_with fail
    refine HC.out.mono ?_
    rintro e w2 ⟨rfl, hd⟩
    have HBL := Lib.hid hd.ws.bel
    clear hd
    go_wp2_with fail
    go_ret
    refine ⟨?_, HBL.out⟩
    rw [HN.out]
    rfl
def enoughN (k : Nat) (n : Nat) : Int := if n < fieldsN k then 50 else if (if k = 3 then 512 else fieldsN k) < n then 2 else 0
set_option maxRecDepth 100000 in
set_option maxHeartbeats 4000000 in
theorem enough_any (k : Nat) (h1 : 1 ≤ k) (h19 : k ≤ 19) (n : Nat) (hn : n ≤ maxLen) (w : World) : Calls Try.prog 19 #[.int .i64 (k : Int), .int .i64 (n : Int)] w fun e w' => e = .returned (.int .i64 (enoughN k n)) ∧ Below w.heap.size w w' := by
  have HC := Lib.hid (needs_any (k : Int) (by unfold i64ok; omega) w)
  have HN := Lib.hid (show needN k = (fieldsN k : Int) by unfold needN; rw [if_pos (by omega), Int.toNat_natCast])
  rw [HN.out] at HC
  unfold maxLen at hn
  have hs := fields_sizes k
  by_cases h3 : k = 3
  · subst h3
    have hf : fieldsN 3 = 0 := rfl
    unfold enoughN
    simp only [hf] at HC ⊢
    clear hf HN hs
    by_cases hle : 512 < n
    · go_enter Try.func19, Try.ntmps19
      go_wp2_with ((go_at_call 16; refine HC.out.mono ?_; rintro e w2 ⟨rfl, hb⟩))
      go_ret
      exact ⟨by simp [hle], hb⟩
    · go_enter Try.func19, Try.ntmps19
      go_wp2_with ((go_at_call 16; refine HC.out.mono ?_; rintro e w2 ⟨rfl, hb⟩))
      go_ret
      exact ⟨by simp [hle], hb⟩
  · have hk3 : ((k : Int) == 3) = false := beq_eq_false_iff_ne.2 (by omega)
    unfold enoughN
    rw [if_neg h3]
    clear h3 HN
    generalize fieldsN k = f at *
    by_cases hlt : n < f
    · go_enter Try.func19, Try.ntmps19
      go_wp2_with ((go_at_call 16; refine HC.out.mono ?_; rintro e w2 ⟨rfl, hb⟩))
      go_ret
      exact ⟨by simp [hlt], hb⟩
    · by_cases hgt : f < n
      · go_enter Try.func19, Try.ntmps19
        go_wp2_with ((go_at_call 16; refine HC.out.mono ?_; rintro e w2 ⟨rfl, hb⟩))
        go_ret
        exact ⟨by simp [hlt, hgt], hb⟩
      · go_enter Try.func19, Try.ntmps19
        go_wp2_with ((go_at_call 16; refine HC.out.mono ?_; rintro e w2 ⟨rfl, hb⟩))
        go_ret
        exact ⟨by simp [hlt, hgt], hb⟩
/-- What a request that is written owns. -/
def WriteP (L : Bs) (w : World) (e : Ending) (w' : World) : Prop := ∃ v, e = .returned v ∧ EOwn elB w' v L ∧ (∀ i, v.ownBlock = some i → w.heap.size ≤ i) ∧ Below w.heap.size w w'
set_option maxRecDepth 100000 in
set_option maxHeartbeats 4000000 in
theorem write_any (r : Rq) (hr : r.Ok) (k : Nat) (hk : r.op = (k : Int)) (h1 : 1 ≤ k) (h19 : k ≤ 19) (w : World) : Calls Try.prog 26 #[.agg r.cs] w fun e w' => WriteP (hdW r ++ fdW k r) w e w' := by
  have HB2 : Hid (Below w.heap.size w ((w.alloc (.cells r.cs TQ)).alloc (.cells #[.int .i64 1, .int .i64 0, .slice none 0 0, .bool false] 48))) := Lib.hid (((Below.refl _ _).alloc (Nat.le_refl _) _).alloc (by simp) _)
  have hbb := blk_two w TQ 48 r.cs #[.int .i64 1, .int .i64 0, .slice none 0 0, .bool false]
  have hs := fields_sizes k
  have HG := Lib.hid (start (m := 13 + (fieldsN k + 0)) (L := []) (d := 1) hr (by decide) HB2.out (Nat.le_refl _) (by omega) (Nat.le_refl _) hbb.2 hbb.1 (.inr (.inl ⟨rfl, EOwn.nil_ _, fun i hi => by simp [Value.ownBlock] at hi⟩)) (.inr (.inl ⟨rfl, by show 0 + _ ≤ 1000; omega⟩)))
  obtain ⟨b1, hw1⟩ := head_write r hr
  have HC := Lib.hid (head_any HG.out)
  rw [hw1] at HC
  obtain ⟨b2, hw2⟩ := fields_write k h1 h19 (hdW r) b1 r hr
  have HW2 := Lib.hid hw2
  have HOP : Hid (r.cs[0]? = some (.int .i64 (k : Int))) := Lib.hid (by rw [← hk]; rfl)
  have H1 := Lib.hid h1
  have H19 := Lib.hid h19
  clear hw1 hw2 hs hbb HB2 HG hk h1 h19
  go_enter Try.func26, Try.ntmps26
  go_wp2_with fail
  refine HC.out.mono ?_
  rintro e w2 ⟨rfl, hd⟩
  have HC2 := Lib.hid (fields_any k H1.out H19.out hd HOP.out)
  rw [HW2.out] at HC2
  clear hd
  go_wp2_with fail
  refine HC2.out.mono ?_
  rintro e w3 ⟨rfl, hd⟩
  obtain ⟨v, hy, hrow⟩ := hd.ws.st
  have ky := hy.cell 2
  simp only [List.getElem?_toArray, List.getElem?_cons_zero, List.getElem?_cons_succ] at ky
  have HBL := Lib.hid hd.ws.bel
  obtain ⟨h2, h3⟩ : EOwn elB w3 v (hdW r ++ fdW k r) ∧ ∀ i, v.ownBlock = some i → w.heap.size ≤ i := by
    rcases hrow with ⟨h2, _⟩ | ⟨_, h2⟩ | ⟨h2, _⟩
    · cases h2
    · exact h2
    · cases h2
  obtain ⟨A, c, hv, _, _⟩ := h2.slice
  generalize (hdW r ++ fdW k r).length = n at hv
  subst hv
  have H2 := Lib.hid h2
  have H3 := Lib.hid h3
  clear hd hy hrow h2 h3
  go_wp2_with fail
  go_ret
  exact ⟨_, rfl, H2.out, H3.out, HBL.out⟩
end Go.Proofs.Ythlmldbgohnpnaa
