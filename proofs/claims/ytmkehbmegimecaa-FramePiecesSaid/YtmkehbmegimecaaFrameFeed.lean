/- frame.Feed by contract. -/
import Derived.Test.YtmkehbmegimecaaFrameBuf
namespace Go.Proofs.Ytmkehbmegimecaa
set_option linter.unusedVariables false
set_option linter.unusedSimpArgs false
open Go.RowKit
section
variable (w : World)
theorem wp_append_wt {o : Oper} {a : Act} {K : Act → World → Prop} {Q : Exit → Act → World → Prop} (s x : Operand)
    (ho : o.op = .call { callee := .builtin .append, args := #[s, x], argTypes := #[28, 28] })
    (A B : Option Addr) (n cap m c : Nat) (l news : List UInt8) (hs : a.eval s = .slice A n cap) (hx : a.eval x = .slice B m c) (h : Wt w A n cap l) (hr : RB w B m news) (hb : n + m ≤ 1099511627776)
    (hK : ∀ A' cap' w', Wt w' A' (n + m) cap' (l ++ news) → w.grownBy w' (A.map (·.block)) → (A'.map (·.block) = A.map (·.block) ∨ A'.map (·.block) = some w.heap.size) → K (a.put o.dst (.slice A' (n + m) cap')) w') : o.wp Try.prog a w K Q := by
  obtain ⟨A', cap', w', hrun, h2, h3, h4⟩ := run_append_wt w o.type A B n cap m c l news h hr hb
  unfold Oper.wp execOp
  simp only [ho, resolve, invoke, builtin, Sem.run_bind, Sem.run_pure, Result.andThen_ok, List.map_toArray, List.map_cons, List.map_nil, hs, hx, hrun]
  exact hK A' cap' w' h2 h3 h4
theorem wpList_append_wt {ops : Array Oper} {rest : List Oper} {o : Oper} {a : Act} {Q : Exit → Act → World → Prop} (hgd : o.guard = none) (s x : Operand)
    (ho : o.op = .call { callee := .builtin .append, args := #[s, x], argTypes := #[28, 28] })
    (A B : Option Addr) (n cap m c : Nat) (l news : List UInt8) (hs : a.eval s = .slice A n cap) (hx : a.eval x = .slice B m c) (h : Wt w A n cap l) (hr : RB w B m news) (hb : n + m ≤ 1099511627776)
    (hK : ∀ A' cap' w', Wt w' A' (n + m) cap' (l ++ news) → w.grownBy w' (A.map (·.block)) → (A'.map (·.block) = A.map (·.block) ∨ A'.map (·.block) = some w.heap.size) → wpList Try.prog ops Q rest (a.put o.dst (.slice A' (n + m) cap')) w') : wpList Try.prog ops Q (o :: rest) a w :=
  wpList_plain hgd fun _ hK' => wp_append_wt w s x ho A B n cap m c l news hs hx h hr hb fun A' cap' w' h2 h3 h4 => hK' _ _ (hK A' cap' w' h2 h3 h4)
end
theorem bv_drop (l : List UInt8) (k : Nat) : bv (l.drop k) = (bv l).drop k := by simp [bv, List.map_drop]
theorem RB.cut {w : World} {B : Option Addr} {m c : Nat} {news : List UInt8} (h : RB w B m news) {k : Nat} (hk : k ≤ m) (hc : m ≤ c) : RB w (if c = k then B else B.map (·.add k)) (m - k) (news.drop k) := by
  have := Reads.cut h hk hc
  rw [Nat.mul_one, ← bv_drop] at this
  exact this
/-- What Feed leaves: the buffer, and all else but the array of what waits. -/
def Fed (p : Nat) (A : Option Addr) (w w' : World) : Prop := w'.os = w.os ∧ w'.tape = w.tape ∧ w'.output = w.output ∧ w.heap.size ≤ w'.heap.size ∧ ∀ i, i < w.heap.size → i ≠ p → A.map (·.block) ≠ some i → w'.heap[i]? = w.heap[i]?
def FeedPost (p : Nat) (A : Option Addr) (room : Int) (n' : Nat) (ov' : Int) (l' : List UInt8) (w : World) (e : Ending) (w' : World) : Prop :=
  ∃ A' cap', e = .returned (.bool true) ∧ Blk w' p 58 #[.int .i64 room, .slice A' n' cap', .int .i64 ov'] ∧ Wt w' A' n' cap' l' ∧ Fed p A w w' ∧ (A'.map (·.block) = A.map (·.block) ∨ A'.map (·.block) = some w.heap.size)
attribute [local go_sem high] run_min2
set_option maxHeartbeats 1000000 in
theorem feed_no (p n cap m c ov k : Nat) (A B : Option Addr) (room : Int) (l news : List UInt8) (w : World) (hp : Blk w p 58 #[.int .i64 room, .slice A n cap, .int .i64 (ov : Int)]) (ht : Wt w A n cap l) (hr : RB w B m news) (hm : m ≤ c) (hm2 : m ≤ 9223372036854775807) (hn : (n : Int) ≤ room) (hr0 : room ≤ 4096) (hov : ov ≤ 65535) (hk : min ov m = k) (hBp : 0 < m → B.map (·.block) ≠ some p) (hno : room - (n : Int) < (m : Int) - (k : Int)) : Calls Try.prog 11 #[.pointer (some ⟨p, 0, none⟩), .slice B m c] w fun e w' => e = .returned (.bool false) ∧ ∃ q, w' = w.drewN q := by
  have k0 := hp.cell 0
  have k1 := hp.cell 1
  have k2 := hp.cell 2
  have f1 := hp.frozen 1
  have f2 := hp.frozen 2
  simp only [List.getElem?_toArray, List.getElem?_cons_zero, List.getElem?_cons_succ] at k0 k1 k2
  have hmin : min (ov : Int) (m : Int) = (k : Int) := by omega
  have hkm : (k : Int) ≤ (m : Int) := by omega
  have hkm2 : k ≤ m := by omega
  have hkc : k ≤ c := by omega
  have hkc2 : (k : Int) ≤ (c : Int) := by omega
  have hko : (k : Int) ≤ (ov : Int) := by omega
  have hnn : (room - (n : Int)) < ((m - k : Nat) : Int) := by omega
  clear hk
  go_enter Try.func11, Try.ntmps11
  go_wp2_with fail
  all_goals
    go_quiet (fail)
    go_wp2
    go_ret
    exact ⟨rfl, _, rfl⟩
theorem RB.far {w : World} {B : Option Addr} {m : Nat} {news : List UInt8} (h : RB w B m news) {p : Addr} (hp : 0 < m → B.map (·.block) ≠ some p.block) (u : Value) : RB (w.setCell p u) B m news := by
  refine ⟨h.1, fun hm => ?_⟩
  obtain ⟨ad, rfl, hl, hc⟩ := h.2 hm
  refine ⟨ad, rfl, by simpa using hl, fun j v hv => ?_⟩
  rw [World.cell?_setCell_other _ _ _ _ (fun e => hp hm (by have := congrArg Addr.block e; rw [block_of_add] at this; simp [this]))]
  exact hc j v hv
theorem buf_step {p q : Nat} {t : TypeId} {row : Option Nat} {w w1 : World} {a b c u : Value} (hp : Blk w p t #[a, b, c]) (hA : row ≠ some p) (hg : ((w.drewN q).setCell ⟨p, 2, none⟩ u).grownBy w1 row) : Blk w1 p t #[a, b, u] := by
  have h9 := (hp.drewN q).set_ 2 u
  have h8 : Blk ((w.drewN q).setCell ⟨p, 2, none⟩ u) p t #[a, b, u] := by simpa using h9
  exact h8.grown hg (fun e => hA e.symm)
theorem map_block (B : Option Addr) (k : Nat) : (B.map (·.add k)).map (·.block) = B.map (·.block) := by cases B <;> simp [block_of_add]
theorem Fed.step {p q : Nat} {A : Option Addr} {w w' : World} {u v : Value} {i j : Nat} (hg : ((w.drewN q).setCell ⟨p, i, none⟩ u).grownBy w' (A.map (·.block))) : Fed p A w (w'.setCell ⟨p, j, none⟩ v) := by
  refine ⟨hg.os, hg.tape, hg.output, by have := hg.size; simpa using this, fun b hb hne hA => ?_⟩
  rw [Below.heap_setCell _ _ _ _ (by simpa using hne), hg.block b (by simpa using hb) (fun e => hA e.symm)]
  rw [Below.heap_setCell _ _ _ _ (by simpa using hne)]; rfl
set_option maxHeartbeats 2000000 in
theorem feed_yes1 (p n cap m c ov k : Nat) (A B : Option Addr) (room : Int) (l news : List UInt8) (w : World) (hp : Blk w p 58 #[.int .i64 room, .slice A n cap, .int .i64 (ov : Int)]) (ht : Wt w A n cap l) (hr : RB w B m news) (hm : m ≤ c) (hm2 : m ≤ 9223372036854775807) (hn : (n : Int) ≤ room) (hr0 : room ≤ 4096) (hov : ov ≤ 65535) (hk : min ov m = k) (hBp : 0 < m → B.map (·.block) ≠ some p) (hyes : (m : Int) - (k : Int) ≤ room - (n : Int)) (hck : c = k) : Calls Try.prog 11 #[.pointer (some ⟨p, 0, none⟩), .slice B m c] w fun e w' => FeedPost p A room (n + (m - k)) ((ov - k : Nat) : Int) (l ++ news.drop k) w e w' := by
  have k0 := hp.cell 0
  have k1 := hp.cell 1
  have k2 := hp.cell 2
  have f1 := hp.frozen 1
  have f2 := hp.frozen 2
  simp only [List.getElem?_toArray, List.getElem?_cons_zero, List.getElem?_cons_succ] at k0 k1 k2
  have hmin : min (ov : Int) (m : Int) = (k : Int) := by omega
  have hkm : (k : Int) ≤ (m : Int) := by omega
  have hkm2 : k ≤ m := by omega
  have hkc : k ≤ c := by omega
  have hkc2 : (k : Int) ≤ (c : Int) := by omega
  have hko : (k : Int) ≤ (ov : Int) := by omega
  have hnn : ¬ ((room - (n : Int)) < ((m - k : Nat) : Int)) := by omega
  have hcut := hr.cut hkm2 hm
  rw [if_pos hck] at hcut
  have hAp := ht.ne hp (by decide)
  have hcap : n + (m - k) ≤ 1099511627776 := by omega
  have HC := Lib.hid hcut; have HT := Lib.hid ht; have HP := Lib.hid hp; have HA := Lib.hid hAp; have HBp := Lib.hid hBp
  have HB2 := Lib.hid (show 0 < m - k → (B).map (·.block) ≠ some p from fun h0 => by exact hBp (by omega))
  have hov2 : ((ov - k : Nat) : Int) = (ov : Int) - (k : Int) := by omega
  have HOV := Lib.hid hov2
  clear hk hcut ht hp hAp hBp hr hov2
  go_enter Try.func11, Try.ntmps11
  go_wp2_with fail
  go_quiet (fail)
  go_wp2_with ((at_builtin; refine wpList_append_wt _ rfl (.tmp 44) (.tmp 45) rfl A (B) n cap (m - k) _ l (news.drop k) rfl rfl (by first | exact (HT.out.drewN _).far (p := ⟨p, 2, none⟩) HA.out _ | exact HT.out.far (p := ⟨p, 2, none⟩) HA.out _) (by first | exact RB.far (Reads.drewN HC.out _) (p := ⟨p, 2, none⟩) HB2.out _ | exact HC.out.far (p := ⟨p, 2, none⟩) HB2.out _) hcap ?_; intro A' cap' w1 ht1 hg1 hl1; have HL1 := Lib.hid hl1; clear hl1; have hb1 := buf_step HP.out HA.out hg1; rw [← HOV.out] at hb1; have q1 := hb1.cell 1; have q2 := hb1.frozen 1; (simp only [List.getElem?_toArray, List.getElem?_cons_zero, List.getElem?_cons_succ] at q1); have HT1 := Lib.hid ht1; have HG1 := Lib.hid hg1; have HB1 := Lib.hid hb1; clear ht1 hg1 hb1))
  go_ret
  refine ⟨A', cap', rfl, ?_, ?_, ?_, by simpa using HL1.out⟩
  · have h9 := HB1.out.set_ 1 (.slice A' (n + (m - k)) cap')
    simpa using h9
  · exact HT1.out.far (p := ⟨p, 1, none⟩) (HT1.out.ne HB1.out (by decide)) _
  · exact Fed.step HG1.out
set_option maxHeartbeats 2000000 in
theorem feed_yes2 (p n cap m c ov k : Nat) (A B : Option Addr) (room : Int) (l news : List UInt8) (w : World) (hp : Blk w p 58 #[.int .i64 room, .slice A n cap, .int .i64 (ov : Int)]) (ht : Wt w A n cap l) (hr : RB w B m news) (hm : m ≤ c) (hm2 : m ≤ 9223372036854775807) (hn : (n : Int) ≤ room) (hr0 : room ≤ 4096) (hov : ov ≤ 65535) (hk : min ov m = k) (hBp : 0 < m → B.map (·.block) ≠ some p) (hyes : (m : Int) - (k : Int) ≤ room - (n : Int)) (hck : ¬ c = k) : Calls Try.prog 11 #[.pointer (some ⟨p, 0, none⟩), .slice B m c] w fun e w' => FeedPost p A room (n + (m - k)) ((ov - k : Nat) : Int) (l ++ news.drop k) w e w' := by
  have k0 := hp.cell 0
  have k1 := hp.cell 1
  have k2 := hp.cell 2
  have f1 := hp.frozen 1
  have f2 := hp.frozen 2
  simp only [List.getElem?_toArray, List.getElem?_cons_zero, List.getElem?_cons_succ] at k0 k1 k2
  have hmin : min (ov : Int) (m : Int) = (k : Int) := by omega
  have hkm : (k : Int) ≤ (m : Int) := by omega
  have hkm2 : k ≤ m := by omega
  have hkc : k ≤ c := by omega
  have hkc2 : (k : Int) ≤ (c : Int) := by omega
  have hko : (k : Int) ≤ (ov : Int) := by omega
  have hnn : ¬ ((room - (n : Int)) < ((m - k : Nat) : Int)) := by omega
  have hcut := hr.cut hkm2 hm
  rw [if_neg hck] at hcut
  have hAp := ht.ne hp (by decide)
  have hcap : n + (m - k) ≤ 1099511627776 := by omega
  have HC := Lib.hid hcut; have HT := Lib.hid ht; have HP := Lib.hid hp; have HA := Lib.hid hAp; have HBp := Lib.hid hBp
  have HB2 := Lib.hid (show 0 < m - k → (B.map (·.add k)).map (·.block) ≠ some p from fun h0 => by rw [map_block]; exact hBp (by omega))
  have hov2 : ((ov - k : Nat) : Int) = (ov : Int) - (k : Int) := by omega
  have HOV := Lib.hid hov2
  clear hk hcut ht hp hAp hBp hr hov2
  go_enter Try.func11, Try.ntmps11
  go_wp2_with fail
  go_quiet (fail)
  go_wp2_with ((at_builtin; refine wpList_append_wt _ rfl (.tmp 44) (.tmp 45) rfl A (B.map (·.add k)) n cap (m - k) _ l (news.drop k) rfl rfl (by first | exact (HT.out.drewN _).far (p := ⟨p, 2, none⟩) HA.out _ | exact HT.out.far (p := ⟨p, 2, none⟩) HA.out _) (by first | exact RB.far (Reads.drewN HC.out _) (p := ⟨p, 2, none⟩) HB2.out _ | exact HC.out.far (p := ⟨p, 2, none⟩) HB2.out _) hcap ?_; intro A' cap' w1 ht1 hg1 hl1; have HL1 := Lib.hid hl1; clear hl1; have hb1 := buf_step HP.out HA.out hg1; rw [← HOV.out] at hb1; have q1 := hb1.cell 1; have q2 := hb1.frozen 1; (simp only [List.getElem?_toArray, List.getElem?_cons_zero, List.getElem?_cons_succ] at q1); have HT1 := Lib.hid ht1; have HG1 := Lib.hid hg1; have HB1 := Lib.hid hb1; clear ht1 hg1 hb1))
  go_ret
  refine ⟨A', cap', rfl, ?_, ?_, ?_, by simpa using HL1.out⟩
  · have h9 := HB1.out.set_ 1 (.slice A' (n + (m - k)) cap')
    simpa using h9
  · exact HT1.out.far (p := ⟨p, 1, none⟩) (HT1.out.ne HB1.out (by decide)) _
  · exact Fed.step HG1.out
theorem feed_yes (p n cap m c ov k : Nat) (A B : Option Addr) (room : Int) (l news : List UInt8) (w : World) (hp : Blk w p 58 #[.int .i64 room, .slice A n cap, .int .i64 (ov : Int)]) (ht : Wt w A n cap l) (hr : RB w B m news) (hm : m ≤ c) (hm2 : m ≤ 9223372036854775807) (hn : (n : Int) ≤ room) (hr0 : room ≤ 4096) (hov : ov ≤ 65535) (hk : min ov m = k) (hBp : 0 < m → B.map (·.block) ≠ some p) (hyes : (m : Int) - (k : Int) ≤ room - (n : Int)) : Calls Try.prog 11 #[.pointer (some ⟨p, 0, none⟩), .slice B m c] w fun e w' => FeedPost p A room (n + (m - k)) ((ov - k : Nat) : Int) (l ++ news.drop k) w e w' := by
  by_cases hck : c = k
  · exact feed_yes1 p n cap m c ov k A B room l news w hp ht hr hm hm2 hn hr0 hov hk hBp hyes hck
  · exact feed_yes2 p n cap m c ov k A B room l news w hp ht hr hm hm2 hn hr0 hov hk hBp hyes hck
set_option maxHeartbeats 400000 in
theorem feed_nil (B : Option Addr) (m c : Nat) (w : World) : Calls Try.prog 11 #[.pointer none, .slice B m c] w fun e w' => e = .returned (.bool false) ∧ w = w' := by
  go_enter Try.func11, Try.ntmps11
  go_wp2
  go_ret
  exact ⟨rfl, rfl⟩
end Go.Proofs.Ytmkehbmegimecaa
