/- queue: the methods Push and Pop of *entries, by contract; append of an entry. -/
import Derived.Test.YtdmmglnpeoeicaaQDown
import Derived.Deep.RegionLaw
namespace Go.Proofs.Ytdmmglnpeoeicaa
set_option linter.unusedVariables false
set_option linter.unusedSimpArgs false
open Go.RowKit
theorem encs_take {cur : Array Value} {L : List En} {cap : Nat} (hs : cur.size = cap * 3) (hl : L.length ≤ cap) (h : ∀ i j, i < L.length → j < 3 → cur[i * 3 + j]? = (encE (at_ L i))[j]?) : cur.toList.take (L.length * 3) = encs L := by
  apply List.ext_getElem?
  intro m
  rw [List.getElem?_take]
  by_cases hm : m < L.length * 3
  · rw [if_pos hm, Array.getElem?_toList]
    have e : m = m / 3 * 3 + m % 3 := by omega
    rw [e, h (m / 3) (m % 3) (by omega) (by omega), encs_get L (m / 3) (m % 3) (by omega) (by omega)]
  · rw [if_neg hm, List.getElem?_eq_none (by rw [encs_length]; omega)]
theorem QRow.own {w : World} {g cap : Nat} {L : List En} (h : QRow w g cap L) : w.ownsRow 0 29 3 (.slice (some ⟨g, 0, none⟩) L.length cap) L.length (encs L) := by
  obtain ⟨cur, h1, h2, h3, h4, h5⟩ := h
  exact ⟨encs_length L, .inr ⟨g, cap, cur, rfl, Nat.zero_le _, h1, h3, h4, h2, encs_take h2 h3 h5⟩⟩
theorem QRow.of_own {w : World} {v : Value} {L : List En} {n : Nat} (h : w.ownsRow 0 29 3 v n (encs L)) (hn : n = L.length) (h0 : 0 < n) : ∃ g cap, v = .slice (some ⟨g, 0, none⟩) L.length cap ∧ QRow w g cap L := by
  subst hn
  rcases h.2 with ⟨_, h⟩ | ⟨g, cap, cur, hv, _, h1, h3, h4, h2, h5⟩
  · omega
  · refine ⟨g, cap, hv, cur, h1, h2, h3, h4, fun i j hi hj => ?_⟩
    have e := encs_get L i j hi hj
    rw [← h5, List.getElem?_take, if_pos (by omega), Array.getElem?_toList] at e
    exact e
/-- A slice of the call's own that holds the entries L. -/
def QOwn (w : World) (v : Value) (L : List En) : Prop := (v = .slice none 0 0 ∧ L = []) ∨ ∃ g cap, v = .slice (some ⟨g, 0, none⟩) L.length cap ∧ QRow w g cap L
theorem QOwn.own {w : World} {v : Value} {L : List En} (h : QOwn w v L) : w.ownsRow 0 29 3 v L.length (encs L) := by
  rcases h with ⟨rfl, rfl⟩ | ⟨g, cap, rfl, h⟩
  · exact World.ownsRow_nil _ _ _ _
  · exact h.own
theorem QOwn.keep {w w' : World} {v : Value} {L : List En} (h : QOwn w v L) (hk : ∀ i, i < w.heap.size → v.ownBlock = some i → w'.heap[i]? = w.heap[i]?) : QOwn w' v L := by
  rcases h with h3 | ⟨g, cap, rfl, h3⟩
  · exact .inl h3
  · exact .inr ⟨g, cap, rfl, h3.keep (hk g h3.lt rfl)⟩
theorem QOwn.below {w w' : World} {v : Value} {L : List En} (h : QOwn w v L) (hb : Below w.heap.size w w') : QOwn w' v L := h.keep fun i hi _ => hb.block i hi
theorem QOwn.alloc {w : World} {v : Value} {L : List En} (h : QOwn w v L) (o : Obj) : QOwn (w.alloc o) v L := h.below ((Below.refl _ _).alloc (Nat.le_refl _) _)
theorem QOwn.nil_ (w : World) : QOwn w (.slice none 0 0) [] := .inl ⟨rfl, rfl⟩
theorem QOwn.lt {w : World} {v : Value} {L : List En} (h : QOwn w v L) {i : Nat} (hi : v.ownBlock = some i) : i < w.heap.size := by
  rcases h with ⟨rfl, _⟩ | ⟨g, cap, rfl, h⟩
  · simp [Value.ownBlock] at hi
  · simp [Value.ownBlock] at hi; subst hi; exact h.lt
theorem QOwn.slice {w : World} {v : Value} {L : List En} (h : QOwn w v L) : ∃ A cap, v = .slice A L.length cap ∧ L.length ≤ cap ∧ cap ≤ maxLen := by
  rcases h with ⟨rfl, rfl⟩ | ⟨g, cap, rfl, cur, _, _, h, h2, _⟩
  · exact ⟨none, 0, rfl, Nat.le_refl _, by decide⟩
  · exact ⟨_, _, rfl, h, h2⟩
theorem QOwn.ne {w : World} {v : Value} {L : List En} (h : QOwn w v L) {q : Nat} {cs : Array Value} (hb : Blk w q 48 cs) : v.ownBlock ≠ some q := by
  rcases h with ⟨rfl, _⟩ | ⟨g, cap, rfl, cur, h1, _⟩
  · simp [Value.ownBlock]
  · intro e
    simp [Value.ownBlock] at e
    exact Blk.ne_ h1 hb (by decide) e
theorem encE_one (e : En) : ∀ u ∈ encE e, u.oneCell' = true := by
  intro u hu
  simp [encE] at hu
  rcases hu with rfl | rfl | rfl <;> rfl
theorem entry_info : (Try.prog.info? 29).map (fun i => (i.zero, i.size, i.bytes)) = some (some (.agg #[.int .u64 0, .int .u64 0, .int .i64 0]), 3, 24) := by kernel_rfl
theorem reads_entry {w : World} {b : Nat} {e : En} (h0 : w.cell? ⟨b, 0, none⟩ = some (.int .u64 e.1)) (h1 : w.cell? ⟨b, 1, none⟩ = some (.int .u64 e.2.1)) (h2 : w.cell? ⟨b, 2, none⟩ = some (.int .i64 e.2.2)) : Reads w w.heap.size 3 (some ⟨b, 0, none⟩) 1 (encE e) := by
  refine ⟨rfl, fun _ => ⟨_, rfl, World.block_lt_of_cell? w _ h0, fun j u hu => ?_⟩⟩
  have hj : j = 0 ∨ j = 1 ∨ j = 2 := by have := (List.getElem?_eq_some_iff.1 hu).1; simp [encE] at this; omega
  rcases hj with rfl | rfl | rfl
  · simp [encE] at hu; subst hu; simpa [Addr.add] using h0
  · simp [encE] at hu; subst hu; simpa [Addr.add] using h1
  · simp [encE] at hu; subst hu; simpa [Addr.add] using h2
def Appended (v : Value) (L : List En) (w : World) (v' : Value) (w' : World) : Prop :=
  ∃ g cap, v' = .slice (some ⟨g, 0, none⟩) L.length cap ∧ QRow w' g cap L ∧ w.grownBy w' v.ownBlock ∧ (v.ownBlock = some g ∨ g = w.heap.size)
theorem run_push {w : World} {t ty : TypeId} (ht : Try.prog.underlying t = some (.slice 29)) {v : Value} {L : List En} {e : En} {b c : Nat} (h : QOwn w v L) (h0 : w.cell? ⟨b, 0, none⟩ = some (.int .u64 e.1)) (h1 : w.cell? ⟨b, 1, none⟩ = some (.int .u64 e.2.1)) (h2 : w.cell? ⟨b, 2, none⟩ = some (.int .i64 e.2.2)) (hl : L.length ≤ 4398046511102) :
    ∃ v' w', (Builtin.append_ #[t, t] ty #[v, .slice (some ⟨b, 0, none⟩) 1 c]).run Try.prog w = .ok v' w' ∧ Appended v (L ++ [e]) w v' w' := by
  obtain ⟨i0, hi, hz, hsz, hby⟩ := info_parts entry_info
  obtain ⟨v', w', hr, ho, hg, hb⟩ := run_append_any (P := Try.prog) w 0 t ty 29 i0 _ 3 24 ht hi hz hsz hby rfl (by omega) v L.length (encs L) h.own w.heap.size (some ⟨b, 0, none⟩) 1 c (encE e) (reads_entry h0 h1 h2) (encE_one e) (by simp only [maxLen]; omega) (by omega) (Nat.zero_le _)
  have he : encs L ++ encE e = encs (L ++ [e]) := by rw [encs_append]; simp [encs]
  rw [he] at ho
  obtain ⟨g, cap, hv, hq⟩ := QRow.of_own ho (by simp) (by omega)
  subst hv
  refine ⟨_, w', hr, g, cap, rfl, hq, hg, ?_⟩
  rcases hb with hb | hb
  · exact .inl hb.symm
  · simp [Value.ownBlock] at hb; exact .inr hb
theorem wp_push {w : World} {o : Oper} {a : Act} {K : Act → World → Prop} {Q : Exit → Act → World → Prop} (s x : Operand) (t : TypeId)
    (ho : o.op = .call { callee := .builtin .append, args := #[s, x], argTypes := #[t, t] }) (ht : Try.prog.underlying t = some (.slice 29)) (v : Value) (L : List En) (e : En) (b c : Nat) (hs : a.eval s = v) (hx : a.eval x = .slice (some ⟨b, 0, none⟩) 1 c)
    (h : QOwn w v L) (h0 : w.cell? ⟨b, 0, none⟩ = some (.int .u64 e.1)) (h1 : w.cell? ⟨b, 1, none⟩ = some (.int .u64 e.2.1)) (h2 : w.cell? ⟨b, 2, none⟩ = some (.int .i64 e.2.2)) (hl : L.length ≤ 4398046511102)
    (hK : ∀ v' w', Appended v (L ++ [e]) w v' w' → K (a.put o.dst v') w') : o.wp Try.prog a w K Q := by
  obtain ⟨v', w', hrun, hA⟩ := run_push (ty := o.type) (c := c) ht h h0 h1 h2 hl
  unfold Oper.wp execOp
  simp only [ho, resolve, invoke, builtin, Sem.run_bind, Sem.run_pure, Result.andThen_ok, List.map_toArray, List.map_cons, List.map_nil, hs, hx, hrun]
  exact hK v' w' hA
theorem wpList_push {w : World} {ops : Array Oper} {rest : List Oper} {o : Oper} {a : Act} {Q : Exit → Act → World → Prop} (hgd : o.guard = none) (s x : Operand) (t : TypeId)
    (ho : o.op = .call { callee := .builtin .append, args := #[s, x], argTypes := #[t, t] }) (ht : Try.prog.underlying t = some (.slice 29)) (v : Value) (L : List En) (e : En) (b c : Nat) (hs : a.eval s = v) (hx : a.eval x = .slice (some ⟨b, 0, none⟩) 1 c)
    (h : QOwn w v L) (h0 : w.cell? ⟨b, 0, none⟩ = some (.int .u64 e.1)) (h1 : w.cell? ⟨b, 1, none⟩ = some (.int .u64 e.2.1)) (h2 : w.cell? ⟨b, 2, none⟩ = some (.int .i64 e.2.2)) (hl : L.length ≤ 4398046511102)
    (hK : ∀ v' w', Appended v (L ++ [e]) w v' w' → wpList Try.prog ops Q rest (a.put o.dst v') w') : wpList Try.prog ops Q (o :: rest) a w :=
  wpList_plain hgd fun _ hK' => wp_push s x t ho ht v L e b c hs hx h h0 h1 h2 hl fun v' w' hA => hK' _ _ (hK v' w' hA)
theorem step_push {w : World} {ops : Array Oper} {o : Oper} {a : Act} {K : Act → World → Prop} {Q : Exit → Act → World → Prop} {E : Prop} (hgd : o.guard = none) (s x : Operand) (t : TypeId)
    (ho : o.op = .call { callee := .builtin .append, args := #[s, x], argTypes := #[t, t] }) (ht : Try.prog.underlying t = some (.slice 29)) (v : Value) (L : List En) (e : En) (b c : Nat) (hs : a.eval s = v) (hx : a.eval x = .slice (some ⟨b, 0, none⟩) 1 c)
    (h : QOwn w v L) (h0 : w.cell? ⟨b, 0, none⟩ = some (.int .u64 e.1)) (h1 : w.cell? ⟨b, 1, none⟩ = some (.int .u64 e.2.1)) (h2 : w.cell? ⟨b, 2, none⟩ = some (.int .i64 e.2.2)) (hl : L.length ≤ 4398046511102)
    (hK : ∀ v' w', Appended v (L ++ [e]) w v' w' → K (a.put o.dst v') w') : if Region.wanted o (yielded ops a.tmps) = true then Oper.wp Try.prog o a w K Q else E := by
  have hw : Region.wanted o (yielded ops a.tmps) = true := by simp [Region.wanted, hgd]
  rw [if_pos hw]
  exact wp_push s x t ho ht v L e b c hs hx h h0 h1 h2 hl hK
theorem new_cell (w : World) (cs : Array Value) (t : TypeId) (i : Nat) {v : Value} (h : cs[i]? = some v) : (w.alloc (.cells cs t)).cell? ⟨w.heap.size, i, none⟩ = some v := by rw [(Blk.new w t cs).cell]; exact h
theorem new_cell_d (w : World) (cs : Array Value) (t : TypeId) (i : Nat) {v : Value} (h : cs[i]? = some v) : (w.alloc (.cells cs t)).drew.cell? ⟨w.heap.size, i, none⟩ = some v := new_cell w cs t i h
theorem QOwn.drew {w : World} {v : Value} {L : List En} (h : QOwn w v L) : QOwn w.drew v L := h
theorem cell_alloc {w : World} {a : Addr} {v : Value} (h : w.cell? a = some v) (o : Obj) : (w.alloc o).cell? a = some v := cell_later ((Below.refl _ _).alloc (Nat.le_refl _) _) h
theorem assert_entry (a b c : Value) (w : World) : (Instr.typeAssert (.iface 29 (.agg #[a, b, c])) 20 29 true).run Try.prog w = .ok (.tuple #[.agg #[a, b, c], .bool true]) w := by kernel_rfl
attribute [local go_sem] assert_entry
def PushPost (q : Nat) (v : Value) (L : List En) (w : World) (e : Ending) (w' : World) : Prop :=
  e = .returned (.tuple #[]) ∧ ∃ g cap, HG w' q g cap L ∧ Turned q v.ownBlock w w' ∧ (v.ownBlock = some g ∨ w.heap.size ≤ g)
set_option maxHeartbeats 4000000 in
theorem epush_any (q : Nat) (v : Value) (L : List En) (e : En) (w : World) (h1 : Blk w q 48 #[v]) (h : QOwn w v L) (hl : L.length ≤ 4398046511102) :
    Calls Try.prog 68 #[.pointer (some ⟨q, 0, none⟩), .iface 29 (.agg #[.int .u64 e.1, .int .u64 e.2.1, .int .i64 e.2.2])] w fun e' w' => PushPost q v (L ++ [e]) w e' w' := by
  obtain ⟨A, c0, rfl, hc1, hc2⟩ := h.slice
  have HO := Lib.hid (h.alloc (.cells #[.int .u64 e.1, .int .u64 e.2.1, .int .i64 e.2.2] 29))
  have HB := Lib.hid (h1.alloc (.cells #[.int .u64 e.1, .int .u64 e.2.1, .int .i64 e.2.2] 29))
  have HE := Lib.hid (Blk.new w 29 #[.int .u64 e.1, .int .u64 e.2.1, .int .i64 e.2.2])
  have HB0 := Lib.hid ((Below.refl w.heap.size w).alloc (Nat.le_refl _) (.cells #[.int .u64 e.1, .int .u64 e.2.1, .int .i64 e.2.2] 29))
  have hq := h1.lt
  have HNE := Lib.hid (show some q ≠ (Value.slice A L.length c0).ownBlock from fun e => h.ne h1 e.symm)
  clear h h1
  go_enter Try.func68, Try.ntmps68
  go_wp2_with fail
  generalize (w.alloc (.cells #[.int .u64 e.1, .int .u64 e.2.1, .int .i64 e.2.2] 29)) = W at *
  have k0 := HB.out.cell 0
  have f0 := HB.out.frozen 0
  have e0 := HE.out.cell 0
  have e1 := HE.out.cell 1
  have e2 := HE.out.cell 2
  simp only [List.getElem?_toArray, List.getElem?_cons_zero, List.getElem?_cons_succ] at k0 e0 e1 e2
  have zq := World.new_ne W _ k0
  have zq2 := HB.out.lt
  have ze := World.new_ne W _ e0
  have ze2 := HE.out.lt
  have kx := cell_alloc k0 (.cells #[.int .u64 e.1, .int .u64 e.2.1, .int .i64 e.2.2] 29)
  go_region_law ((refine step_push rfl (.tmp 15) (.tmp 17) _ rfl Try.underlying46 (.slice A L.length c0) L e W.heap.size 1 (by simp [Act.eval, Act.put]) (by simp [Act.eval, Act.put]) (by first | exact (HO.out.alloc _).drew | exact HO.out.alloc _) (by first | exact new_cell_d _ _ _ 0 rfl | exact new_cell _ _ _ 0 rfl) (by first | exact new_cell_d _ _ _ 1 rfl | exact new_cell _ _ _ 1 rfl) (by first | exact new_cell_d _ _ _ 2 rfl | exact new_cell _ _ _ 2 rfl) hl ?_; rintro v' w' ⟨g, cap, rfl, hrow, hgr, hor⟩; have HB2 := Lib.hid ((HB.out.alloc (.cells #[.int .u64 e.1, .int .u64 e.2.1, .int .i64 e.2.2] 29)).drew.grown hgr HNE.out); have kk0 := HB2.out.cell 0; have ff0 := HB2.out.frozen 0; simp only [List.getElem?_toArray, List.getElem?_cons_zero, List.getElem?_cons_succ] at kk0; have HROW := Lib.hid hrow; have HGR := Lib.hid hgr; have HOR := Lib.hid hor; clear hrow hgr hor))
  all_goals
    go_end0
    have hll : (L ++ [e]).length = L.length + 1 := by simp
    have hqg : q ≠ g := by
      obtain ⟨cur, h9, _⟩ := HROW.out
      exact Blk.ne_ HB2.out h9 (by decide)
    refine ⟨rfl, g, cap, ⟨?_, ?_⟩, ?_, ?_⟩
    · have := (HB2.out.set1 (.slice (some ⟨g, 0, none⟩) (L.length + 1) cap))
      rw [hll]
      exact this
    · exact HROW.out.keep (Below.heap_setCell _ _ _ _ (fun e => hqg e.symm))
    · have h9 := HGR.out
      have hb := HB0.out
      refine ⟨h9.os.trans hb.os, h9.tape.trans hb.tape, h9.output.trans hb.output, ?_, fun i hi hne hr => ?_⟩
      · have a1 := h9.size
        have a2 := hb.size
        simp at a1
        simp
        omega
      · have hi2 : i < W.heap.size := Nat.lt_of_lt_of_le hi hb.size
        rw [Below.heap_setCell _ _ _ _ hne, h9.block i (by simp; omega) (fun e => hr e.symm)]
        exact (Below.heap_alloc W _ i hi2).trans (hb.block i hi)
    · rcases HOR.out with h9 | h9
      · exact .inl h9
      · right
        rw [h9]
        have := HB0.out.size
        simp
        omega
end Go.Proofs.Ytdmmglnpeoeicaa
