/- pyramid: rows of points, read and appended to. -/
import Derived.Test.YtdbiaijpbkmfhaaBlk
import Derived.Test.YtdbiaijpbkmfhaaCellKid
import Derived.Deep.RegionLaw
import Derived.Deep.DeepCutAuto
namespace Go.Proofs.Ytdbiaijpbkmfhaa
set_option linter.unusedVariables false
set_option linter.unusedSimpArgs false
open Go.RowKit
abbrev Pn := Int × Int
def at_ (L : List Pn) (i : Nat) : Pn := L.getD i (0, 0)
theorem at_get {L : List Pn} {i : Nat} (h : i < L.length) : at_ L i = L[i] := by simp [at_, List.getD_eq_getElem?_getD, List.getElem?_eq_getElem h]
theorem at_drop {S : List Pn} {k i : Nat} : at_ (S.drop k) i = at_ S (k + i) := by simp [at_, List.getD_eq_getElem?_getD, List.getElem?_drop]
theorem take_more {S : List Pn} {k : Nat} (hk : k < S.length) : S.take (k + 1) = S.take k ++ [at_ S k] := by rw [List.take_succ_eq_append_getElem hk, at_get hk]
def encE (e : Pn) : List Value := [.int .i64 e.1, .int .i64 e.2]
def encs (L : List Pn) : List Value := L.flatMap encE
theorem encs_length (L : List Pn) : (encs L).length = L.length * 2 := by
  induction L with
  | nil => rfl
  | cons e r ih => simp only [encs, List.flatMap_cons, List.length_append, List.length_cons] at *; simp only [encE, List.length_cons, List.length_nil]; omega
theorem encs_append (L M : List Pn) : encs (L ++ M) = encs L ++ encs M := by simp [encs]
theorem encs_get (L : List Pn) (i j : Nat) (hi : i < L.length) (hj : j < 2) : (encs L)[i * 2 + j]? = (encE (at_ L i))[j]? := by
  induction L generalizing i with
  | nil => simp at hi
  | cons e r ih =>
    rw [show encs (e :: r) = encE e ++ encs r from rfl]
    match i with
    | 0 => rw [List.getElem?_append_left (by simp [encE]; omega)]; simp [at_]
    | i + 1 =>
      rw [List.getElem?_append_right (by simp [encE]; omega), show (i + 1) * 2 + j - (encE e).length = i * 2 + j by simp [encE]; omega, ih i (by simp at hi; omega)]
      simp [at_]
/-- The points L at the head of block g. -/
def QRow (w : World) (g cap : Nat) (L : List Pn) : Prop :=
  ∃ cur, Blk w g 29 cur ∧ cur.size = cap * 2 ∧ L.length ≤ cap ∧ cap ≤ maxLen ∧ ∀ i j, i < L.length → j < 2 → cur[i * 2 + j]? = (encE (at_ L i))[j]?
theorem QRow.lt {w : World} {g cap : Nat} {L : List Pn} (h : QRow w g cap L) : g < w.heap.size := by obtain ⟨cur, h1, _⟩ := h; exact h1.lt
theorem QRow.keep {w w' : World} {g cap : Nat} {L : List Pn} (h : QRow w g cap L) (hk : w'.heap[g]? = w.heap[g]?) : QRow w' g cap L := by
  obtain ⟨cur, h1, h2⟩ := h
  exact ⟨cur, hk.trans h1, h2⟩
theorem encs_take {cur : Array Value} {L : List Pn} {cap : Nat} (hs : cur.size = cap * 2) (hl : L.length ≤ cap) (h : ∀ i j, i < L.length → j < 2 → cur[i * 2 + j]? = (encE (at_ L i))[j]?) : cur.toList.take (L.length * 2) = encs L := by
  apply List.ext_getElem?
  intro m
  rw [List.getElem?_take]
  by_cases hm : m < L.length * 2
  · rw [if_pos hm, Array.getElem?_toList]
    have e : m = m / 2 * 2 + m % 2 := by omega
    rw [e, h (m / 2) (m % 2) (by omega) (by omega), encs_get L (m / 2) (m % 2) (by omega) (by omega)]
  · rw [if_neg hm, List.getElem?_eq_none (by rw [encs_length]; omega)]
theorem QRow.own {w : World} {g cap : Nat} {L : List Pn} (h : QRow w g cap L) : w.ownsRow 0 29 2 (.slice (some ⟨g, 0, none⟩) L.length cap) L.length (encs L) := by
  obtain ⟨cur, h1, h2, h3, h4, h5⟩ := h
  exact ⟨encs_length L, .inr ⟨g, cap, cur, rfl, Nat.zero_le _, h1, h3, h4, h2, encs_take h2 h3 h5⟩⟩
theorem QRow.of_own {w : World} {v : Value} {L : List Pn} {n : Nat} (h : w.ownsRow 0 29 2 v n (encs L)) (hn : n = L.length) (h0 : 0 < n) : ∃ g cap, v = .slice (some ⟨g, 0, none⟩) L.length cap ∧ QRow w g cap L := by
  subst hn
  rcases h.2 with ⟨_, h⟩ | ⟨g, cap, cur, hv, _, h1, h3, h4, h2, h5⟩
  · omega
  · refine ⟨g, cap, hv, cur, h1, h2, h3, h4, fun i j hi hj => ?_⟩
    have e := encs_get L i j hi hj
    rw [← h5, List.getElem?_take, if_pos (by omega), Array.getElem?_toList] at e
    exact e
/-- A slice of the call's own that holds the points L. -/
def QOwn (w : World) (v : Value) (L : List Pn) : Prop := (v = .slice none 0 0 ∧ L = []) ∨ ∃ g cap, v = .slice (some ⟨g, 0, none⟩) L.length cap ∧ QRow w g cap L
theorem QOwn.own {w : World} {v : Value} {L : List Pn} (h : QOwn w v L) : w.ownsRow 0 29 2 v L.length (encs L) := by
  rcases h with ⟨rfl, rfl⟩ | ⟨g, cap, rfl, h⟩
  · exact World.ownsRow_nil _ _ _ _
  · exact h.own
theorem QOwn.keep {w w' : World} {v : Value} {L : List Pn} (h : QOwn w v L) (hk : ∀ i, i < w.heap.size → v.ownBlock = some i → w'.heap[i]? = w.heap[i]?) : QOwn w' v L := by
  rcases h with h3 | ⟨g, cap, rfl, h3⟩
  · exact .inl h3
  · exact .inr ⟨g, cap, rfl, h3.keep (hk g h3.lt rfl)⟩
theorem QOwn.below {w w' : World} {v : Value} {L : List Pn} (h : QOwn w v L) (hb : Below w.heap.size w w') : QOwn w' v L := h.keep fun i hi _ => hb.block i hi
theorem QOwn.alloc {w : World} {v : Value} {L : List Pn} (h : QOwn w v L) (o : Obj) : QOwn (w.alloc o) v L := h.below ((Below.refl _ _).alloc (Nat.le_refl _) _)
theorem QOwn.nil_ (w : World) : QOwn w (.slice none 0 0) [] := .inl ⟨rfl, rfl⟩
theorem QOwn.drew {w : World} {v : Value} {L : List Pn} (h : QOwn w v L) : QOwn w.drew v L := h
theorem QOwn.lt {w : World} {v : Value} {L : List Pn} (h : QOwn w v L) {i : Nat} (hi : v.ownBlock = some i) : i < w.heap.size := by
  rcases h with ⟨rfl, _⟩ | ⟨g, cap, rfl, h⟩
  · simp [Value.ownBlock] at hi
  · simp [Value.ownBlock] at hi; subst hi; exact h.lt
theorem QOwn.slice {w : World} {v : Value} {L : List Pn} (h : QOwn w v L) : ∃ A cap, v = .slice A L.length cap ∧ L.length ≤ cap ∧ cap ≤ maxLen := by
  rcases h with ⟨rfl, rfl⟩ | ⟨g, cap, rfl, cur, _, _, h, h2, _⟩
  · exact ⟨none, 0, rfl, Nat.le_refl _, by decide⟩
  · exact ⟨_, _, rfl, h, h2⟩
theorem encE_one (e : Pn) : ∀ u ∈ encE e, u.oneCell' = true := by
  intro u hu
  simp [encE] at hu
  rcases hu with rfl | rfl <;> rfl
theorem point_info : (Try.prog.info? 29).map (fun i => (i.zero, i.size, i.bytes)) = some (some (.agg #[.int .i64 0, .int .i64 0]), 2, 16) := by kernel_rfl
theorem reads_point {w : World} {b : Nat} {e : Pn} (h0 : w.cell? ⟨b, 0, none⟩ = some (.int .i64 e.1)) (h1 : w.cell? ⟨b, 1, none⟩ = some (.int .i64 e.2)) : Reads w w.heap.size 2 (some ⟨b, 0, none⟩) 1 (encE e) := by
  refine ⟨rfl, fun _ => ⟨_, rfl, World.block_lt_of_cell? w _ h0, fun j u hu => ?_⟩⟩
  have hj : j = 0 ∨ j = 1 := by have := (List.getElem?_eq_some_iff.1 hu).1; simp [encE] at this; omega
  rcases hj with rfl | rfl
  · simp [encE] at hu; subst hu; simpa [Addr.add] using h0
  · simp [encE] at hu; subst hu; simpa [Addr.add] using h1
def Appended (v : Value) (L : List Pn) (w : World) (v' : Value) (w' : World) : Prop :=
  ∃ g cap, v' = .slice (some ⟨g, 0, none⟩) L.length cap ∧ QRow w' g cap L ∧ w.grownBy w' v.ownBlock ∧ (v.ownBlock = some g ∨ g = w.heap.size)
theorem run_push {w : World} {t ty : TypeId} (ht : Try.prog.underlying t = some (.slice 29)) {v : Value} {L : List Pn} {e : Pn} {b c : Nat} (h : QOwn w v L) (h0 : w.cell? ⟨b, 0, none⟩ = some (.int .i64 e.1)) (h1 : w.cell? ⟨b, 1, none⟩ = some (.int .i64 e.2)) (hl : L.length ≤ 4398046511102) :
    ∃ v' w', (Builtin.append_ #[t, t] ty #[v, .slice (some ⟨b, 0, none⟩) 1 c]).run Try.prog w = .ok v' w' ∧ Appended v (L ++ [e]) w v' w' := by
  obtain ⟨i0, hi, hz, hsz, hby⟩ := info_parts point_info
  obtain ⟨v', w', hr, ho, hg, hb⟩ := run_append_any (P := Try.prog) w 0 t ty 29 i0 _ 2 16 ht hi hz hsz hby rfl (by omega) v L.length (encs L) h.own w.heap.size (some ⟨b, 0, none⟩) 1 c (encE e) (reads_point h0 h1) (encE_one e) (by simp only [maxLen]; omega) (by omega) (Nat.zero_le _)
  have he : encs L ++ encE e = encs (L ++ [e]) := by rw [encs_append]; simp [encs]
  rw [he] at ho
  obtain ⟨g, cap, hv, hq⟩ := QRow.of_own ho (by simp) (by omega)
  subst hv
  refine ⟨_, w', hr, g, cap, rfl, hq, hg, ?_⟩
  rcases hb with hb | hb
  · exact .inl hb.symm
  · simp [Value.ownBlock] at hb; exact .inr hb
theorem wp_push {w : World} {o : Oper} {a : Act} {K : Act → World → Prop} {Q : Exit → Act → World → Prop} (s x : Operand) (t : TypeId)
    (ho : o.op = .call { callee := .builtin .append, args := #[s, x], argTypes := #[t, t] }) (ht : Try.prog.underlying t = some (.slice 29)) (v : Value) (L : List Pn) (e : Pn) (b c : Nat) (hs : a.eval s = v) (hx : a.eval x = .slice (some ⟨b, 0, none⟩) 1 c)
    (h : QOwn w v L) (h0 : w.cell? ⟨b, 0, none⟩ = some (.int .i64 e.1)) (h1 : w.cell? ⟨b, 1, none⟩ = some (.int .i64 e.2)) (hl : L.length ≤ 4398046511102)
    (hK : ∀ v' w', Appended v (L ++ [e]) w v' w' → K (a.put o.dst v') w') : o.wp Try.prog a w K Q := by
  obtain ⟨v', w', hrun, hA⟩ := run_push (ty := o.type) (c := c) ht h h0 h1 hl
  unfold Oper.wp execOp
  simp only [ho, resolve, invoke, builtin, Sem.run_bind, Sem.run_pure, Result.andThen_ok, List.map_toArray, List.map_cons, List.map_nil, hs, hx, hrun]
  exact hK v' w' hA
theorem wpList_push {w : World} {ops : Array Oper} {rest : List Oper} {o : Oper} {a : Act} {Q : Exit → Act → World → Prop} (hgd : o.guard = none) (s x : Operand) (t : TypeId)
    (ho : o.op = .call { callee := .builtin .append, args := #[s, x], argTypes := #[t, t] }) (ht : Try.prog.underlying t = some (.slice 29)) (v : Value) (L : List Pn) (e : Pn) (b c : Nat) (hs : a.eval s = v) (hx : a.eval x = .slice (some ⟨b, 0, none⟩) 1 c)
    (h : QOwn w v L) (h0 : w.cell? ⟨b, 0, none⟩ = some (.int .i64 e.1)) (h1 : w.cell? ⟨b, 1, none⟩ = some (.int .i64 e.2)) (hl : L.length ≤ 4398046511102)
    (hK : ∀ v' w', Appended v (L ++ [e]) w v' w' → wpList Try.prog ops Q rest (a.put o.dst v') w') : wpList Try.prog ops Q (o :: rest) a w :=
  wpList_plain hgd fun _ hK' => wp_push s x t ho ht v L e b c hs hx h h0 h1 hl fun v' w' hA => hK' _ _ (hK v' w' hA)
theorem new_cell (w : World) (cs : Array Value) (t : TypeId) (i : Nat) {v : Value} (h : cs[i]? = some v) : (w.alloc (.cells cs t)).cell? ⟨w.heap.size, i, none⟩ = some v := by rw [(Blk.new w t cs).cell]; exact h
theorem new_cell_d (w : World) (cs : Array Value) (t : TypeId) (i : Nat) {v : Value} (h : cs[i]? = some v) : (w.alloc (.cells cs t)).drew.cell? ⟨w.heap.size, i, none⟩ = some v := new_cell w cs t i h
/-- The slice (A, n, c) reads as the points S. -/
def Rd (w : World) (A : Option Addr) (n c : Nat) (S : List Pn) : Prop :=
  S.length = n ∧ n ≤ c ∧ c ≤ maxLen ∧ ∀ i, i < n → ∃ g off, A = some ⟨g, off, none⟩ ∧ w.cell? ⟨g, off + i * 2, none⟩ = some (.int .i64 (at_ S i).1) ∧ w.cell? ⟨g, off + i * 2 + 1, none⟩ = some (.int .i64 (at_ S i).2)
theorem Rd.cell {w : World} {A : Option Addr} {n c : Nat} {S : List Pn} (h : Rd w A n c S) {i : Nat} (hi : i < n) : ∃ g off, A = some ⟨g, off, none⟩ ∧ w.cell? ⟨g, off + i * 2, none⟩ = some (.int .i64 (at_ S i).1) ∧ w.cell? ⟨g, off + i * 2 + 1, none⟩ = some (.int .i64 (at_ S i).2) := h.2.2.2 i hi
theorem Rd.below {w w' : World} {A : Option Addr} {n c : Nat} {S : List Pn} (h : Rd w A n c S) (hb : Below w.heap.size w w') : Rd w' A n c S :=
  ⟨h.1, h.2.1, h.2.2.1, fun i hi => by
    obtain ⟨g, off, e, h1, h2⟩ := h.cell hi
    exact ⟨g, off, e, cell_later hb h1, cell_later hb h2⟩⟩
theorem Rd.drew {w : World} {A : Option Addr} {n c : Nat} {S : List Pn} (h : Rd w A n c S) : Rd w.drew A n c S := h
theorem Rd.nil_ (w : World) : Rd w none 0 0 [] := ⟨rfl, Nat.le_refl _, by decide, fun i hi => absurd hi (by omega)⟩
theorem QOwn.rd {w : World} {A : Option Addr} {n c : Nat} {S : List Pn} (h : QOwn w (.slice A n c) S) : Rd w A n c S := by
  rcases h with ⟨h, rfl⟩ | ⟨g, cap, h, cur, h1, h2, h3, h4, h5⟩
  · injection h with a b c; subst a; subst b; subst c; exact Rd.nil_ w
  · injection h with a b c
    subst a; subst b; subst c
    refine ⟨rfl, h3, h4, fun i hi => ⟨g, 0, rfl, ?_, ?_⟩⟩ <;> rw [h1.cell]
    · have := h5 i 0 hi (by omega); simpa [encE] using this
    · have := h5 i 1 hi (by omega); simpa [encE] using this
theorem below_of_drew {w w' : World} (h : Below w.drew.heap.size w.drew w') : Below w.heap.size w w' := ⟨h.os, h.tape, h.output, h.size, h.block⟩
theorem own_map {A : Option Addr} {n c i : Nat} : (Value.slice A n c).ownBlock = some i ↔ A.map (·.block) = some i := by cases A <;> simp [Value.ownBlock]
/-- A row made since w. -/
def Fresh (w : World) (v : Value) (L : List Pn) (wr : World) : Prop := QOwn wr v L ∧ Below w.heap.size w wr ∧ ∀ i, v.ownBlock = some i → w.heap.size ≤ i
theorem Fresh.nil_ (w : World) : Fresh w (.slice none 0 0) [] w := ⟨QOwn.nil_ _, Below.refl _ _, fun i hi => by simp [Value.ownBlock] at hi⟩
theorem Fresh.append {w wr X w' : World} {n : Pn} {v v' : Value} {L : List Pn} (h : Fresh w v L wr) (hX : Below wr.heap.size wr X) (ha : Appended v (L ++ [n]) X v' w') : Fresh w v' (L ++ [n]) w' := by
  obtain ⟨h1, h2, h4⟩ := h
  obtain ⟨g, cap, rfl, hr, hg, ho⟩ := ha
  have hB : Below w.heap.size w X := below_trans h2 hX
  have hg9 : w.heap.size ≤ g := by
    rcases ho with ho | ho
    · exact h4 g ho
    · have := hB.size; omega
  refine ⟨.inr ⟨g, cap, rfl, hr⟩, ⟨hg.os.trans hB.os, hg.tape.trans hB.tape, hg.output.trans hB.output, Nat.le_trans hB.size hg.size, fun i hi => ?_⟩, fun i hi => ?_⟩
  · rw [hg.block i (Nat.lt_of_lt_of_le hi hB.size) (fun e => by have := h4 i e.symm; omega)]
    exact hB.block i hi
  · simp [Value.ownBlock] at hi; omega
theorem Fresh.below {w wr X : World} {v : Value} {L : List Pn} (h : Fresh w v L wr) (hX : Below wr.heap.size wr X) : Fresh w v L X := ⟨h.1.below hX, below_trans h.2.1 hX, h.2.2⟩
/-- A fresh row, answered. -/
def RowPost (L : List Pn) (w : World) (e : Ending) (w' : World) : Prop := ∃ A c, e = .returned (.slice A L.length c) ∧ Fresh w (.slice A L.length c) L w'
end Go.Proofs.Ytdbiaijpbkmfhaa
