/- wire: a walk over a request's fields, and what it does with a number. -/
import Derived.Test.YthlmldbgohnpnaaRow3
import Derived.Test.YthlmldbgohnpnaaPut
import Derived.Test.YthlmldbgohnpnaaGet
namespace Go.Proofs.Ythlmldbgohnpnaa
set_option linter.unusedVariables false
set_option linter.unusedSimpArgs false
open Go.RowKit
/-- A number's bytes, if it has so many. -/
def putL (n k : Nat) : Bs := if n < 256 ^ k then be k n else []
theorem putL_le (n k : Nat) : (putL n k).length ≤ k := by unfold putL; split <;> simp [be_length]
structure Wk where
  does : Nat
  count : Int
  L : Bs
  bad : Bool
def Wk.whole (s : Wk) (k n : Nat) : Wk := if s.does = 0 then { s with count := s.count + k } else if s.does = 1 then { s with L := s.L ++ putL n k } else { s with L := s.L.drop k }
def Wk.num (s : Wk) (k n : Nat) : Nat := if s.does = 2 then getB (s.L.take k) else n
/-- There is room for k more. -/
def Room (s : Wk) (k : Nat) : Prop := (s.does = 0 ∧ 0 ≤ s.count ∧ s.count + k ≤ 1000) ∨ (s.does = 1 ∧ s.L.length + k ≤ 1000) ∨ (s.does = 2 ∧ k ≤ s.L.length)
theorem Room.less {s : Wk} {k m : Nat} (h : Room s k) (hm : m ≤ k) : Room s m := by unfold Room at *; omega
theorem Room.whole {s : Wk} {k m : Nat} (n : Nat) (h : Room s (k + m)) : Room (s.whole k n) m := by
  have hp := putL_le n k
  unfold Room Wk.whole at *
  rcases h with ⟨h, h1⟩ | ⟨h, h1⟩ | ⟨h, h1⟩
  · rw [if_pos h]; exact .inl ⟨h, by simp only; omega⟩
  · rw [if_neg (by omega), if_pos h]; exact .inr (.inl ⟨h, by simp only [List.length_append]; omega⟩)
  · rw [if_neg (by omega), if_neg (by omega)]; exact .inr (.inr ⟨h, by simp only [List.length_drop]; omega⟩)
theorem Wk.whole_does (s : Wk) (k n : Nat) : (s.whole k n).does = s.does := by unfold Wk.whole; split <;> (try split) <;> rfl
/-- The bytes that are written, or are still to be read. -/
def WRow (B : Nat) (w : World) (s : Wk) (v : Value) : Prop :=
  (s.does = 0 ∧ v = .slice none 0 0) ∨ (s.does = 1 ∧ EOwn elB w v s.L ∧ ∀ i, v.ownBlock = some i → B ≤ i) ∨ (s.does = 2 ∧ ∃ A c, v = .slice A s.L.length c ∧ s.L.length ≤ c ∧ c ≤ maxLen ∧ Reads w B 1 A s.L.length (bv s.L))
structure WS (B : Nat) (w0 : World) (y : Nat) (s : Wk) (w : World) : Prop where
  hy : B ≤ y
  h0 : B ≤ w0.heap.size
  bel : Below B w0 w
  st : ∃ v, Blk w y 48 #[.int .i64 (s.does : Int), .int .i64 s.count, v, .bool s.bad] ∧ WRow B w s v
theorem WS.lt {B : Nat} {w0 w : World} {y : Nat} {s : Wk} (h : WS B w0 y s w) : y < w.heap.size := by obtain ⟨v, hb, _⟩ := h.st; exact hb.lt
structure WF (y q : Nat) (w w' : World) : Prop where
  size : w.heap.size ≤ w'.heap.size
  blk : ∀ k t cs, Blk w k t cs → t ≠ 5 → k ≠ y → k ≠ q → Blk w' k t cs
theorem WF.refl (y q : Nat) (w : World) : WF y q w w := ⟨Nat.le_refl _, fun _ _ _ h _ _ _ => h⟩
theorem WF.trans {y q : Nat} {a b c : World} (h : WF y q a b) (k : WF y q b c) : WF y q a c := ⟨Nat.le_trans h.size k.size, fun i t cs hi ht h1 h2 => k.blk i t cs (h.blk i t cs hi ht h1 h2) ht h1 h2⟩
theorem WF.of_below {y q : Nat} {a b : World} (h : Below a.heap.size a b) : WF y q a b := ⟨h.size, fun _ _ _ hb _ _ _ => hb.thru0 h⟩
theorem WF.setY {y q : Nat} (w : World) (o : Nat) (v : Value) : WF y q w (w.setCell ⟨y, o, none⟩ v) := ⟨by simp, fun _ _ _ hb _ h1 _ => hb.far (p := ⟨y, o, none⟩) h1 v⟩
theorem WF.setQ {y q : Nat} (w : World) (o : Nat) (v : Value) : WF y q w (w.setCell ⟨q, o, none⟩ v) := ⟨by simp, fun _ _ _ hb _ _ h2 => hb.far (p := ⟨q, o, none⟩) h2 v⟩
theorem WRow.keep {B : Nat} {w w' : World} {s : Wk} {v : Value} (h : WRow B w s v) (hb : Below w.heap.size w w') (hB : B ≤ w.heap.size) : WRow B w' s v := by
  rcases h with h | ⟨h1, h2, h3⟩ | ⟨h1, A, c, rfl, h2, h3, h4⟩
  · exact .inl h
  · exact .inr (.inl ⟨h1, h2.below hb, h3⟩)
  · exact .inr (.inr ⟨h1, A, c, rfl, h2, h3, h4.below (hb.mono hB)⟩)
theorem WS.below {B : Nat} {w0 w w' : World} {y : Nat} {s : Wk} (h : WS B w0 y s w) (hb : Below w.heap.size w w') : WS B w0 y s w' := by
  have hB : B ≤ w.heap.size := Nat.le_trans h.h0 h.bel.size
  obtain ⟨v, h1, h2⟩ := h.st
  exact ⟨h.hy, h.h0, h.bel.trans (hb.mono hB), v, h1.thru0 hb, h2.keep hb hB⟩
structure WDone (B : Nat) (w0 : World) (y q : Nat) (tq : TypeId) (s : Wk) (cq : Array Value) (w w' : World) : Prop where
  ws : WS B w0 y s w'
  bq : Blk w' q tq cq
  fr : WF y q w w'
def WEnd (B : Nat) (w0 : World) (y q : Nat) (tq : TypeId) (s : Wk) (cq : Array Value) (w : World) (e : Ending) (w' : World) : Prop := e = .returned (.tuple #[]) ∧ WDone B w0 y q tq s cq w w'
theorem set_same {cs : Array Value} {o : Nat} {v : Value} (h : cs[o]? = some v) : cs.setIfInBounds o v = cs := by
  obtain ⟨hl, he⟩ := Array.getElem?_eq_some_iff.1 h
  apply Array.ext (by simp)
  intro i h1 h2
  rw [Array.getElem_setIfInBounds]
  · split
    · subst_vars; rfl
    · rfl
theorem WRow.setC {B : Nat} {w : World} {s s' : Wk} {v : Value} {t : TypeId} {cs : Array Value} {g o : Nat} (h : WRow B w s v) (hd : s'.does = s.does) (hl : s'.L = s.L) (hg : Blk w g t cs) (ht : t ≠ 5) (hB : B ≤ g) (u : Value) : WRow B (w.setCell ⟨g, o, none⟩ u) s' v := by
  rcases h with ⟨h, h1⟩ | ⟨h1, h2, h3⟩ | ⟨h1, A, c, rfl, h2, h3, h4⟩
  · exact .inl ⟨by omega, h1⟩
  · refine .inr (.inl ⟨by omega, ?_, h3⟩)
    rw [hl]
    refine h2.keep fun i hi e => ?_
    refine Below.heap_setCell w ⟨g, o, none⟩ u i (fun e2 => ?_)
    have e3 : i = g := e2
    subst e3
    rcases h2 with ⟨rfl, _⟩ | ⟨g', cap, rfl, cur, hb, _⟩
    · simp [Value.ownBlock] at e
    · simp [Value.ownBlock] at e
      subst e
      exact Blk.ne_ hb hg (Ne.symm ht) rfl
  · refine .inr (.inr ⟨by omega, A, c, by rw [hl], by rw [hl]; exact h2, h3, ?_⟩)
    rw [hl]
    exact h4.setCell (p := ⟨g, o, none⟩) hB u
theorem WS.ne {B : Nat} {w0 w : World} {y q : Nat} {s : Wk} {tq : TypeId} {cq : Array Value} (h : WS B w0 y s w) (hq : Blk w q tq cq) (ht : tq ≠ 48) : q ≠ y := by
  obtain ⟨v, h1, _⟩ := h.st
  exact Blk.ne_ hq h1 ht
theorem below_setc {B : Nat} {a w : World} (h : Below B a w) {g : Nat} (hg : B ≤ g) (o : Nat) (v : Value) : Below B a (w.setCell ⟨g, o, none⟩ v) := Below.setCell h (p := ⟨g, o, none⟩) hg v
/-- A cell of the request's block is set. -/
theorem WDone.setQ {B : Nat} {w0 w a : World} {y q : Nat} {s : Wk} {tq : TypeId} {cq : Array Value} (h : WDone B w0 y q tq s cq a w) (hB : B ≤ q) (ht : tq ≠ 48) (ht2 : tq ≠ 5) (o : Nat) (u : Value) : WDone B w0 y q tq s (cq.setIfInBounds o u) a (w.setCell ⟨q, o, none⟩ u) := by
  have hne := h.ws.ne h.bq ht
  obtain ⟨v, h1, h2⟩ := h.ws.st
  exact ⟨⟨h.ws.hy, h.ws.h0, below_setc h.ws.bel hB o u, v, h1.far (p := ⟨q, o, none⟩) (Ne.symm hne) u, h2.setC rfl rfl h.bq ht2 hB u⟩, h.bq.set_ o u, h.fr.trans (WF.setQ w o u)⟩
theorem WDone.refl {B : Nat} {w0 w : World} {y q : Nat} {s : Wk} {tq : TypeId} {cq : Array Value} (h : WS B w0 y s w) (hq : Blk w q tq cq) : WDone B w0 y q tq s cq w w := ⟨h, hq, WF.refl _ _ _⟩
/-- The count or the flag is set. -/
theorem WS.setY {B : Nat} {w0 w : World} {y : Nat} {s : Wk} (h : WS B w0 y s w) (c : Int) (b : Bool) : WS B w0 y { s with count := c, bad := b } ((w.setCell ⟨y, 1, none⟩ (.int .i64 c)).setCell ⟨y, 3, none⟩ (.bool b)) := by
  obtain ⟨v, h1, h2⟩ := h.st
  refine ⟨h.hy, h.h0, below_setc (below_setc h.bel h.hy 1 _) h.hy 3 _, v, ?_, ?_⟩
  · have := (h1.set_ 1 (.int .i64 c)).set_ 3 (.bool b)
    simpa using this
  · exact (h2.setC (s' := s) rfl rfl h1 (by decide) h.hy _).setC rfl rfl (h1.set_ 1 _) (by decide) h.hy _
theorem WS.count {B : Nat} {w0 w : World} {y : Nat} {s : Wk} (h : WS B w0 y s w) (c : Int) : WS B w0 y { s with count := c } (w.setCell ⟨y, 1, none⟩ (.int .i64 c)) := by
  obtain ⟨v, h1, h2⟩ := h.st
  refine ⟨h.hy, h.h0, below_setc h.bel h.hy 1 _, v, ?_, ?_⟩
  · have := (h1.set_ 1 (.int .i64 c))
    simpa using this
  · exact (h2.setC rfl rfl h1 (by decide) h.hy _)
theorem WS.flag {B : Nat} {w0 w : World} {y : Nat} {s : Wk} (h : WS B w0 y s w) (b : Bool) : WS B w0 y { s with bad := b } (w.setCell ⟨y, 3, none⟩ (.bool b)) := by
  obtain ⟨v, h1, h2⟩ := h.st
  refine ⟨h.hy, h.h0, below_setc h.bel h.hy 3 _, v, ?_, ?_⟩
  · have := (h1.set_ 3 (.bool b))
    simpa using this
  · exact (h2.setC rfl rfl h1 (by decide) h.hy _)
abbrev ptrW (y : Nat) : Value := .pointer (some ⟨y, 0, none⟩)
end Go.Proofs.Ythlmldbgohnpnaa
