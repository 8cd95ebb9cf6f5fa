/- Texts: Wr0, Wr1, Wr2, Wr3. -/
import Derived.Test.YtmapcdmegkfheaaZbRow3
import Derived.Test.YtmapcdmegkfheaaZbPut
import Derived.Test.YtmapcdmegkfheaaZbGet
import Derived.IntWalk
namespace Go.Proofs.Ytmapcdmegkfheaa
section
set_option linter.unusedVariables false
set_option linter.unusedSimpArgs false
open Go.RowKit
/-- A number's bytes, if it has so many. -/
def putL (n k : Nat) : Bs := if n < 256 ^ k then be k n else []
theorem putL_le (n k : Nat) : (putL n k).length ≤ k := by unfold putL; split <;> simp [be_length]
structure Wk where
  does : Nat
  count : Int
  L : Bs
  bad : Bool
def Wk.whole (s : Wk) (k n : Nat) : Wk := if s.does = 0 then { s with count := s.count + k } else if s.does = 1 then { s with L := s.L ++ putL n k } else { s with L := s.L.drop k }
def Wk.num (s : Wk) (k n : Nat) : Nat := if s.does = 2 then getB (s.L.take k) else n
/-- There is room for k more. -/
def Room (s : Wk) (k : Nat) : Prop := (s.does = 0 ∧ 0 ≤ s.count ∧ s.count + k ≤ 1000) ∨ (s.does = 1 ∧ s.L.length + k ≤ 1000) ∨ (s.does = 2 ∧ k ≤ s.L.length)
theorem Room.less {s : Wk} {k m : Nat} (h : Room s k) (hm : m ≤ k) : Room s m := by unfold Room at *; omega
theorem Room.whole {s : Wk} {k m : Nat} (n : Nat) (h : Room s (k + m)) : Room (s.whole k n) m := by
  have hp := putL_le n k
  unfold Room Wk.whole at *
  rcases h with ⟨h, h1⟩ | ⟨h, h1⟩ | ⟨h, h1⟩
  · rw [if_pos h]; exact .inl ⟨h, by simp only; omega⟩
  · rw [if_neg (by omega), if_pos h]; exact .inr (.inl ⟨h, by simp only [List.length_append]; omega⟩)
  · rw [if_neg (by omega), if_neg (by omega)]; exact .inr (.inr ⟨h, by simp only [List.length_drop]; omega⟩)
theorem Wk.whole_does (s : Wk) (k n : Nat) : (s.whole k n).does = s.does := by unfold Wk.whole; split <;> (try split) <;> rfl
/-- The bytes that are written, or are still to be read. -/
def WRow (B : Nat) (w : World) (s : Wk) (v : Value) : Prop :=
  (s.does = 0 ∧ v = .slice none 0 0) ∨ (s.does = 1 ∧ EOwn elB w v s.L ∧ ∀ i, v.ownBlock = some i → B ≤ i) ∨ (s.does = 2 ∧ ∃ A c, v = .slice A s.L.length c ∧ s.L.length ≤ c ∧ c ≤ maxLen ∧ Reads w B 1 A s.L.length (bv s.L))
structure WF (y q : Nat) (w w' : World) : Prop where
  size : w.heap.size ≤ w'.heap.size
  blk : ∀ k t cs, Blk w k t cs → t ≠ 5 → k ≠ y → k ≠ q → Blk w' k t cs
theorem WF.refl (y q : Nat) (w : World) : WF y q w w := ⟨Nat.le_refl _, fun _ _ _ h _ _ _ => h⟩
theorem WF.trans {y q : Nat} {a b c : World} (h : WF y q a b) (k : WF y q b c) : WF y q a c := ⟨Nat.le_trans h.size k.size, fun i t cs hi ht h1 h2 => k.blk i t cs (h.blk i t cs hi ht h1 h2) ht h1 h2⟩
theorem WF.of_below {y q : Nat} {a b : World} (h : Below a.heap.size a b) : WF y q a b := ⟨h.size, fun _ _ _ hb _ _ _ => hb.thru0 h⟩
theorem WF.setY {y q : Nat} (w : World) (o : Nat) (v : Value) : WF y q w (w.setCell ⟨y, o, none⟩ v) := ⟨by simp, fun _ _ _ hb _ h1 _ => hb.far (p := ⟨y, o, none⟩) h1 v⟩
theorem WF.setQ {y q : Nat} (w : World) (o : Nat) (v : Value) : WF y q w (w.setCell ⟨q, o, none⟩ v) := ⟨by simp, fun _ _ _ hb _ _ h2 => hb.far (p := ⟨q, o, none⟩) h2 v⟩
theorem WRow.keep {B : Nat} {w w' : World} {s : Wk} {v : Value} (h : WRow B w s v) (hb : Below w.heap.size w w') (hB : B ≤ w.heap.size) : WRow B w' s v := by
  rcases h with h | ⟨h1, h2, h3⟩ | ⟨h1, A, c, rfl, h2, h3, h4⟩
  · exact .inl h
  · exact .inr (.inl ⟨h1, h2.below hb, h3⟩)
  · exact .inr (.inr ⟨h1, A, c, rfl, h2, h3, h4.below (hb.mono hB)⟩)
theorem set_same {cs : Array Value} {o : Nat} {v : Value} (h : cs[o]? = some v) : cs.setIfInBounds o v = cs := by
  obtain ⟨hl, he⟩ := Array.getElem?_eq_some_iff.1 h
  apply Array.ext (by simp)
  intro i h1 h2
  rw [Array.getElem_setIfInBounds]
  · split
    · subst_vars; rfl
    · rfl
theorem WRow.setC {B : Nat} {w : World} {s s' : Wk} {v : Value} {t : TypeId} {cs : Array Value} {g o : Nat} (h : WRow B w s v) (hd : s'.does = s.does) (hl : s'.L = s.L) (hg : Blk w g t cs) (ht : t ≠ 5) (hB : B ≤ g) (u : Value) : WRow B (w.setCell ⟨g, o, none⟩ u) s' v := by
  rcases h with ⟨h, h1⟩ | ⟨h1, h2, h3⟩ | ⟨h1, A, c, rfl, h2, h3, h4⟩
  · exact .inl ⟨by omega, h1⟩
  · refine .inr (.inl ⟨by omega, ?_, h3⟩)
    rw [hl]
    refine h2.keep fun i hi e => ?_
    refine Below.heap_setCell w ⟨g, o, none⟩ u i (fun e2 => ?_)
    have e3 : i = g := e2
    subst e3
    rcases h2 with ⟨rfl, _⟩ | ⟨g', cap, rfl, cur, hb, _⟩
    · simp [Value.ownBlock] at e
    · simp [Value.ownBlock] at e
      subst e
      exact Blk.ne_ hb hg (Ne.symm ht) rfl
  · refine .inr (.inr ⟨by omega, A, c, by rw [hl], by rw [hl]; exact h2, h3, ?_⟩)
    rw [hl]
    exact h4.setCell (p := ⟨g, o, none⟩) hB u
theorem below_setc {B : Nat} {a w : World} (h : Below B a w) {g : Nat} (hg : B ≤ g) (o : Nat) (v : Value) : Below B a (w.setCell ⟨g, o, none⟩ v) := Below.setCell h (p := ⟨g, o, none⟩) hg v
abbrev ptrW (y : Nat) : Value := .pointer (some ⟨y, 0, none⟩)
end
section
set_option linter.unusedVariables false
set_option linter.unusedSimpArgs false
open Go.RowKit
theorem WRow.push {B : Nat} {w w' : World} {s : Wk} {v v' : Value} {M : Bs} (hd : s.does = 1) (h : EApp elB v (s.L ++ M) w v' w') (h0 : EOwn elB w v s.L) (hf : ∀ i, v.ownBlock = some i → B ≤ i) (hB : B ≤ w.heap.size) : WRow B w' { s with L := s.L ++ M } v' := by
  obtain ⟨h1, h2, h3⟩ := h
  refine .inr (.inl ⟨hd, h1, fun i hi => ?_⟩)
  rcases h3 i hi with h4 | h4
  · exact hf i h4
  · omega
theorem eapp_keep {w w' : World} {v v' : Value} {L M : Bs} {k : Nat} {t : TypeId} {cs : Array Value} (hA : EApp elB v M w v' w') (h0 : EOwn elB w v L) (hk : Blk w k t cs) (hkt : t ≠ 5) : Blk w' k t cs := by
  refine hk.grown hA.2.1 (fun e => ?_)
  rcases h0 with ⟨rfl, _⟩ | ⟨g', cap, rfl, cur, hb, _⟩
  · simp [Value.ownBlock] at e
  · simp [Value.ownBlock] at e
    subst e
    exact Blk.ne_ hb hk (Ne.symm hkt) rfl
theorem bv_encs (M : Bs) : elB.encs M = bv M := by
  induction M with
  | nil => rfl
  | cons c M ih =>
    have e1 : elB.encs (c :: M) = elB.enc c ++ elB.encs M := rfl
    rw [e1, ih]; rfl
theorem bv_take (l : Bs) (k : Nat) : bv (l.take k) = (bv l).take k := by simp [bv]
theorem bv_drop (l : Bs) (k : Nat) : bv (l.drop k) = (bv l).drop k := by simp [bv]
theorem reads_take {w : World} {B k n : Nat} {A : Option Addr} {xs : List Value} (h : Reads w B 1 A n xs) (hk : k ≤ n) : Reads w B 1 A k (xs.take k) := by
  refine ⟨by rw [List.length_take, h.1]; omega, fun h0 => ?_⟩
  obtain ⟨ad, e, hb, hc⟩ := h.2 (by omega)
  refine ⟨ad, e, hb, fun j u hu => hc j u ?_⟩
  rw [List.getElem?_take] at hu
  split at hu
  · exact hu
  · cases hu
end
section
set_option linter.unusedVariables false
set_option linter.unusedSimpArgs false
open Go.RowKit
theorem getB_k {l : Bs} {k : Nat} (h8 : k ≤ 8) : getB (l.take k) ≤ 18446744073709551615 := by
  have h1 := getB_lt (l.take k)
  have h2 : (256 : Nat) ^ (l.take k).length ≤ 256 ^ 8 := Nat.pow_le_pow_right (by omega) (by rw [List.length_take]; omega)
  have h3 : (256 : Nat) ^ 8 = 18446744073709551616 := by decide
  omega
/-- A number as bits. -/
def toU (x : Int) : Nat := (x % 18446744073709551616).toNat
def toI (n : Nat) : Int := if n < 9223372036854775808 then (n : Int) else (n : Int) - 18446744073709551616
/-- Numbers, so wide each. -/
def Wk.nums (k : Nat) : List Nat → Wk → Array Value → Wk × Array Value
  | [], s, c => (s, c)
  | o :: r, s, c => Wk.nums k r (s.whole k (toU (intOf (c.getD o undef)))) (c.setIfInBounds o (.int .i64 (toI (s.num k (toU (intOf (c.getD o undef)))))))
def i64ok (x : Int) : Prop := -9223372036854775808 ≤ x ∧ x ≤ 9223372036854775807
/-- These cells are numbers. -/
def Ints (c : Array Value) (l : List Nat) : Prop := ∀ o ∈ l, ∃ x, c[o]? = some (.int .i64 x) ∧ i64ok x
theorem toU_le (x : Int) : toU x ≤ 18446744073709551615 := by unfold toU; omega
theorem toI_ok {n : Nat} (h : n ≤ 18446744073709551615) : i64ok (toI n) := by unfold toI i64ok; split <;> omega
theorem toI_toU {x : Int} (h : i64ok x) : toI (toU x) = x := by unfold toI toU i64ok at *; split <;> omega
theorem Wk.num_le {s : Wk} {k n : Nat} (h8 : k ≤ 8) (hn : n ≤ 18446744073709551615) : s.num k n ≤ 18446744073709551615 := by
  unfold Wk.num; split
  · exact getB_k h8
  · exact hn
theorem Ints.set {c : Array Value} {l : List Nat} (h : Ints c l) (o : Nat) {x : Int} (hx : i64ok x) : Ints (c.setIfInBounds o (.int .i64 x)) l := by
  intro p hp
  obtain ⟨y, h1, h2⟩ := h p hp
  by_cases e : o = p
  · subst e
    refine ⟨x, ?_, hx⟩
    have hl := (Array.getElem?_eq_some_iff.1 h1).1
    simp [Array.getElem?_setIfInBounds, hl]
  · exact ⟨y, by simp [Array.getElem?_setIfInBounds, e, h1], h2⟩
theorem nums_split (k : Nat) : ∀ (a b : List Nat) (s : Wk) (c : Array Value), Wk.nums k (a ++ b) s c = Wk.nums k b (Wk.nums k a s c).1 (Wk.nums k a s c).2
  | [], _, _, _ => rfl
  | o :: a, b, s, c => by rw [List.cons_append, Wk.nums, nums_split k a b]; rfl
theorem nums_ints (k : Nat) (h8 : k ≤ 8) : ∀ (a : List Nat) (s : Wk) (c : Array Value) (l : List Nat), Ints c l → Ints (Wk.nums k a s c).2 l
  | [], _, _, _, h => h
  | o :: a, s, c, l, h => nums_ints k h8 a _ _ l (h.set o (toI_ok (Wk.num_le h8 (toU_le _))))
theorem nums_room (k : Nat) : ∀ (a : List Nat) (s : Wk) (c : Array Value) (m : Nat), Room s (a.length * k + m) → Room (Wk.nums k a s c).1 m
  | [], _, _, m, h => by simpa [Wk.nums] using h
  | o :: a, s, c, m, h => nums_room k a _ _ m (Room.whole _ (by rw [List.length_cons, Nat.add_mul, Nat.one_mul] at h; exact h.less (by omega)))
theorem nums_does (k : Nat) : ∀ (a : List Nat) (s : Wk) (c : Array Value), (Wk.nums k a s c).1.does = s.does
  | [], _, _ => rfl
  | o :: a, s, c => by rw [Wk.nums, nums_does k a, Wk.whole_does]
/-- A row of pointers into a block. -/
def Ptrs (w : World) (g : Nat) (q : Nat) (l : List Nat) : Prop := Blk w g 80 (l.map fun o => Value.pointer (some ⟨q, o, none⟩)).toArray
end
section
set_option linter.unusedVariables false
set_option linter.unusedSimpArgs false
open Go.RowKit
theorem wrapU (x : Int) : IntKind.u64.wrap x = (toU x : Int) := by unfold toU IntKind.wrap; simp [IntKind.bits, IntKind.signed]; omega
theorem wrapI {n : Nat} (h : n ≤ 18446744073709551615) : IntKind.i64.wrap (n : Int) = toI n := by unfold toI IntKind.wrap; simp [IntKind.bits, IntKind.signed]; split <;> split <;> omega
end
end Go.Proofs.Ytmapcdmegkfheaa
