/- wire: whole, numbers, upTo, by contract. -/
import Derived.Test.YtmapcdmegkfheaaWr1
namespace Go.Proofs.Ytmapcdmegkfheaa
set_option linter.unusedVariables false
set_option linter.unusedSimpArgs false
open Go.RowKit
theorem getB_k {l : Bs} {k : Nat} (h8 : k ≤ 8) : getB (l.take k) ≤ 18446744073709551615 := by
  have h1 := getB_lt (l.take k)
  have h2 : (256 : Nat) ^ (l.take k).length ≤ 256 ^ 8 := Nat.pow_le_pow_right (by omega) (by rw [List.length_take]; omega)
  have h3 : (256 : Nat) ^ 8 = 18446744073709551616 := by decide
  omega
/-- A number as bits. -/
def toU (x : Int) : Nat := (x % 18446744073709551616).toNat
def toI (n : Nat) : Int := if n < 9223372036854775808 then (n : Int) else (n : Int) - 18446744073709551616
/-- Numbers, so wide each. -/
def Wk.nums (k : Nat) : List Nat → Wk → Array Value → Wk × Array Value
  | [], s, c => (s, c)
  | o :: r, s, c => Wk.nums k r (s.whole k (toU (intOf (c.getD o undef)))) (c.setIfInBounds o (.int .i64 (toI (s.num k (toU (intOf (c.getD o undef)))))))
def i64ok (x : Int) : Prop := -9223372036854775808 ≤ x ∧ x ≤ 9223372036854775807
/-- These cells are numbers. -/
def Ints (c : Array Value) (l : List Nat) : Prop := ∀ o ∈ l, ∃ x, c[o]? = some (.int .i64 x) ∧ i64ok x
theorem toU_le (x : Int) : toU x ≤ 18446744073709551615 := by unfold toU; omega
theorem toI_ok {n : Nat} (h : n ≤ 18446744073709551615) : i64ok (toI n) := by unfold toI i64ok; split <;> omega
theorem toI_toU {x : Int} (h : i64ok x) : toI (toU x) = x := by unfold toI toU i64ok at *; split <;> omega
theorem Wk.num_le {s : Wk} {k n : Nat} (h8 : k ≤ 8) (hn : n ≤ 18446744073709551615) : s.num k n ≤ 18446744073709551615 := by
  unfold Wk.num; split
  · exact getB_k h8
  · exact hn
theorem Ints.set {c : Array Value} {l : List Nat} (h : Ints c l) (o : Nat) {x : Int} (hx : i64ok x) : Ints (c.setIfInBounds o (.int .i64 x)) l := by
  intro p hp
  obtain ⟨y, h1, h2⟩ := h p hp
  by_cases e : o = p
  · subst e
    refine ⟨x, ?_, hx⟩
    have hl := (Array.getElem?_eq_some_iff.1 h1).1
    simp [Array.getElem?_setIfInBounds, hl]
  · exact ⟨y, by simp [Array.getElem?_setIfInBounds, e, h1], h2⟩
theorem nums_split (k : Nat) : ∀ (a b : List Nat) (s : Wk) (c : Array Value), Wk.nums k (a ++ b) s c = Wk.nums k b (Wk.nums k a s c).1 (Wk.nums k a s c).2
  | [], _, _, _ => rfl
  | o :: a, b, s, c => by rw [List.cons_append, Wk.nums, nums_split k a b]; rfl
theorem nums_ints (k : Nat) (h8 : k ≤ 8) : ∀ (a : List Nat) (s : Wk) (c : Array Value) (l : List Nat), Ints c l → Ints (Wk.nums k a s c).2 l
  | [], _, _, _, h => h
  | o :: a, s, c, l, h => nums_ints k h8 a _ _ l (h.set o (toI_ok (Wk.num_le h8 (toU_le _))))
theorem nums_room (k : Nat) : ∀ (a : List Nat) (s : Wk) (c : Array Value) (m : Nat), Room s (a.length * k + m) → Room (Wk.nums k a s c).1 m
  | [], _, _, m, h => by simpa [Wk.nums] using h
  | o :: a, s, c, m, h => nums_room k a _ _ m (Room.whole _ (by rw [List.length_cons, Nat.add_mul, Nat.one_mul] at h; exact h.less (by omega)))
theorem nums_does (k : Nat) : ∀ (a : List Nat) (s : Wk) (c : Array Value), (Wk.nums k a s c).1.does = s.does
  | [], _, _ => rfl
  | o :: a, s, c => by rw [Wk.nums, nums_does k a, Wk.whole_does]
/-- A row of pointers into a block. -/
def Ptrs (w : World) (g : Nat) (q : Nat) (l : List Nat) : Prop := Blk w g 80 (l.map fun o => Value.pointer (some ⟨q, o, none⟩)).toArray
end Go.Proofs.Ytmapcdmegkfheaa
