/- wire: whole, numbers, upTo, by contract. -/
import Derived.Test.YthlmldbgohnpnaaWr1
namespace Go.Proofs.Ythlmldbgohnpnaa
set_option linter.unusedVariables false
set_option linter.unusedSimpArgs false
open Go.RowKit
theorem getB_k {l : Bs} {k : Nat} (h8 : k ≤ 8) : getB (l.take k) ≤ 18446744073709551615 := by
  have h1 := getB_lt (l.take k)
  have h2 : (256 : Nat) ^ (l.take k).length ≤ 256 ^ 8 := Nat.pow_le_pow_right (by omega) (by rw [List.length_take]; omega)
  have h3 : (256 : Nat) ^ 8 = 18446744073709551616 := by decide
  omega
set_option maxHeartbeats 2000000 in
theorem whole_read {B : Nat} {w0 : World} {y q : Nat} {s : Wk} {tq : TypeId} {cq : Array Value} (w : World) (k n o : Nat) (hd : s.does = 2) (h : WS B w0 y s w) (hq : Blk w q tq cq) (hqB : B ≤ q) (ht : tq ≠ 48) (ht2 : tq ≠ 5) (ho : cq[o]? = some (.int .u64 (n : Int))) (hr : Room s k) (hk1 : 1 ≤ k) (hk8 : k ≤ 8) :
    Calls Try.prog 31 #[ptrW y, .int .i64 (k : Int), .pointer (some ⟨q, o, none⟩)] w fun e w' => WEnd B w0 y q tq (s.whole k n) (cq.setIfInBounds o (.int .u64 (s.num k n : Nat))) w e w' := by
  have e1 : s.whole k n = { s with L := s.L.drop k } := by unfold Wk.whole; rw [if_neg (by omega), if_neg (by omega)]
  have e2 : s.num k n = getB (s.L.take k) := by unfold Wk.num; rw [if_pos hd]
  have hr2 : k ≤ s.L.length := by unfold Room at hr; omega
  obtain ⟨v, h1, h2⟩ := h.st
  have k0 := h1.cell 0
  simp only [List.getElem?_toArray, List.getElem?_cons_zero, List.getElem?_cons_succ, hd] at k0
  have hqy := h.ne hq ht
  have HCT := Lib.hid (cut_any w k hd h hr2)
  have kq : ∀ v, (w.setCell ⟨y, 2, none⟩ v).cell? ⟨q, o, none⟩ = some (.int .u64 (n : Int)) := fun v => by rw [(hq.far (p := ⟨y, 2, none⟩) hqy v).cell, ho]
  have fq : ∀ v, (w.setCell ⟨y, 2, none⟩ v).frozen? ⟨q, o, none⟩ = false := fun v => (hq.far (p := ⟨y, 2, none⟩) hqy v).frozen o
  have KQ := Lib.hid kq
  have FQ := Lib.hid fq
  rw [e1, e2]
  have H1 := Lib.hid h1
  have HW := Lib.hid h
  have HQ := Lib.hid hq
  have HT := Lib.hid ht
  have HT2 := Lib.hid ht2
  have HD := Lib.hid hd
  have HK1 := Lib.hid hk1
  have HK := Lib.hid hk8
  have HR := Lib.hid hr2
  have HQY := Lib.hid hqy
  have HB : Hid (B ≤ w.heap.size) := Lib.hid (Nat.le_trans h.h0 h.bel.size)
  clear e1 e2 ho hr h1 h2 h hd hq ht hk1 hk8 hr2 ht2 kq fq hqy
  go_enter Try.func31, Try.ntmps31
  go_wp2_with fail
  refine HCT.out.mono ?_
  rintro e w1 ⟨A, c, rfl, hkc, hcm, hrd, hws, v1, hw1⟩
  have HRB : Hid (RB w1 A k (s.L.take k)) := Lib.hid (by
    subst hw1
    have := hrd.setCell (p := ⟨y, 2, none⟩) HW.out.hy v1
    exact this.more (by simp; exact HB.out))
  have HDN : Hid (WDone B w0 y q tq { s with L := s.L.drop k } cq w w1) := Lib.hid ⟨hws, by subst hw1; exact HQ.out.far (p := ⟨y, 2, none⟩) HQY.out v1, by subst hw1; exact WF.setY _ _ _⟩
  have KQ1 := KQ.out v1
  have FQ1 := FQ.out v1
  rw [← hw1] at KQ1 FQ1
  clear hws hrd hw1 hkc hcm
  go_wp2_with fail
  refine (get_any A k c (s.L.take k) w1 HRB.out HK1.out HK.out).mono ?_
  rintro e w2 ⟨rfl, hw2⟩
  subst hw2
  go_wp2_with fail
  go_end0
  exact ⟨rfl, HDN.out.setQ hqB HT.out HT2.out o _⟩
theorem whole_any {B : Nat} {w0 : World} {y q : Nat} {s : Wk} {tq : TypeId} {cq : Array Value} (w : World) (k n o : Nat) (h : WS B w0 y s w) (hq : Blk w q tq cq) (hqB : B ≤ q) (ht : tq ≠ 48) (ht2 : tq ≠ 5) (ho : cq[o]? = some (.int .u64 (n : Int))) (hn : n ≤ 18446744073709551615) (hr : Room s k) (hk1 : 1 ≤ k) (hk8 : k ≤ 8) :
    Calls Try.prog 31 #[ptrW y, .int .i64 (k : Int), .pointer (some ⟨q, o, none⟩)] w fun e w' => WEnd B w0 y q tq (s.whole k n) (cq.setIfInBounds o (.int .u64 (s.num k n : Nat))) w e w' := by
  rcases id hr with ⟨hd, _⟩ | ⟨hd, _⟩ | ⟨hd, _⟩
  · exact whole_count w k n o hd h hq ht ho hr
  · exact whole_write w k n o hd h hq ht ht2 ho hn hr hk1 hk8
  · exact whole_read w k n o hd h hq hqB ht ht2 ho hr hk1 hk8
/-- A number as bits. -/
def toU (x : Int) : Nat := (x % 18446744073709551616).toNat
def toI (n : Nat) : Int := if n < 9223372036854775808 then (n : Int) else (n : Int) - 18446744073709551616
/-- Numbers, so wide each. -/
def Wk.nums (k : Nat) : List Nat → Wk → Array Value → Wk × Array Value
  | [], s, c => (s, c)
  | o :: r, s, c => Wk.nums k r (s.whole k (toU (intOf (c.getD o undef)))) (c.setIfInBounds o (.int .i64 (toI (s.num k (toU (intOf (c.getD o undef)))))))
def i64ok (x : Int) : Prop := -9223372036854775808 ≤ x ∧ x ≤ 9223372036854775807
/-- These cells are numbers. -/
def Ints (c : Array Value) (l : List Nat) : Prop := ∀ o ∈ l, ∃ x, c[o]? = some (.int .i64 x) ∧ i64ok x
theorem toU_le (x : Int) : toU x ≤ 18446744073709551615 := by unfold toU; omega
theorem toI_ok {n : Nat} (h : n ≤ 18446744073709551615) : i64ok (toI n) := by unfold toI i64ok; split <;> omega
theorem toI_toU {x : Int} (h : i64ok x) : toI (toU x) = x := by unfold toI toU i64ok at *; split <;> omega
theorem Wk.num_le {s : Wk} {k n : Nat} (h8 : k ≤ 8) (hn : n ≤ 18446744073709551615) : s.num k n ≤ 18446744073709551615 := by
  unfold Wk.num; split
  · exact getB_k h8
  · exact hn
theorem Ints.set {c : Array Value} {l : List Nat} (h : Ints c l) (o : Nat) {x : Int} (hx : i64ok x) : Ints (c.setIfInBounds o (.int .i64 x)) l := by
  intro p hp
  obtain ⟨y, h1, h2⟩ := h p hp
  by_cases e : o = p
  · subst e
    refine ⟨x, ?_, hx⟩
    have hl := (Array.getElem?_eq_some_iff.1 h1).1
    simp [Array.getElem?_setIfInBounds, hl]
  · exact ⟨y, by simp [Array.getElem?_setIfInBounds, e, h1], h2⟩
theorem nums_split (k : Nat) : ∀ (a b : List Nat) (s : Wk) (c : Array Value), Wk.nums k (a ++ b) s c = Wk.nums k b (Wk.nums k a s c).1 (Wk.nums k a s c).2
  | [], _, _, _ => rfl
  | o :: a, b, s, c => by rw [List.cons_append, Wk.nums, nums_split k a b]; rfl
theorem nums_ints (k : Nat) (h8 : k ≤ 8) : ∀ (a : List Nat) (s : Wk) (c : Array Value) (l : List Nat), Ints c l → Ints (Wk.nums k a s c).2 l
  | [], _, _, _, h => h
  | o :: a, s, c, l, h => nums_ints k h8 a _ _ l (h.set o (toI_ok (Wk.num_le h8 (toU_le _))))
theorem nums_room (k : Nat) : ∀ (a : List Nat) (s : Wk) (c : Array Value) (m : Nat), Room s (a.length * k + m) → Room (Wk.nums k a s c).1 m
  | [], _, _, m, h => by simpa [Wk.nums] using h
  | o :: a, s, c, m, h => nums_room k a _ _ m (Room.whole _ (by rw [List.length_cons, Nat.add_mul, Nat.one_mul] at h; exact h.less (by omega)))
theorem nums_does (k : Nat) : ∀ (a : List Nat) (s : Wk) (c : Array Value), (Wk.nums k a s c).1.does = s.does
  | [], _, _ => rfl
  | o :: a, s, c => by rw [Wk.nums, nums_does k a, Wk.whole_does]
/-- A row of pointers into a block. -/
def Ptrs (w : World) (g : Nat) (q : Nat) (l : List Nat) : Prop := Blk w g 65 (l.map fun o => Value.pointer (some ⟨q, o, none⟩)).toArray
end Go.Proofs.Ythlmldbgohnpnaa
