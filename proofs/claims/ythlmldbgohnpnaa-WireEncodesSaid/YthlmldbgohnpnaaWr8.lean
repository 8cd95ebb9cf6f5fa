/- wire: steps over a request's fields, each as a call. -/
import Derived.Test.YthlmldbgohnpnaaWr7
namespace Go.Proofs.Ythlmldbgohnpnaa
set_option linter.unusedVariables false
set_option linter.unusedSimpArgs false
open Go.RowKit
abbrev TQ : TypeId := 31
/-- Where a request's numbers stand. -/
def IL : List Nat := [0, 1, 2, 4, 5, 6, 7, 8, 10, 11, 12, 13, 14, 15, 16, 18, 20, 21, 22, 23]
def uAt (c : Array Value) (o : Nat) : Nat := (intOf (c.getD o undef)).toNat
def tAt (c : Array Value) (o : Nat) : Bs := match c.getD o undef with
  | .string s => s.data.toList
  | _ => []
structure RQ (c : Array Value) : Prop where
  ints : Ints c IL
  u : ∀ o ∈ [3, 17, 19], c[o]? = some (.int .u64 (uAt c o : Int)) ∧ uAt c o ≤ 18446744073709551615
  t : c[9]? = some (.string (bs (tAt c 9))) ∧ (tAt c 9).length ≤ maxLen
inductive Sp where
  | nums (k : Nat) (l : List Nat)
  | ups (most : Int) (l : List Nat)
  | whole (o : Nat)
  | box (o : Nat)
  | text (o : Nat)
def Sp.run : Sp → Wk × Array Value → Wk × Array Value
  | .nums k l, x => Wk.nums k l x.1 x.2
  | .ups m l, x => Wk.ups m l x.1 x.2
  | .whole o, x => (x.1.whole 8 (uAt x.2 o), x.2.setIfInBounds o (.int .u64 (x.1.num 8 (uAt x.2 o) : Nat)))
  | .box o, x => Wk.boxs o x.1 x.2
  | .text o, x => (x.1.txt (tAt x.2 o), x.2.setIfInBounds o (.string (bs (x.1.txtC (tAt x.2 o)))))
def Sp.size : Sp → Nat
  | .nums k l => l.length * k
  | .ups _ l => l.length
  | .whole _ => 8
  | .box _ => 8
  | .text _ => 0
def Sp.ok : Sp → Bool
  | .nums k l => l.all (IL.contains ·) && decide (1 ≤ k) && decide (k ≤ 8) && decide (l.length ≤ 100)
  | .ups m l => l.all (IL.contains ·) && decide (0 ≤ m) && decide (m ≤ 1000) && decide (l.length ≤ 100)
  | .whole o => [3, 17, 19].contains o
  | .box o => (boxL o).all (IL.contains ·)
  | .text o => o == 9
def isText : Sp → Bool
  | .text _ => true
  | _ => false
theorem Ints.sub {c : Array Value} {l m : List Nat} (h : Ints c l) (hm : m.all (l.contains ·) = true) : Ints c m := fun o ho => h o (by have := List.all_eq_true.1 hm o ho; simpa using this)
theorem Sp.room (p : Sp) (x : Wk × Array Value) (m : Nat) (ht : isText p = false) (h : Room x.1 (p.size + m)) : Room (p.run x).1 m := by
  cases p with
  | nums k l => exact nums_room k l _ _ m h
  | ups mo l => exact ups_room mo l _ _ m h
  | whole o => exact Room.whole _ h
  | box o => exact (nums_room 2 (boxL o) _ _ m (by simpa [boxL, Sp.size] using h) : Room (Wk.nums 2 (boxL o) x.1 x.2).1 m)
  | text o => cases ht
/-- The cells that are not numbers are kept by numbers. -/
theorem nums_other (k : Nat) : ∀ (a : List Nat) (s : Wk) (c : Array Value) (p : Nat), p ∉ a → (Wk.nums k a s c).2[p]? = c[p]?
  | [], _, _, _, _ => rfl
  | o :: a, s, c, p, h => by
    rw [Wk.nums, nums_other k a _ _ p (fun h2 => h (List.mem_cons_of_mem _ h2))]
    have : o ≠ p := fun e => h (by rw [e]; exact List.mem_cons_self)
    simp [Array.getElem?_setIfInBounds, this]
theorem RQ.nums {c : Array Value} (h : RQ c) (k : Nat) (l : List Nat) (s : Wk) (h8 : k ≤ 8) (hl : l.all (IL.contains ·) = true) : RQ (Wk.nums k l s c).2 := by
  have hno : ∀ p ∈ [3, 17, 19, 9], p ∉ l := fun p hp hpl => by
    have := List.all_eq_true.1 hl p hpl
    simp only [List.mem_cons, List.not_mem_nil, or_false] at hp
    rcases hp with rfl | rfl | rfl | rfl <;> simp [IL] at this
  refine ⟨nums_ints k h8 l s c IL h.ints, fun o ho => ?_, ?_⟩
  · have e := nums_other k l s c o (hno o (by simp only [List.mem_cons, List.not_mem_nil, or_false] at ho ⊢; omega))
    have e2 : uAt (Wk.nums k l s c).2 o = uAt c o := by simp [uAt, Array.getD_eq_getD_getElem?, e]
    rw [e, e2]; exact h.u o ho
  · have e := nums_other k l s c 9 (hno 9 (by simp))
    have e2 : tAt (Wk.nums k l s c).2 9 = tAt c 9 := by simp [tAt, Array.getD_eq_getD_getElem?, e]
    rw [e, e2]; exact h.t
theorem RQ.setU {c : Array Value} (h : RQ c) (o : Nat) (ho : o ∈ [3, 17, 19]) (n : Nat) (hn : n ≤ 18446744073709551615) : RQ (c.setIfInBounds o (.int .u64 (n : Int))) := by
  have hlo : o < c.size := (Array.getElem?_eq_some_iff.1 (h.u o ho).1).1
  refine ⟨fun p hp => ?_, fun p hp => ?_, ?_⟩
  · have hne : o ≠ p := by rintro rfl; simp only [List.mem_cons, List.not_mem_nil, or_false] at ho; rcases ho with rfl | rfl | rfl <;> simp [IL] at hp
    obtain ⟨x, h1, h2⟩ := h.ints p hp
    exact ⟨x, by simp [Array.getElem?_setIfInBounds, hne, h1], h2⟩
  · by_cases e : o = p
    · subst e
      have e1 : (c.setIfInBounds o (.int .u64 (n : Int)))[o]? = some (.int .u64 (n : Int)) := by simp [Array.getElem?_setIfInBounds, hlo]
      have e2 : uAt (c.setIfInBounds o (.int .u64 (n : Int))) o = n := by simp [uAt, Array.getD_eq_getD_getElem?, e1, intOf]
      rw [e1, e2]; exact ⟨rfl, hn⟩
    · have e1 : (c.setIfInBounds o (.int .u64 (n : Int)))[p]? = c[p]? := by simp [Array.getElem?_setIfInBounds, e]
      have e2 : uAt (c.setIfInBounds o (.int .u64 (n : Int))) p = uAt c p := by simp [uAt, Array.getD_eq_getD_getElem?, e1]
      rw [e1, e2]; exact h.u p hp
  · have hne : o ≠ 9 := by rintro rfl; simp at ho
    have e1 : (c.setIfInBounds o (.int .u64 (n : Int)))[9]? = c[9]? := by simp [Array.getElem?_setIfInBounds, hne]
    have e2 : tAt (c.setIfInBounds o (.int .u64 (n : Int))) 9 = tAt c 9 := by simp [tAt, Array.getD_eq_getD_getElem?, e1]
    rw [e1, e2]; exact h.t
theorem Sp.rq (p : Sp) (x : Wk × Array Value) (ht : isText p = false) (ho : p.ok = true) (h : RQ x.2) : RQ (p.run x).2 := by
  cases p with
  | nums k l =>
    simp only [Sp.ok, Bool.and_eq_true, decide_eq_true_eq] at ho
    exact h.nums k l _ ho.1.2 ho.1.1.1
  | ups m l =>
    simp only [Sp.ok, Bool.and_eq_true, decide_eq_true_eq] at ho
    exact h.nums 1 l _ (by decide) ho.1.1.1
  | whole o =>
    have h1 : o ∈ [3, 17, 19] := by simpa [Sp.ok] using ho
    exact h.setU o h1 _ (Wk.num_le (by decide) (h.u o h1).2)
  | box o => exact (h.nums 2 (boxL o) _ (by decide) ho : RQ (Wk.nums 2 (boxL o) x.1 x.2).2)
  | text o => cases ht
/-- A walk w0 .. wr over the block q: how far it is. -/
structure Go1 (B : Nat) (w0 : World) (y q : Nat) (x : Wk × Array Value) (m : Nat) (w wr : World) : Prop where
  d : WDone B w0 y q TQ x.1 x.2 w wr
  qB : B ≤ q
  rq : RQ x.2
  room : Room x.1 m
  does : x.1.does ≤ 2
theorem Sp.does (p : Sp) (x : Wk × Array Value) : (p.run x).1.does = x.1.does := by
  have tops : ∀ (m : Int) (l : List Nat) (s : Wk) (c : Array Value), (Wk.tops m l s c).does = s.does := by
    intro m l
    induction l with
    | nil => intro s c; rfl
    | cons o l ih => intro s c; rw [Wk.tops, ih]
  cases p with
  | nums k l => exact nums_does k l _ _
  | ups m l => exact (tops m l _ _).trans (nums_does 1 l _ _)
  | whole o => exact Wk.whole_does _ _ _
  | box o => exact (nums_does 2 (boxL o) x.1 x.2 : _)
  | text o => unfold Sp.run Wk.txt; simp only; split <;> (try split) <;> rfl
theorem Go1.next {B : Nat} {w0 w wr w2 : World} {y q m : Nat} {x : Wk × Array Value} (p : Sp) (h : Go1 B w0 y q x (p.size + m) w wr) (ht : isText p = false) (ho : p.ok = true) (hd : WDone B w0 y q TQ (p.run x).1 (p.run x).2 w w2) : Go1 B w0 y q (p.run x) m w w2 :=
  ⟨hd, h.qB, p.rq x ht ho h.rq, p.room x m ht h.room, by rw [Sp.does]; exact h.does⟩
theorem Go1.alloc {B : Nat} {w0 w wr : World} {y q m : Nat} {x : Wk × Array Value} (h : Go1 B w0 y q x m w wr) (o : Obj) : WDone B w0 y q TQ x.1 x.2 w (wr.alloc o) := by
  have hb : Below wr.heap.size wr (wr.alloc o) := (Below.refl _ _).alloc (Nat.le_refl _) o
  exact ⟨h.d.ws.below hb, h.d.bq.thru0 hb, h.d.fr.trans (WF.of_below hb)⟩
def pRow (q : Nat) (l : List Nat) : Array Value := (l.map fun o => Value.pointer (some ⟨q, o, none⟩)).toArray
theorem call_nums {B : Nat} {w0 w wr : World} {y q m : Nat} {x : Wk × Array Value} (k : Nat) (l : List Nat) (h : Go1 B w0 y q x ((Sp.nums k l).size + m) w wr) (ho : (Sp.nums k l).ok = true) :
    Calls Try.prog 30 #[ptrW y, .int .i64 (k : Int), .slice (some ⟨wr.heap.size, 0, none⟩) l.length l.length] (wr.alloc (.cells (pRow q l) 65)) fun e w' => e = .returned (.tuple #[]) ∧ Go1 B w0 y q ((Sp.nums k l).run x) m w w' := by
  have ho2 := ho
  simp only [Sp.ok, Bool.and_eq_true, decide_eq_true_eq] at ho2
  have ha := h.alloc (.cells (pRow q l) 65)
  refine (numbers_any (c := l.length) _ k l ha.ws ha.bq h.qB (by decide) (by decide) (by decide) (Blk.new _ _ _) (h.rq.ints.sub ho2.1.1.1) (h.room.less (Nat.le_add_right _ _)) ho2.1.1.2 ho2.1.2 ho2.2).mono ?_
  rintro e w' ⟨rfl, hd⟩
  exact ⟨rfl, h.next _ rfl ho (ha.more hd)⟩
theorem call_ups {B : Nat} {w0 w wr : World} {y q m : Nat} {x : Wk × Array Value} (k : Int) (l : List Nat) (h : Go1 B w0 y q x ((Sp.ups k l).size + m) w wr) (ho : (Sp.ups k l).ok = true) :
    Calls Try.prog 32 #[ptrW y, .int .i64 k, .slice (some ⟨wr.heap.size, 0, none⟩) l.length l.length] (wr.alloc (.cells (pRow q l) 65)) fun e w' => e = .returned (.tuple #[]) ∧ Go1 B w0 y q ((Sp.ups k l).run x) m w w' := by
  have ho2 := ho
  simp only [Sp.ok, Bool.and_eq_true, decide_eq_true_eq] at ho2
  have ha := h.alloc (.cells (pRow q l) 65)
  refine (upTo_any (c := l.length) _ k l ho2.1.1.2 ho2.1.2 ha.ws ha.bq h.qB (by decide) (by decide) (by decide) (Blk.new _ _ _) (h.rq.ints.sub ho2.1.1.1) (h.room.less (Nat.le_add_right _ _)) ho2.2).mono ?_
  rintro e w' ⟨rfl, hd⟩
  exact ⟨rfl, h.next _ rfl ho (ha.more hd)⟩
theorem call_whole {B : Nat} {w0 w wr : World} {y q m : Nat} {x : Wk × Array Value} (o : Nat) (h : Go1 B w0 y q x ((Sp.whole o).size + m) w wr) (ho : (Sp.whole o).ok = true) :
    Calls Try.prog 31 #[ptrW y, .int .i64 8, .pointer (some ⟨q, o, none⟩)] wr fun e w' => e = .returned (.tuple #[]) ∧ Go1 B w0 y q ((Sp.whole o).run x) m w w' := by
  have h1 : o ∈ [3, 17, 19] := by simpa [Sp.ok] using ho
  refine (whole_any wr 8 (uAt x.2 o) o h.d.ws h.d.bq h.qB (by decide) (by decide) (h.rq.u o h1).1 (h.rq.u o h1).2 (h.room.less (Nat.le_add_right _ _)) (by decide) (by decide)).mono ?_
  rintro e w' ⟨rfl, hd⟩
  exact ⟨rfl, h.next _ rfl ho (h.d.more hd)⟩
theorem call_box {B : Nat} {w0 w wr : World} {y q m : Nat} {x : Wk × Array Value} (o : Nat) (h : Go1 B w0 y q x ((Sp.box o).size + m) w wr) (ho : (Sp.box o).ok = true) :
    Calls Try.prog 34 #[ptrW y, .pointer (some ⟨q, o, none⟩)] wr fun e w' => e = .returned (.tuple #[]) ∧ Go1 B w0 y q ((Sp.box o).run x) m w w' := by
  refine (box_any wr o h.d.ws h.d.bq h.qB (by decide) (by decide) (by decide) (h.rq.ints.sub ho) (h.room.less (Nat.le_add_right _ _))).mono ?_
  rintro e w' ⟨rfl, hd⟩
  exact ⟨rfl, h.next _ rfl ho (h.d.more hd)⟩
theorem call_text {B : Nat} {w0 w wr : World} {y q m : Nat} {x : Wk × Array Value} (h : Go1 B w0 y q x m w wr) :
    Calls Try.prog 33 #[ptrW y, .pointer (some ⟨q, 9, none⟩)] wr fun e w' => e = .returned (.tuple #[]) ∧ WDone B w0 y q TQ ((Sp.text 9).run x).1 ((Sp.text 9).run x).2 w w' := by
  refine (text_any wr 9 (tAt x.2 9) h.does h.d.ws h.d.bq h.qB (by decide) (by decide) h.rq.t.1 (fun hd => by have := h.room; unfold Room at this; omega) h.rq.t.2).mono ?_
  rintro e w' ⟨rfl, hd⟩
  exact ⟨rfl, h.d.more hd⟩
end Go.Proofs.Ythlmldbgohnpnaa
