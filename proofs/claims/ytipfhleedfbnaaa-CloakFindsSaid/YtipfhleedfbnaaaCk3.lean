/- cloak: Right, Does, seek, Find, by contract. -/
import Derived.Test.YtipfhleedfbnaaaCk2
namespace Go.Proofs.Ytipfhleedfbnaaa
set_option linter.unusedVariables false
set_option linter.unusedSimpArgs false
open Go.RowKit
def rightP (K : Int) : Bool := decide (1 ≤ K) && decide (K ≤ 65535)
def doesP (K A n ar : Int) : Bool := rightP K && decide (K ≤ n) && decide (A ≤ ar)
set_option maxHeartbeats 2000000 in
theorem cright_pr (K A : Int) (w : World) : Calls Try.prog 14 #[.agg #[.int .i64 K, .int .u64 A]] w fun e w' => e = .returned (.bool (rightP K)) ∧ Below w.heap.size w w' := by
  have HE := Lib.hid (show rightP K = (decide (1 ≤ K) && decide (K ≤ 65535)) from rfl)
  rw [HE.out]
  by_cases h1 : 1 ≤ K
  · by_cases h2 : K ≤ 65535
    · have e1 := decide_eq_true h1
      have e2 := decide_eq_true h2
      rw [e1, e2]
      go_enter Try.func14, Try.ntmps14
      go_wp2
      go_ret
      exact ⟨rfl, by go_grown⟩
    · have e1 := decide_eq_true h1
      have e2 := decide_eq_false h2
      rw [e1, e2]
      go_enter Try.func14, Try.ntmps14
      go_wp2
      go_ret
      exact ⟨rfl, by go_grown⟩
  · have e1 := decide_eq_false h1
    rw [e1]
    go_enter Try.func14, Try.ntmps14
    go_wp2
    go_ret
    exact ⟨rfl, by go_grown⟩
set_option maxHeartbeats 4000000 in
theorem cdoes_any (K A n ar : Int) (w : World) : Calls Try.prog 27 #[.agg #[.int .i64 K, .int .u64 A], .int .i64 n, .int .u64 ar] w fun e w' => e = .returned (.bool (doesP K A n ar)) ∧ Below w.heap.size w w' := by
  have HE := Lib.hid (show doesP K A n ar = (rightP K && decide (K ≤ n) && decide (A ≤ ar)) from rfl)
  have HR := Lib.hid (cright_pr K A)
  have hA : Below w.heap.size w (w.alloc (.cells #[.int .i64 K, .int .u64 A] 27)) := (Below.refl _ _).alloc (Nat.le_refl _) _
  have HK := Lib.hid (Blk.new w 27 #[.int .i64 K, .int .u64 A])
  have HA := Lib.hid hA; clear hA
  generalize doesP K A n ar = D at *
  generalize rightP K = R at *
  go_enter Try.func27, Try.ntmps27
  go_wp2_with fail
  refine (HR.out _).mono ?_
  rintro e w1 ⟨rfl, hb1⟩
  have HB := Lib.hid (below_trans HA.out hb1)
  have x0 := (HK.out.thru0 hb1).cell 0
  have x1 := (HK.out.thru0 hb1).cell 1
  simp only [List.getElem?_toArray, List.getElem?_cons_zero, List.getElem?_cons_succ] at x0 x1
  clear hb1
  cases R with
  | false =>
    have HE2 := Lib.hid (show D = false by have := HE.out; simpa using this)
    go_wp2
    go_ret
    exact ⟨by rw [HE2.out]; rfl, HB.out⟩
  | true =>
    by_cases h1 : K ≤ n
    · by_cases h2 : A ≤ ar
      · have HE2 := Lib.hid (show D = true by have := HE.out; rw [decide_eq_true h1, decide_eq_true h2] at this; simpa using this)
        go_wp2
        go_ret
        exact ⟨by rw [HE2.out]; rfl, HB.out⟩
      · have HE2 := Lib.hid (show D = false by have := HE.out; rw [decide_eq_false h2] at this; simpa using this)
        have e2 := decide_eq_false h2
        go_wp2
        go_ret
        exact ⟨by rw [HE2.out]; rfl, HB.out⟩
    · have HE2 := Lib.hid (show D = false by have := HE.out; rw [decide_eq_false h1] at this; simpa using this)
      have e1 := decide_eq_false h1
      go_wp2
      go_ret
      exact ⟨by rw [HE2.out]; rfl, HB.out⟩
set_option maxRecDepth 100000 in
set_option maxHeartbeats 4000000 in
theorem find_nil (px py K A : Int) (w : World) : Calls Try.prog 6 #[.pointer none, .agg #[.int .i64 px, .int .i64 py], .agg #[.int .i64 K, .int .u64 A]] w fun e w' => e = .returned (.tuple #[ck0.val, .int .i64 3]) ∧ Below w.heap.size w w' := by
  go_enter Try.func6, Try.ntmps6
  go_wp2
  refine bodyPost_ret (v := .tuple #[ck0.val, .int .i64 3]) ?_ rfl ⟨rfl, by go_grown⟩
  simp [results, Try.results6, go_sem, *, Ck.val, ck0]
/-- The first that does. -/
def firstK (K A : Int) (l : List Ck) : Option Ck := l.find? fun k => doesP K A k.n (areaU k.a k.b k.c k.d)
/-- From a cell on upwards. -/
def seekK (S : List Pn) (K A : Int) : Nat → Int → Int → Option Ck
  | 0, x, y => firstK K A (triedK S 0 x y)
  | l + 1, x, y => (firstK K A (triedK S ((l : Int) + 1) x y)).or (seekK S K A l (x / 2) (y / 2))
/-- seek's rounds. -/
structure SeekSt (w : World) (y : Nat) (cs : Array Value) (S : List Pn) (B : Nat) (K A L x y' : Int) (p3 p4 p6 p8 : Nat) (W : World) : Prop where
  h3 : Blk W p3 35 #[.int .i64 L, .int .i64 x, .int .i64 y']
  h4 : Blk W p4 27 #[.int .i64 K, .int .u64 A]
  h6 : Blk W p6 37 ck0.cells.toArray
  h8 : Blk W p8 37 ck0.cells.toArray
  py : PyR W y cs (fun _ => S) B
  und : Below w.heap.size w W
theorem SeekSt.below {w W X : World} {y : Nat} {cs : Array Value} {S : List Pn} {B : Nat} {K A L x y' : Int} {p3 p4 p6 p8 : Nat} (h : SeekSt w y cs S B K A L x y' p3 p4 p6 p8 W) (hb : Below W.heap.size W X) : SeekSt w y cs S B K A L x y' p3 p4 p6 p8 X :=
  ⟨h.h3.thru0 hb, h.h4.thru0 hb, h.h6.thru0 hb, h.h8.thru0 hb, h.py.below hb, below_trans h.und hb⟩
end Go.Proofs.Ytipfhleedfbnaaa
