/- pyramid: a pyramid that is built of points, beside the row of those that may be. -/
import Derived.Test.YtipfhleedfbnaaaPy9
namespace Go.Proofs.Ytipfhleedfbnaaa
set_option linter.unusedVariables false
set_option linter.unusedSimpArgs false
open Go.RowKit
/-- The points that may be, in the order of their codes. -/
def haveK (S : List Pn) : Nat → List Pn
  | 0 => []
  | k + 1 => if fitsB (at_ S k).1 (at_ S k).2 = true then ins (at_ S k) (haveK S k) else haveK S k
theorem haveK_len (S : List Pn) (k : Nat) : (haveK S k).length ≤ k := by
  induction k with
  | zero => exact Nat.le_refl _
  | succ k ih =>
    rw [haveK]
    split
    · rw [ins_length]; omega
    · omega
theorem ins_fit {S : List Pn} {x : Pn} (h : FitS S) (hx : fitsB x.1 x.2 = true) : FitS (ins x S) := by
  intro q hq
  rcases List.mem_cons.1 ((ins_perm x S).mem_iff.1 hq) with rfl | hq
  · exact hx
  · exact h q hq
theorem haveK_fit (S : List Pn) (k : Nat) : FitS (haveK S k) := by
  induction k with
  | zero => intro q hq; cases hq
  | succ k ih =>
    rw [haveK]
    split
    · rename_i h; exact ins_fit ih h
    · exact ih
theorem addS_have (S : List Pn) (k : Nat) : (addS (haveK S k) (at_ S k)).Perm (haveK S (k + 1)) := by
  rw [haveK, addS]
  split
  · exact (ins_perm _ _).symm
  · exact List.Perm.refl _
/-- A pyramid and a row beside it. -/
def PyH (w : World) (y : Nat) (cs : Array Value) (L : List Pn) (B : Nat) (v : Value) (wr : World) : Prop :=
  PyR wr y cs (fun _ => L) B ∧ QOwn wr v L ∧ Below w.heap.size w wr ∧ w.heap.size ≤ y ∧ (∀ l i : Nat, cs[l]? = some (Value.map (some i)) → w.heap.size ≤ i) ∧ ∀ i, v.ownBlock = some i → w.heap.size ≤ i ∧ Out y cs i
theorem PyH.kept {w : World} {y : Nat} {cs : Array Value} {L : List Pn} {B : Nat} {v : Value} {wr : World} (h : PyH w y cs L B v wr) {i : Nat} (hi : i < w.heap.size) : Out y cs i :=
  ⟨by have := h.2.2.2.1; omega, fun l e => by have := h.2.2.2.2.1 l i e; omega⟩
theorem PyH.below {w : World} {y : Nat} {cs : Array Value} {L : List Pn} {B : Nat} {v : Value} {wr X : World} (h : PyH w y cs L B v wr) (hb : Below wr.heap.size wr X) : PyH w y cs L B v X :=
  ⟨h.1.below hb, h.2.1.below hb, below_trans h.2.2.1 hb, h.2.2.2.1, h.2.2.2.2.1, h.2.2.2.2.2⟩
theorem below_kp {y : Nat} {cs cs' : Array Value} {w a b : World} (hw : Below w.heap.size w a) (hk : Kp y cs a cs' b) (ho : ∀ i, i < w.heap.size → Out y cs i) : Below w.heap.size w b :=
  ⟨hk.1.trans hw.os, hk.2.1.trans hw.tape, hk.2.2.1.trans hw.output, Nat.le_trans hw.size hk.2.2.2.1, fun i hi => (hk.2.2.2.2.1 i (Nat.lt_of_lt_of_le hi hw.size) (ho i hi)).trans (hw.block i hi)⟩
/-- The pyramid has been turned; the row is as it was. -/
theorem PyH.act {w : World} {y : Nat} {cs cs' : Array Value} {L M : List Pn} {B C : Nat} {v : Value} {wr X : World} (h : PyH w y cs L B v wr) (hp : PyR X y cs' (fun _ => M) C) (hk : Kp y cs wr cs' X) :
    PyR X y cs' (fun _ => M) C ∧ QOwn X v L ∧ Below w.heap.size w X ∧ w.heap.size ≤ y ∧ (∀ l i : Nat, cs'[l]? = some (Value.map (some i)) → w.heap.size ≤ i) ∧ ∀ i, v.ownBlock = some i → w.heap.size ≤ i ∧ Out y cs' i := by
  obtain ⟨h1, h2, h3, h4, h5, h6⟩ := h
  refine ⟨hp, h2.keep fun i hi e => hk.2.2.2.2.1 i hi (h6 i e).2, below_kp h3 hk fun i hi => ⟨by omega, fun l e => by have := h5 l i e; omega⟩, h4, fun l i e => ?_, fun i hi => ⟨(h6 i hi).1, hk.out (h2.lt hi) (h6 i hi).2⟩⟩
  rcases hk.2.2.2.2.2 l i e with ⟨k, hk2⟩ | hk2
  · exact h5 k i hk2
  · have := h3.size; omega
/-- The row is another one, made since. -/
theorem PyH.row {w : World} {y : Nat} {cs : Array Value} {L M : List Pn} {B : Nat} {v' : Value} {X Y : World} (h1 : PyR X y cs (fun _ => L) B) (h3 : Below w.heap.size w X) (h4 : w.heap.size ≤ y) (h5 : ∀ l i : Nat, cs[l]? = some (Value.map (some i)) → w.heap.size ≤ i) (hb : Below X.heap.size X Y) (hv : QOwn Y v' M) (ho : ∀ i, v'.ownBlock = some i → X.heap.size ≤ i) (hp : L.Perm M) : PyH w y cs M B v' Y :=
  ⟨(h1.below hb).perm fun _ => hp, hv, below_trans h3 hb, h4, h5, fun i hi => ⟨Nat.le_trans h3.size (ho i hi), h1.out (ho i hi)⟩⟩
def BuiltP (w : World) (S : List Pn) (n : Nat) (e : Ending) (w' : World) : Prop :=
  ∃ y cs A c, e = .returned (.tuple #[.pointer (some ⟨y, 0, none⟩), .slice A (haveK S n).length c]) ∧ PyH w y cs (haveK S n) (17 * n) (.slice A (haveK S n).length c) w'
end Go.Proofs.Ytipfhleedfbnaaa
