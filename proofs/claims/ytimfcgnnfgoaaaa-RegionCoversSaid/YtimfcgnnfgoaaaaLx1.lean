/- lex: the reader, and what it asks of what is next. -/
import Derived.Test.YtimfcgnnfgoaaaaRows
import Derived.Test.YtimfcgnnfgoaaaaLxSpec
import Derived.Lib.Hide
import Derived.BigQuiet
import Derived.Deep.QuietTactic
namespace Go.Proofs.Ytimfcgnnfgoaaaa
set_option linter.unusedVariables false
set_option linter.unusedSimpArgs false
open Go.RowKit
/-- All blocks but one are kept. -/
structure But (r : Nat) (w w' : World) : Prop where
  os : w'.os = w.os
  tape : w'.tape = w.tape
  output : w'.output = w.output
  size : w.heap.size ≤ w'.heap.size
  block : ∀ k, k < w.heap.size → k ≠ r → w'.heap[k]? = w.heap[k]?
theorem But.refl (r : Nat) (w : World) : But r w w := ⟨rfl, rfl, rfl, Nat.le_refl _, fun _ _ _ => rfl⟩
theorem But.trans {r : Nat} {a b c : World} (h : But r a b) (k : But r b c) : But r a c :=
  ⟨k.os.trans h.os, k.tape.trans h.tape, k.output.trans h.output, Nat.le_trans h.size k.size, fun i hi hr => (k.block i (by have := h.size; omega) hr).trans (h.block i hi hr)⟩
theorem But.of_below {r : Nat} {a b : World} (h : Below a.heap.size a b) : But r a b := ⟨h.os, h.tape, h.output, h.size, fun i hi _ => h.block i hi⟩
theorem But.set {r : Nat} (w : World) (o : Nat) (v : Value) : But r w (w.setCell ⟨r, o, none⟩ v) := by
  have h := (Below.refl r w).setCell (p := ⟨r, o, none⟩) (Nat.le_refl _) v
  refine ⟨h.os, h.tape, h.output, h.size, fun i hi hr => ?_⟩
  exact Below.heap_setCell w ⟨r, o, none⟩ v i hr
theorem Blk.but {r g : Nat} {t : TypeId} {cs : Array Value} {w w' : World} (h : Blk w g t cs) (hb : But r w w') (hr : g ≠ r) : Blk w' g t cs := (hb.block g h.lt hr).trans h
theorem Below.but {B r : Nat} {a w w' : World} (h : Below B a w) (hb : But r w w') (hr : B ≤ r) (hB : B ≤ a.heap.size) : Below B a w' :=
  ⟨hb.os.trans h.os, hb.tape.trans h.tape, hb.output.trans h.output, Nat.le_trans h.size hb.size, fun i hi => (hb.block i (by have := h.size; omega) (by omega)).trans (h.block i hi)⟩
theorem bs0 {c : UInt8} {l : Bs} : (bs (c :: l)).size = l.length + 1 := by rw [bs_size]; rfl
theorem bs_head {c : UInt8} {l : Bs} (h : 0 < (bs (c :: l)).size) : (bs (c :: l))[0] = c := rfl
theorem w64b (c : UInt8) : wrap64 (c.toNat : Int) = c.toNat := by have := c.toNat_lt; unfold wrap64; omega
theorem head_at {w : World} {a : Addr} {c : UInt8} {l : Bs} (h : w.cell? a = some (.string (bs (c :: l)))) : ∃ x : ByteArray, w.cell? a = some (.string x) ∧ ∃ h0 : 0 < x.size, x[0] = c := ⟨_, h, by rw [bs0]; omega, rfl⟩
end Go.Proofs.Ytimfcgnnfgoaaaa
