/- token: grants and tickets as they lie. -/
import Derived.Test.YtmlmndaflgfdkaaGeomMeet
import Derived.Test.YtmlmndaflgfdkaaGeomRef
import Derived.Test.YtmlmndaflgfdkaaBlk
import Derived.Test.YtmlmndaflgfdkaaSe1
import Derived.Test.YtmlmndaflgfdkaaSe4
import Derived.Deep.MidRow
namespace Go.Proofs.Ytmlmndaflgfdkaa
set_option linter.unusedVariables false
set_option linter.unusedSimpArgs false
open Go.RowKit
/-- A grant. -/
structure Gt where
  ops : Int
  zoom : Int
  x0 : Int
  y0 : Int
  x1 : Int
  y1 : Int
  void : Bool
  til : Int
deriving DecidableEq
/-- A ticket. -/
structure Tk where
  sec : Nat
  par : Nat
  g : Gt
deriving DecidableEq
abbrev Gt.V (g : Gt) : Value := .agg #[.int .i64 g.ops, .int .i64 g.zoom, .int .i64 g.x0, .int .i64 g.y0, .int .i64 g.x1, .int .i64 g.y1, .bool g.void, .int .i64 g.til]
abbrev Tk.V (k : Tk) : Value := .agg #[.int .u64 k.sec, .int .u64 k.par, .int .i64 k.g.ops, .int .i64 k.g.zoom, .int .i64 k.g.x0, .int .i64 k.g.y0, .int .i64 k.g.x1, .int .i64 k.g.y1, .bool k.g.void, .int .i64 k.g.til]
def Gt.zero : Gt := ⟨0, 0, 0, 0, 0, 0, false, 0⟩
def Tk.zero : Tk := ⟨0, 0, Gt.zero⟩
/-- Whole numbers that may be. -/
structure Gt.I (g : Gt) : Prop where
  ops : -9223372036854775808 ≤ g.ops ∧ g.ops ≤ 9223372036854775807
  zoom : -9223372036854775808 ≤ g.zoom ∧ g.zoom ≤ 9223372036854775807
  x0 : -9223372036854775808 ≤ g.x0 ∧ g.x0 ≤ 9223372036854775807
  y0 : -9223372036854775808 ≤ g.y0 ∧ g.y0 ≤ 9223372036854775807
  x1 : -9223372036854775808 ≤ g.x1 ∧ g.x1 ≤ 9223372036854775807
  y1 : -9223372036854775808 ≤ g.y1 ∧ g.y1 ≤ 9223372036854775807
  til : -9223372036854775808 ≤ g.til ∧ g.til ≤ 9223372036854775807
def numsB (g : Gt) : Bool := decide (0 ≤ g.ops ∧ g.ops ≤ 31 ∧ 0 ≤ g.zoom ∧ g.zoom ≤ 16 ∧ 0 ≤ g.til ∧ g.til ≤ 4294967295)
/-- A grant may be. -/
def rightG (g : Gt) : Bool := numsB g && (if g.void then decide (g.x0 = 0 ∧ g.y0 = 0 ∧ g.x1 = 0 ∧ g.y1 = 0) else rightB g.x0 g.y0 g.x1 g.y1)
theorem numsB_iff (g : Gt) : numsB g = true ↔ (0 ≤ g.ops ∧ g.ops ≤ 31 ∧ 0 ≤ g.zoom ∧ g.zoom ≤ 16 ∧ 0 ≤ g.til ∧ g.til ≤ 4294967295) := by simp only [numsB, decide_eq_true_eq]
/-- Two grants together that may be. -/
def meetG (a b : Gt) : Gt :=
  if a.void = false ∧ b.void = false ∧ rightB (max a.x0 b.x0) (max a.y0 b.y0) (min a.x1 b.x1) (min a.y1 b.y1) = true then
    ⟨((a.ops.toNat &&& b.ops.toNat : Nat) : Int), min a.zoom b.zoom, max a.x0 b.x0, max a.y0 b.y0, min a.x1 b.x1, min a.y1 b.y1, false, min a.til b.til⟩
  else ⟨((a.ops.toNat &&& b.ops.toNat : Nat) : Int), min a.zoom b.zoom, 0, 0, 0, 0, true, min a.til b.til⟩
/-- Two grants together. -/
def meetC (a b : Gt) : Gt := if rightG a = true ∧ rightG b = true then meetG a b else Gt.zero
def elT : El Tk := { T := 35, k := 10, by_ := 80, z := Tk.zero.V, enc := fun k => [.int .u64 k.sec, .int .u64 k.par, .int .i64 k.g.ops, .int .i64 k.g.zoom, .int .i64 k.g.x0, .int .i64 k.g.y0, .int .i64 k.g.x1, .int .i64 k.g.y1, .bool k.g.void, .int .i64 k.g.til] }
theorem elT_ok : elT.Ok := ⟨by decide, fun _ => rfl, fun x u hu => by simp only [elT, List.mem_cons, List.not_mem_nil, or_false] at hu; rcases hu with rfl | rfl | rfl | rfl | rfl | rfl | rfl | rfl | rfl | rfl <;> rfl, by kernel_rfl, rfl, by decide⟩
theorem and_le31 (a b : Nat) (ha : a ≤ 31) (hb : b ≤ 31) : a &&& b ≤ 31 := by have : a &&& b ≤ a := Nat.and_le_left; omega
theorem i64_and_small (a b : Int) (ha : 0 ≤ a) (ha' : a ≤ 31) (hb : 0 ≤ b) (hb' : b ≤ 31) : bits .and .i64 a b = ((a.toNat &&& b.toNat : Nat) : Int) := by
  obtain ⟨n, rfl⟩ := Int.eq_ofNat_of_zero_le ha
  obtain ⟨m, rfl⟩ := Int.eq_ofNat_of_zero_le hb
  have h : ∀ n m : Fin 32, bits .and .i64 (n.1 : Int) (m.1 : Int) = ((n.1 &&& m.1 : Nat) : Int) := by decide +kernel
  exact h ⟨n, by omega⟩ ⟨m, by omega⟩
end Go.Proofs.Ytmlmndaflgfdkaa
