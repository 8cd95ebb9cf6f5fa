/- Rows of numbers that are made by appending. -/
import Derived.Test.YthlmldbgohnpnaaSe0
import Derived.Test.YthlmldbgohnpnaaLxRow
namespace Go.Proofs.Ythlmldbgohnpnaa
set_option linter.unusedVariables false
set_option linter.unusedSimpArgs false
open Go.RowKit
/-- Numbers. -/
def elU : El Nat := { T := 23, k := 1, by_ := 8, z := .int .u64 0, enc := fun c => [.int .u64 (c : Int)] }
theorem elU_ok : elU.Ok := ⟨Nat.one_pos, fun _ => rfl, fun x u hu => by simp [elU] at hu; subst hu; rfl, by kernel_rfl, rfl, by decide⟩
theorem elU_encs (L : List Nat) : elU.encs L = uv L := by
  induction L with
  | nil => rfl
  | cons x r ih =>
    have e1 : elU.encs (x :: r) = elU.enc x ++ elU.encs r := rfl
    rw [e1, ih]; rfl
theorem EOwn.ru {w : World} {A : Option Addr} {n c : Nat} {L : List Nat} (h : EOwn elU w (.slice A n c) L) (hl : ∀ x ∈ L, x ≤ 18446744073709551615) : RU w A n L := by
  have h1 := h.own elU_ok
  rw [elU_encs] at h1
  obtain ⟨A', cap, hv, _⟩ := h.slice
  injection hv with e1 e2 e3
  subst e2
  exact ⟨Reads.of_own h1, hl⟩
theorem new_u (w : World) (t : TypeId) (x : Nat) : ∀ j u, (elU.enc x)[j]? = some u → (w.alloc (.cells #[.int .u64 (x : Int)] t)).cell? ⟨w.heap.size, j, none⟩ = some u := by
  intro j u hu
  have hk : Blk (w.alloc (.cells #[Value.int .u64 (x : Int)] t)) w.heap.size t #[Value.int .u64 (x : Int)] := Blk.new _ _ _
  rw [hk.cell]
  have hj : j = 0 := by have := (List.getElem?_eq_some_iff.1 hu).1; simp [elU] at this; exact this
  subst hj
  simpa [elU] using hu
/-- A row made since w. -/
structure FU (w : World) (v : Value) (L : List Nat) (wr : World) : Prop where
  own : EOwn elU wr v L
  bel : Below w.heap.size w wr
  far : ∀ i, v.ownBlock = some i → w.heap.size ≤ i
theorem FU.nil_ (w wr : World) (h : Below w.heap.size w wr) : FU w (.slice none 0 0) [] wr := ⟨EOwn.nil_ _, h, fun i hi => by simp [Value.ownBlock] at hi⟩
theorem FU.push {w wr w' : World} {v v' : Value} {L : List Nat} {x : Nat} {o : Obj} (h : FU w v L wr) (ha : EAppended elU v (L ++ [x]) (wr.alloc o) v' w') : FU w v' (L ++ [x]) w' := by
  have hs : w.heap.size ≤ (wr.alloc o).heap.size := by have := h.bel.size; simp; omega
  have hb := ha.below hs h.far
  exact ⟨ha.own, (h.bel.alloc (h.bel.size) o).trans hb.1, hb.2⟩
end Go.Proofs.Ythlmldbgohnpnaa
