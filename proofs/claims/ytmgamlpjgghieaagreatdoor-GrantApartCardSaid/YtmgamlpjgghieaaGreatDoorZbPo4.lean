/- policy: boxes, by contract. -/
import Derived.Test.YtmgamlpjgghieaaGreatDoorZbPo3
import Derived.Deep.RegionLaw
import Derived.Deep.RegionHeld3
import Derived.RegionTactic
namespace Go.Proofs.YtmgamlpjgghieaaGreatDoor
set_option linter.unusedVariables false
set_option linter.unusedSimpArgs false
open Go.RowKit
section
variable {α : Type} {E : El α}
theorem step_epush {w : World} {ops : Array Oper} {o : Oper} {a : Act} {K : Act → World → Prop} {Q : Exit → Act → World → Prop} {F : Prop} (hE : E.Ok) (hgd : o.guard = none) (s x : Operand) (t : TypeId)
    (ho : o.op = .call { callee := .builtin .append, args := #[s, x], argTypes := #[t, t] }) (ht : Tryz.prog.underlying t = some (.slice E.T)) (v : Value) (L : List α) (e : α) (b c : Nat) (hs : a.eval s = v) (hx : a.eval x = .slice (some ⟨b, 0, none⟩) 1 c)
    (h : EOwn E w v L) (h0 : ∀ j u, (E.enc e)[j]? = some u → w.cell? ⟨b, j, none⟩ = some u) (hl : L.length ≤ 1000000)
    (hK : ∀ v' w', EAppended E v (L ++ [e]) w v' w' → K (a.put o.dst v') w') : if Region.wanted o (yielded ops a.tmps) = true then Oper.wp Tryz.prog o a w K Q else F := by
  have hw : Region.wanted o (yielded ops a.tmps) = true := by simp [Region.wanted, hgd]
  rw [if_pos hw]
  exact wp_epush hE s x t ho ht v L e b c hs hx h h0 hl hK
theorem EOwn.alloc {w : World} {v : Value} {L : List α} (h : EOwn E w v L) (o : Obj) : EOwn E (w.alloc o) v L := h.below ((Below.refl _ _).alloc (Nat.le_refl _) _)
theorem EOwn.drew {w : World} {v : Value} {L : List α} (h : EOwn E w v L) : EOwn E w.drew v L := h
end
theorem new_cell_d (w : World) (cs : Array Value) (t : TypeId) (i : Nat) {v : Value} (h : cs[i]? = some v) : (w.alloc (.cells cs t)).drew.cell? ⟨w.heap.size, i, none⟩ = some v := new_cell w cs t i h
theorem cell_alloc {w : World} {a : Addr} {v : Value} (h : w.cell? a = some v) (o : Obj) : (w.alloc o).cell? a = some v := cell_later ((Below.refl _ _).alloc (Nat.le_refl _) _) h
def But2 (r p : Nat) (w w' : World) : Prop := ∀ a, But r a w → a.heap.size ≤ p → But r a w'
theorem kind_cons {k : Int} {L : List Tk} (h : kindB k L = true) : L.tail.length + 1 = L.length := by
  cases L with
  | nil => simp [kindB] at h
  | cons x L => simp
theorem takes_cons {s : Bs} {L : List Tk} (h : takesB s L = true) : L.tail.length + 1 = L.length := by
  cases L with
  | nil => simp [takesB] at h
  | cons x L => simp
end Go.Proofs.YtmgamlpjgghieaaGreatDoor
