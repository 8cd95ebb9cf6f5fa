/- policy: value, zoom, who, role, label, where, tiers, by contract. -/
import Derived.Test.YtmgamlpjgghieaaGreatDoorZbPo1
namespace Go.Proofs.YtmgamlpjgghieaaGreatDoor
set_option linter.unusedVariables false
set_option linter.unusedSimpArgs false
open Go.RowKit
abbrev ptrAt (r o : Nat) : Value := .pointer (some ⟨r, o, none⟩)
theorem takesL_t {s : Bs} {L : List Tk} (h : takesB s L = true) : takesL s L = L.tail := by simp [takesL, h]
theorem takesL_f {s : Bs} {L : List Tk} (h : takesB s L = false) : takesL s L = L := by simp [takesL, h]
theorem kindL_t {k : Int} {L : List Tk} (h : kindB k L = true) : kindL k L = L.tail := by simp [kindL, h]
theorem kindL_f {k : Int} {L : List Tk} (h : kindB k L = false) : kindL k L = L := by simp [kindL, h]
theorem kindT_f {k : Int} {L : List Tk} (h : kindB k L = false) : kindT k L = Tk.z := by
  cases L with
  | nil => rfl
  | cons x L => simp [kindB] at h; simp [kindT, h]
end Go.Proofs.YtmgamlpjgghieaaGreatDoor
