/- Plain mathematics of layer secret: where a number stands in a row; rows of numbers as they lie. -/
import Derived.Test.YthlmldbgohnpnaaWords
import Derived.Test.YthlmldbgohnpnaaFrame
namespace Go.Proofs.Ythlmldbgohnpnaa
set_option linter.unusedVariables false
set_option linter.unusedSimpArgs false
open Go.RowKit
/-- The first place of s in l; -1: it is not there, or is 0. -/
def fnd (l : List Nat) (s : Nat) : Int := if s ≠ 0 ∧ s ∈ l then (l.idxOf s : Int) else -1
theorem fnd_nil (s : Nat) : fnd [] s = -1 := by simp [fnd]
theorem fnd_ge (l : List Nat) (s : Nat) : -1 ≤ fnd l s := by unfold fnd; split <;> omega
theorem fnd_lt (l : List Nat) (s : Nat) : fnd l s < l.length := by
  unfold fnd
  split
  · rename_i h; have := List.idxOf_lt_length_iff.2 h.2; omega
  · omega
theorem fnd_snoc (l : List Nat) (x s : Nat) : fnd (l ++ [x]) s = if fnd l s < 0 ∧ x = s ∧ s ≠ 0 then (l.length : Int) else fnd l s := by
  by_cases h0 : s = 0
  · subst h0; simp [fnd]
  · by_cases hm : s ∈ l
    · have : fnd l s = (l.idxOf s : Int) := by simp [fnd, h0, hm]
      rw [if_neg (by rw [this]; omega)]
      simp [fnd, h0, hm, List.idxOf_append]
    · have : fnd l s = -1 := by simp [fnd, hm]
      rw [this]
      by_cases hx : x = s
      · subst hx
        simp [fnd, h0, hm, List.idxOf_append]
      · rw [if_neg (by omega)]
        simp [fnd, hm, hx, Ne.symm hx, show ¬ s = x from fun e => hx e.symm]
theorem fnd_keep (l : List Nat) (x s : Nat) (h : ¬ (fnd l s < 0 ∧ x = s ∧ s ≠ 0)) : fnd (l ++ [x]) s = fnd l s := by rw [fnd_snoc, if_neg h]
theorem fnd_hit (l : List Nat) (x s : Nat) (h : fnd l s < 0 ∧ x = s ∧ s ≠ 0) : fnd (l ++ [x]) s = (l.length : Int) := by rw [fnd_snoc, if_pos h]
theorem fnd_zero (l : List Nat) : fnd l 0 = -1 := by simp [fnd]
theorem fnd_neg (l : List Nat) (s : Nat) : fnd l s < 0 ↔ fnd l s = -1 := by have := fnd_ge l s; omega
theorem fnd_mem (l : List Nat) (s : Nat) : 0 ≤ fnd l s ↔ s ≠ 0 ∧ s ∈ l := by
  unfold fnd
  split
  · rename_i h; exact ⟨fun _ => h, fun _ => by omega⟩
  · rename_i h; exact ⟨fun h1 => by omega, fun h1 => absurd h1 h⟩
theorem fnd_at (l : List Nat) (s : Nat) (h : 0 ≤ fnd l s) : l[(fnd l s).toNat]? = some s := by
  have hm := (fnd_mem l s).1 h
  have e : fnd l s = (l.idxOf s : Int) := by unfold fnd; rw [if_pos hm]
  rw [e]
  have hlt := List.idxOf_lt_length_iff.2 hm.2
  simp [List.getElem?_eq_getElem hlt]
theorem fnd_append (m l : List Nat) (s : Nat) (h : fnd m s < 0) : fnd (m ++ l) s = if fnd l s < 0 then -1 else (m.length : Int) + fnd l s := by
  by_cases h0 : s = 0
  · subst h0; simp [fnd]
  · have hm : s ∉ m := fun hm => by have := (fnd_mem m s).2 ⟨h0, hm⟩; omega
    by_cases hl : s ∈ l
    · have h1 : 0 ≤ fnd l s := (fnd_mem l s).2 ⟨h0, hl⟩
      rw [if_neg (by omega)]
      simp [fnd, h0, hm, hl, List.idxOf_append]; omega
    · have h1 : fnd l s = -1 := by simp [fnd, hl]
      rw [h1, if_pos (by omega)]
      simp [fnd, hm, hl]
/-- Numbers as cells. -/
def uv (l : List Nat) : List Value := l.map fun (c : Nat) => Value.int .u64 (c : Int)
theorem uv_length (l : List Nat) : (uv l).length = l.length := by simp [uv]
/-- The slice (A, n) holds these numbers, in blocks that are there. -/
structure RU (w : World) (A : Option Addr) (n : Nat) (l : List Nat) : Prop where
  rd : Reads w w.heap.size 1 A n (uv l)
  le : ∀ x ∈ l, x ≤ 18446744073709551615
theorem RU.len {w : World} {A : Option Addr} {n : Nat} {l : List Nat} (h : RU w A n l) : l.length = n := by have := h.rd.1; simpa [uv_length] using this
theorem RU.at {w : World} {A : Option Addr} {n : Nat} {l : List Nat} (h : RU w A n l) (k : Nat) (hk : k < l.length) : ∃ ad, A = some ad ∧ ad.block < w.heap.size ∧ w.cell? (ad.add k) = some (.int .u64 (l[k] : Int)) := by
  have hl := h.len
  obtain ⟨ad, u, e, hb, hx, hc⟩ := Reads.at_ h.rd (show k < n by omega)
  refine ⟨ad, e, hb, ?_⟩
  rw [hc, ← hx]
  simp [uv, List.getElem?_eq_getElem hk]
theorem RU.below {w w' : World} {A : Option Addr} {n : Nat} {l : List Nat} (h : RU w A n l) (hb : Below w.heap.size w w') : RU w' A n l := ⟨Reads.more (Reads.below h.rd hb) hb.size, h.le⟩
theorem RU.nil_ (w : World) : RU w none 0 [] := ⟨Reads.none_, fun _ h => by cases h⟩
theorem IsRow.ru {w : World} {a : Option Addr} {len cap : Nat} {zs : List Int} (h : IsRow .u64 w a len cap zs) : len ≤ maxLen ∧ ∃ l : List Nat, RU w a len l := by
  rcases h with ⟨rfl, rfl, rfl, rfl⟩ | ⟨x, rfl, hl, hm, hz, hc, hw⟩
  · exact ⟨by decide, [], RU.nil_ w⟩
  · refine ⟨by omega, (zs.take len).map Int.toNat, ⟨by simp [uv_length]; omega, fun hn => ⟨x, rfl, ?_, fun j u hu => ?_⟩⟩, fun y hy => ?_⟩
    · have := block_lt_of_cell (hc 0 (by omega))
      simpa [block_of_add] using this
    · have hj : j < (zs.take len).length := by
        have := (List.getElem?_eq_some_iff.1 hu).1
        simpa [uv] using this
      rw [List.length_take] at hj
      have hzj : j < zs.length := by omega
      rw [hc j hzj, ← hu]
      have hb := bounds_u64 (hw (zs[j]) (List.getElem_mem hzj))
      simp [uv, List.getElem?_take, show j < len by omega, List.getElem?_eq_getElem hzj]
      omega
    · simp only [List.mem_map] at hy
      obtain ⟨z, hz1, rfl⟩ := hy
      have hb := bounds_u64 (hw z (List.mem_of_mem_take hz1))
      omega
theorem RU_new (w : World) (t : TypeId) (l : List Nat) (hl : ∀ x ∈ l, x ≤ 18446744073709551615) (h0 : 0 < l.length) : RU (w.alloc (.cells (uv l).toArray t)) (some ⟨w.heap.size, 0, none⟩) l.length l := by
  refine ⟨⟨by simp [uv_length], fun _ => ⟨_, rfl, by simp, fun j u hu => ?_⟩⟩, hl⟩
  have hk : Blk (w.alloc (.cells (uv l).toArray t)) w.heap.size t (uv l).toArray := Blk.new _ _ _
  have ha : (⟨w.heap.size, 0, none⟩ : Addr).add j = ⟨w.heap.size, j, none⟩ := by unfold Addr.add; split <;> simp_all
  rw [ha, hk.cell, ← hu]
  simp
end Go.Proofs.Ythlmldbgohnpnaa
