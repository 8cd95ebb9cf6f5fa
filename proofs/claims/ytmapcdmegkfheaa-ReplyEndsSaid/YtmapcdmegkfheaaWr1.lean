/- wire: whole and cut, by contract. -/
import Derived.Test.YtmapcdmegkfheaaWr0
namespace Go.Proofs.Ytmapcdmegkfheaa
set_option linter.unusedVariables false
set_option linter.unusedSimpArgs false
open Go.RowKit
theorem WRow.push {B : Nat} {w w' : World} {s : Wk} {v v' : Value} {M : Bs} (hd : s.does = 1) (h : EApp elB v (s.L ++ M) w v' w') (h0 : EOwn elB w v s.L) (hf : ∀ i, v.ownBlock = some i → B ≤ i) (hB : B ≤ w.heap.size) : WRow B w' { s with L := s.L ++ M } v' := by
  obtain ⟨h1, h2, h3⟩ := h
  refine .inr (.inl ⟨hd, h1, fun i hi => ?_⟩)
  rcases h3 i hi with h4 | h4
  · exact hf i h4
  · omega
theorem eapp_keep {w w' : World} {v v' : Value} {L M : Bs} {k : Nat} {t : TypeId} {cs : Array Value} (hA : EApp elB v M w v' w') (h0 : EOwn elB w v L) (hk : Blk w k t cs) (hkt : t ≠ 5) : Blk w' k t cs := by
  refine hk.grown hA.2.1 (fun e => ?_)
  rcases h0 with ⟨rfl, _⟩ | ⟨g', cap, rfl, cur, hb, _⟩
  · simp [Value.ownBlock] at e
  · simp [Value.ownBlock] at e
    subst e
    exact Blk.ne_ hb hk (Ne.symm hkt) rfl
theorem bv_encs (M : Bs) : elB.encs M = bv M := by
  induction M with
  | nil => rfl
  | cons c M ih =>
    have e1 : elB.encs (c :: M) = elB.enc c ++ elB.encs M := rfl
    rw [e1, ih]; rfl
theorem bv_take (l : Bs) (k : Nat) : bv (l.take k) = (bv l).take k := by simp [bv]
theorem bv_drop (l : Bs) (k : Nat) : bv (l.drop k) = (bv l).drop k := by simp [bv]
theorem reads_take {w : World} {B k n : Nat} {A : Option Addr} {xs : List Value} (h : Reads w B 1 A n xs) (hk : k ≤ n) : Reads w B 1 A k (xs.take k) := by
  refine ⟨by rw [List.length_take, h.1]; omega, fun h0 => ?_⟩
  obtain ⟨ad, e, hb, hc⟩ := h.2 (by omega)
  refine ⟨ad, e, hb, fun j u hu => hc j u ?_⟩
  rw [List.getElem?_take] at hu
  split at hu
  · exact hu
  · cases hu
end Go.Proofs.Ytmapcdmegkfheaa
