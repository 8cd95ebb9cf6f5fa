/- policy: Parse, by contract. -/
import Derived.Test.YtmgamlpjgghieaaGreatDoorZbPo6
import Derived.Test.YtmgamlpjgghieaaGreatDoorZbLr1M
namespace Go.Proofs.YtmgamlpjgghieaaGreatDoor
set_option linter.unusedVariables false
set_option linter.unusedSimpArgs false
open Go.RowKit
theorem toks_513 (l : Bs) : (toks l).1.length ≤ 100000 := by
  unfold toks
  split
  · simp
  · rename_i h
    exact Nat.le_trans (tz_few _ _ _) (by omega)
theorem rcells_one (lv : Value) (d : Dc) (bv : Value) (h1 : lv.oneCell' = true) (h2 : bv.oneCell' = true) : (rcells lv d bv).all (·.oneCell') = true := by
  have e : rcells lv d bv = (lv :: dcells d bv).toArray := rfl
  rw [e]
  refine all_oneCell_toArray fun v hv => ?_
  rcases List.mem_cons.1 hv with rfl | h
  · exact h1
  · exact (Array.all_eq_true_iff_forall_mem.1 (dcells_one d h2)) v (by simpa using h)
theorem Blk.there {w : World} {r : Nat} {t : TypeId} {cs : Array Value} (h : Blk w r t cs) {n : Nat} (hn : n ≤ cs.size) : w.there r 0 n := by
  intro j hj
  refine ⟨?_, h.frozen _⟩
  rw [Blk.cell h (0 + j)]
  have hs : 0 + j < cs.size := by omega
  rw [Array.getElem?_eq_getElem hs]
  rfl
theorem rset_all (lv lv' : Value) (d d' : Dc) (bv bv' : Value) : setsA (rcells lv d bv) 0 (rcells lv' d' bv').toList = rcells lv' d' bv' := by simp [setsA, rcells]
end Go.Proofs.YtmgamlpjgghieaaGreatDoor
