/- reply: a byte behind the last item makes it none: the pure side. -/
import Derived.Test.YtmapcdmegkfheaaRe33
namespace Go.Proofs.Ytmapcdmegkfheaa
set_option linter.unusedVariables false
set_option linter.unusedSimpArgs false
open Go.RowKit
theorem gI_set (R : Bs) (i a k : Nat) (v : UInt8) (h : a + k ≤ i) : gI (R.set i v) a k = gI R a k := by
  have e : ((R.set i v).drop a).take k = (R.drop a).take k := by
    apply List.ext_getElem?
    intro j
    rw [List.getElem?_take, List.getElem?_take, List.getElem?_drop, List.getElem?_drop]
    split
    · rw [List.getElem?_set_ne (by omega)]
    · rfl
  unfold gI; rw [e]
theorem items_set (R : Bs) (i : Nat) (v : UInt8) (h : 3 ≤ i) : itemsR (R.set i v) = itemsR R := by unfold itemsR; rw [gI_set R i 2 1 v (by omega)]
theorem nN_ge (op : Int) (a : An) : 3 ≤ nN op a := by unfold nN; split <;> omega
/-- Bytes of which one behind the last item is 1 are no answer's. -/
theorem ends_bad {w w' : World} {op m : Int} {a a' : An} {L L' : List Snt} {M M' : List Evt} {i : Nat} (h : AnR w a L M) (hma : mayB op m a L M = true) (hs : a.sec ≤ 18446744073709551615)
    (h' : AnR w' a' L' M') (hma' : mayB op m a' L' M' = true) (hs' : a'.sec ≤ 18446744073709551615) (hi : nN op a ≤ i) (hl : i < (encW op m a L M).length) (he : encW op m a' L' M' = (encW op m a L M).set i 1) : False := by
  obtain ⟨b1, _, _, b4⟩ := back_all h hma hs
  obtain ⟨c1, _, _, c4⟩ := back_all h' hma' hs'
  obtain ⟨P', hP, hZ⟩ := zero_behind h' hma' hs'
  have h3 := nN_ge op a
  have s1 : gI (encW op m a L M) 0 1 = a.st := congrArg An.st (b1 none 0 none 0)
  have s2 : gI (encW op m a' L' M') 0 1 = a'.st := congrArg An.st (c1 none 0 none 0)
  rw [he, gI_set _ i 0 1 1 (by omega), s1] at s2
  rw [he, items_set _ i 1 (by omega), b4] at c4
  have hn : nN op a' = nN op a := by unfold nN; rw [← s2, c4]
  have g1 : ((encW op m a L M).set i 1)[i]? = some 1 := by rw [List.getElem?_set_self hl]
  rw [← he, hZ, List.getElem?_append_right (by rw [hP, hn]; exact hi), List.getElem?_replicate] at g1
  split at g1
  · injection g1 with g1; exact absurd g1 (by decide)
  · cases g1
end Go.Proofs.Ytmapcdmegkfheaa
