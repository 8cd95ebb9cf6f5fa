/- wire: a byte less, a byte more, plainly; rows of bytes made since. -/
import Derived.Test.YthlmldbgohnpnaaWrJ
namespace Go.Proofs.Ythlmldbgohnpnaa
set_option linter.unusedVariables false
set_option linter.unusedSimpArgs false
open Go.RowKit
theorem gN_take (L : Bs) {a k n : Nat} (h : a + k ≤ n) : gN (L.take n) a k = gN L a k := by
  unfold gN
  rw [List.drop_take, List.take_take, Nat.min_eq_left (by omega)]
theorem hdR_take (L : Bs) : hdR (L.take 13) = hdR L := by
  unfold hdR
  rw [gN_take L (by decide), gN_take L (by decide), gN_take L (by decide), gN_take L (by decide), gN_take L (by decide)]
theorem hdR_congr {L M : Bs} (h : L.take 13 = M.take 13) : hdR L = hdR M := by rw [← hdR_take L, h, hdR_take]
/-- What is known of bytes that are a request. -/
theorem dec_parts {L : Bs} {z : Rq} (h : decR L = (0, z)) : ∃ k : Nat, 1 ≤ k ∧ k ≤ 19 ∧ (hdR L).op = (k : Int) ∧ z.op = (k : Int) ∧ ¬ 64 < (hdR L).m ∧ 13 ≤ L.length ∧ (k ≠ 3 → L.length = 13 + fieldsN k) ∧ (k = 3 → z.text.length + 13 = L.length) ∧ badR k z = false := by
  unfold decR at h
  by_cases h1 : L.length < 13
  · rw [if_pos h1] at h; cases h
  rw [if_neg h1] at h
  by_cases h2 : 1 ≤ (hdR L).op ∧ (hdR L).op ≤ 19
  rotate_left
  · rw [if_pos h2] at h; cases h
  rw [if_neg (not_not_intro h2)] at h
  by_cases h3 : 64 < (hdR L).m
  · rw [if_pos h3] at h; cases h
  rw [if_neg h3] at h
  obtain ⟨k, hk⟩ : ∃ k : Nat, (hdR L).op = (k : Int) := ⟨(hdR L).op.toNat, by omega⟩
  rw [hk, Int.toNat_natCast] at h
  by_cases h4 : enoughN k (L.length - 13) = 0
  rotate_left
  · rw [if_pos h4] at h
    injection h with h5
    exact absurd h5 h4
  rw [if_neg (not_not_intro h4)] at h
  by_cases h5 : badR k (fdR k (L.drop 13) (hdR L)) = true
  · rw [if_pos h5] at h; cases h
  rw [if_neg h5] at h
  injection h with _ h
  have e1 := (fdR_head k (L.drop 13) (hdR L)).1
  have hen : ¬ L.length - 13 < fieldsN k ∧ ¬ (if k = 3 then 512 else fieldsN k) < L.length - 13 := by
    unfold enoughN at h4
    by_cases ha : L.length - 13 < fieldsN k
    · rw [if_pos ha] at h4; cases h4
    · rw [if_neg ha] at h4
      by_cases hb : (if k = 3 then 512 else fieldsN k) < L.length - 13
      · rw [if_pos hb] at h4; cases h4
      · exact ⟨ha, hb⟩
  refine ⟨k, by omega, by omega, hk, by rw [← h, e1, hk], h3, by omega, fun hk3 => ?_, fun hk3 => ?_, by rw [← h]; simpa using h5⟩
  · have := hen.2
    rw [if_neg hk3] at this
    have := hen.1
    omega
  · subst hk3
    rw [← h]
    show (L.drop 13).length + 13 = L.length
    rw [List.length_drop]; omega
theorem dec_less {L : Bs} {z : Rq} (h : decR L = (0, z)) (h3 : z.op ≠ 3) : decR (L.take (L.length - 1)) = (50, Rq.z) := by
  obtain ⟨k, h1, h19, e1, e2, hm, hl, hn, _⟩ := dec_parts h
  have hn := hn (by rintro rfl; exact h3 (by rw [e2]; rfl))
  have hlen : (L.take (L.length - 1)).length = L.length - 1 := by rw [List.length_take]; omega
  unfold decR
  by_cases h13 : (L.take (L.length - 1)).length < 13
  · rw [if_pos h13]
  rw [if_neg h13]
  have e : hdR (L.take (L.length - 1)) = hdR L := hdR_congr (by rw [List.take_take, Nat.min_eq_left (by omega)])
  rw [e, e1, Int.toNat_natCast, if_neg (by omega), if_neg hm]
  have : enoughN k ((L.take (L.length - 1)).length - 13) = 50 := by
    unfold enoughN
    rw [if_pos (by omega)]
  rw [this, if_pos (by decide)]
theorem dec_more {L : Bs} {z : Rq} (c : UInt8) (h : decR L = (0, z)) (h3 : z.op ≠ 3) : decR (L ++ [c]) = (2, Rq.z) := by
  obtain ⟨k, h1, h19, e1, e2, hm, hl, hn, _⟩ := dec_parts h
  have hk3 : k ≠ 3 := by rintro rfl; exact h3 (by rw [e2]; rfl)
  have hn := hn hk3
  have hlen : (L ++ [c]).length = L.length + 1 := by simp
  unfold decR
  rw [if_neg (by omega)]
  have e : hdR (L ++ [c]) = hdR L := hdR_congr (by rw [List.take_append_of_le_length hl])
  rw [e, e1, Int.toNat_natCast, if_neg (by omega), if_neg hm]
  have : enoughN k ((L ++ [c]).length - 13) = 2 := by
    unfold enoughN
    rw [if_neg (by omega), if_neg hk3, if_pos (by omega)]
  rw [this, if_pos (by decide)]
/-- A row of bytes made since w. -/
structure FB (w : World) (v : Value) (L : Bs) (wr : World) : Prop where
  own : EOwn elB wr v L
  bel : Below w.heap.size w wr
  far : ∀ i, v.ownBlock = some i → w.heap.size ≤ i
theorem FB.nil_ (w wr : World) (h : Below w.heap.size w wr) : FB w (.slice none 0 0) [] wr := ⟨EOwn.nil_ _, h, fun i hi => by simp [Value.ownBlock] at hi⟩
theorem FB.push {w wr w' : World} {v v' : Value} {L : Bs} {x : UInt8} {o : Obj} (h : FB w v L wr) (ha : EAppended elB v (L ++ [x]) (wr.alloc o) v' w') : FB w v' (L ++ [x]) w' := by
  have hs : w.heap.size ≤ (wr.alloc o).heap.size := by have := h.bel.size; simp; omega
  have hb := ha.below hs h.far
  exact ⟨ha.own, (h.bel.alloc (h.bel.size) o).trans hb.1, hb.2⟩
theorem new_b (w : World) (t : TypeId) (x : UInt8) : ∀ j u, (elB.enc x)[j]? = some u → (w.alloc (.cells #[.int .u8 (x.toNat : Int)] t)).cell? ⟨w.heap.size, j, none⟩ = some u := by
  intro j u hu
  have hk : Blk (w.alloc (.cells #[Value.int .u8 (x.toNat : Int)] t)) w.heap.size t #[Value.int .u8 (x.toNat : Int)] := Blk.new _ _ _
  rw [hk.cell]
  have hj : j = 0 := by have := (List.getElem?_eq_some_iff.1 hu).1; simp [elB] at this; exact this
  subst hj
  simpa [elB] using hu
end Go.Proofs.Ythlmldbgohnpnaa
