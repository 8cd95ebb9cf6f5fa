/- wire: read as it was written, and written as it stood, plainly. -/
import Derived.Test.YthlmldbgohnpnaaWrH
import Derived.Test.YthlmldbgohnpnaaRefPut
namespace Go.Proofs.Ythlmldbgohnpnaa
set_option linter.unusedVariables false
set_option linter.unusedSimpArgs false
open Go.RowKit
theorem wbe_getB (l : List UInt8) : be l.length (getB l) = l := by
  generalize hn : l.length = n
  induction n generalizing l with
  | zero => rw [List.eq_nil_of_length_eq_zero hn]; rfl
  | succ n ih =>
    rcases List.eq_nil_or_concat l with h | ⟨a, c, h⟩
    · subst h; simp at hn
    · have h : l = a ++ [c] := by simpa using h
      subst h
      have hc := c.toNat_lt
      rw [getB_snoc, be_last, show (256 * getB a + c.toNat) / 256 = getB a by omega, show (256 * getB a + c.toNat) % 256 = c.toNat by omega, ih a (by simpa using hn)]
      simp
theorem putL_gN {L : Bs} {a k : Nat} (h : a + k ≤ L.length) : putL (gN L a k) k = (L.drop a).take k := by
  have hl : ((L.drop a).take k).length = k := by rw [List.length_take, List.length_drop]; omega
  have h1 := getB_lt ((L.drop a).take k)
  have h2 := wbe_getB ((L.drop a).take k)
  rw [hl] at h1 h2
  unfold putL gN
  rw [if_pos h1, h2]
theorem gN_lt {L : Bs} {a k : Nat} (h8 : k ≤ 8) : gN L a k ≤ 18446744073709551615 := getB_k (l := L.drop a) h8
theorem toU_nat {n : Nat} (h : n ≤ 18446744073709551615) : toU (n : Int) = n := by unfold toU; omega
theorem pI_gN {L : Bs} {a k : Nat} (h : a + k ≤ L.length) (h8 : k ≤ 8) : pI (gN L a k : Int) k = (L.drop a).take k := by
  unfold pI
  rw [toU_nat (gN_lt h8), putL_gN h]
theorem join2 (L : Bs) (a k m b : Nat) (h : b = a + k) : (L.drop a).take k ++ (L.drop b).take m = (L.drop a).take (k + m) := by
  subst h
  rw [List.take_add, List.drop_drop]
theorem join3 (L : Bs) (a k m b : Nat) (R : Bs) (h : b = a + k) : (L.drop a).take k ++ ((L.drop b).take m ++ R) = (L.drop a).take (k + m) ++ R := by
  rw [← List.append_assoc, join2 L a k m b h]
theorem box_back (M : Bs) (a : Nat) (r : Rq) (h : a + 8 ≤ M.length) : boxW (boxR M a r) = (M.drop a).take 8 := by
  simp only [boxW, boxR]
  rw [pI_gN (by omega) (by decide), pI_gN (by omega) (by decide), pI_gN (by omega) (by decide), pI_gN (by omega) (by decide)]
  rw [join3 M a 2 2 (a + 2) _ (by omega), join3 M a 4 2 (a + 4) _ (by omega), join2 M a 6 2 (a + 6) (by omega)]
theorem head_back (L : Bs) (h : 13 ≤ L.length) : hdW (hdR L) = L.take 13 := by
  simp only [hdW, hdR]
  rw [pI_gN (by omega) (by decide), pI_gN (by omega) (by decide), pI_gN (by omega) (by decide), putL_gN (by omega), pI_gN (by omega) (by decide)]
  rw [join3 L 0 1 1 1 _ rfl, join3 L 0 2 2 2 _ rfl, join3 L 0 4 8 4 _ rfl, join2 L 0 12 1 12 rfl, List.drop_zero]
theorem take_all (M : Bs) {n : Nat} (h : M.length = n) : (M.drop 0).take n = M := by rw [List.drop_zero, List.take_of_length_le (by omega)]
theorem fields_back (k : Nat) (h1 : 1 ≤ k) (h19 : k ≤ 19) (M : Bs) (r : Rq) (h3 : k = 3 → M.length ≤ 512) (hl : k ≠ 3 → M.length = fieldsN k) : fdW k (fdR k M r) = M := by
  have hk : k = 1 ∨ k = 2 ∨ k = 3 ∨ k = 4 ∨ k = 5 ∨ k = 6 ∨ k = 7 ∨ k = 8 ∨ k = 9 ∨ k = 10 ∨ k = 11 ∨ k = 12 ∨ k = 13 ∨ k = 14 ∨ k = 15 ∨ k = 16 ∨ k = 17 ∨ k = 18 ∨ k = 19 := by omega
  rcases hk with rfl | rfl | rfl | rfl | rfl | rfl | rfl | rfl | rfl | rfl | rfl | rfl | rfl | rfl | rfl | rfl | rfl | rfl | rfl
  · have hl : M.length = 6 := hl (by decide)
    simp only [fdW, fdR]
    rw [pI_gN (by omega) (by decide), pI_gN (by omega) (by decide), pI_gN (by omega) (by decide), pI_gN (by omega) (by decide), join3 M 0 2 1 2 _ rfl, join3 M 0 3 1 3 _ rfl, join2 M 0 4 2 4 rfl, take_all M hl]
  · have hl : M.length = 2 := hl (by decide)
    simp only [fdW, fdR]
    rw [pI_gN (by omega) (by decide), take_all M hl]
  · simp only [fdW, fdR]
    exact List.take_of_length_le (h3 rfl)
  · have hl : M.length = 7 := hl (by decide)
    simp only [fdW, fdR]
    rw [pI_gN (by omega) (by decide), pI_gN (by omega) (by decide), pI_gN (by omega) (by decide), join3 M 0 2 1 2 _ rfl, join2 M 0 3 4 3 rfl, take_all M hl]
  · have hl : M.length = 14 := hl (by decide)
    have hb := box_back M 2 r (by omega)
    have e : boxW (fdR 5 M r) = boxW (boxR M 2 r) := rfl
    have e2 : fdW 5 (fdR 5 M r) = pI (gN M 0 1 : Int) 1 ++ (pI (gN M 1 1 : Int) 1 ++ (boxW (fdR 5 M r) ++ pI (gN M 10 4 : Int) 4)) := rfl
    rw [e2, e, hb, pI_gN (by omega) (by decide), pI_gN (by omega) (by decide), pI_gN (by omega) (by decide), join3 M 0 1 1 1 _ rfl, join3 M 0 2 8 2 _ rfl, join2 M 0 10 4 10 rfl, take_all M hl]
  · have hl : M.length = 8 := hl (by decide)
    simp only [fdW, fdR]
    rw [putL_gN (by omega), take_all M hl]
  · have hl : M.length = 10 := hl (by decide)
    simp only [fdW, fdR]
    rw [pI_gN (by omega) (by decide), putL_gN (by omega), join2 M 0 2 8 2 rfl, take_all M hl]
  · have hl : M.length = 5 := hl (by decide)
    simp only [fdW, fdR]
    rw [pI_gN (by omega) (by decide), pI_gN (by omega) (by decide), pI_gN (by omega) (by decide), join3 M 0 2 2 2 _ rfl, join2 M 0 4 1 4 rfl, take_all M hl]
  · exact (List.eq_nil_of_length_eq_zero (hl (by decide))).symm
  · exact (List.eq_nil_of_length_eq_zero (hl (by decide))).symm
  · exact (List.eq_nil_of_length_eq_zero (hl (by decide))).symm
  · exact (List.eq_nil_of_length_eq_zero (hl (by decide))).symm
  · have hl : M.length = 8 := hl (by decide)
    exact (box_back M 0 r (by omega)).trans (take_all M hl)
  · have hl : M.length = 4 := hl (by decide)
    simp only [fdW, fdR]
    rw [pI_gN (by omega) (by decide), pI_gN (by omega) (by decide), join2 M 0 2 2 2 rfl, take_all M hl]
  · have hl : M.length = 8 := hl (by decide)
    exact (box_back M 0 r (by omega)).trans (take_all M hl)
  · have hl : M.length = 4 := hl (by decide)
    simp only [fdW, fdR]
    rw [pI_gN (by omega) (by decide), pI_gN (by omega) (by decide), join2 M 0 2 2 2 rfl, take_all M hl]
  · have hl : M.length = 2 := hl (by decide)
    simp only [fdW, fdR]
    rw [pI_gN (by omega) (by decide), take_all M hl]
  · exact (List.eq_nil_of_length_eq_zero (hl (by decide))).symm
  · have hl : M.length = 4 := hl (by decide)
    simp only [fdW, fdR]
    rw [pI_gN (by omega) (by decide), pI_gN (by omega) (by decide), join2 M 0 2 2 2 rfl, take_all M hl]
theorem fdR_head (k : Nat) (M : Bs) (r : Rq) : (fdR k M r).op = r.op ∧ hdW (fdR k M r) = hdW r := by
  unfold fdR
  split <;> exact ⟨rfl, rfl⟩
/-- What is read is written as it stood. -/
theorem dec_wr {L : Bs} {z : Rq} (h : decR L = (0, z)) : 1 ≤ z.op ∧ z.op ≤ 19 ∧ wrR z = L := by
  unfold decR at h
  by_cases h1 : L.length < 13
  · rw [if_pos h1] at h; cases h
  rw [if_neg h1] at h
  by_cases h2 : 1 ≤ (hdR L).op ∧ (hdR L).op ≤ 19
  rotate_left
  · rw [if_pos h2] at h; cases h
  rw [if_neg (not_not_intro h2)] at h
  by_cases h3 : 64 < (hdR L).m
  · rw [if_pos h3] at h; cases h
  rw [if_neg h3] at h
  obtain ⟨k, hk⟩ : ∃ k : Nat, (hdR L).op = (k : Int) := ⟨(hdR L).op.toNat, by omega⟩
  rw [hk, Int.toNat_natCast] at h
  by_cases h4 : enoughN k (L.length - 13) = 0
  rotate_left
  · rw [if_pos h4] at h
    injection h with h5
    exact absurd h5 h4
  rw [if_neg (not_not_intro h4)] at h
  by_cases h5 : badR k (fdR k (L.drop 13) (hdR L)) = true
  · rw [if_pos h5] at h; cases h
  rw [if_neg h5] at h
  injection h with _ h
  subst h
  obtain ⟨e1, e2⟩ := fdR_head k (L.drop 13) (hdR L)
  refine ⟨by rw [e1]; exact h2.1, by rw [e1]; exact h2.2, ?_⟩
  have hen : ¬ L.length - 13 < fieldsN k ∧ ¬ (if k = 3 then 512 else fieldsN k) < L.length - 13 := by
    unfold enoughN at h4
    by_cases ha : L.length - 13 < fieldsN k
    · rw [if_pos ha] at h4; cases h4
    · rw [if_neg ha] at h4
      by_cases hb : (if k = 3 then 512 else fieldsN k) < L.length - 13
      · rw [if_pos hb] at h4; cases h4
      · exact ⟨ha, hb⟩
  have hfb := fields_back k (by omega) (by omega) (L.drop 13) (hdR L) (fun h => by have := hen.2; rw [if_pos h] at this; rw [List.length_drop]; omega) (fun h => by have := hen.2; rw [if_neg h] at this; have := hen.1; rw [List.length_drop]; omega)
  unfold wrR
  rw [e1, e2, hk, Int.toNat_natCast, hfb, head_back L (by omega), List.take_append_drop]
theorem enc_back {r : Rq} (h : (encR r).1 = 0) : decR (encR r).2 = (0, r) ∧ (encR r).2 = wrR r ∧ 1 ≤ r.op ∧ r.op ≤ 19 := by
  unfold encR at h ⊢
  by_cases h1 : 1 ≤ r.op ∧ r.op ≤ 19
  rotate_left
  · rw [if_pos h1] at h; cases h
  rw [if_neg (not_not_intro h1)] at h ⊢
  by_cases h2 : wrOk r = true
  rotate_left
  · rw [if_neg h2] at h; cases h
  rw [if_pos h2]
  refine ⟨?_, rfl, h1⟩
  simp only [wrOk, Bool.and_eq_true, decide_eq_true_eq, eqQ_iff] at h2
  exact Prod.ext h2.1 h2.2
theorem dec_enc {L : Bs} {z : Rq} (h : decR L = (0, z)) : encR z = (0, L) := by
  obtain ⟨h1, h2, h3⟩ := dec_wr h
  unfold encR
  rw [if_neg (not_not_intro ⟨h1, h2⟩)]
  have : wrOk z = true := by
    simp only [wrOk, Bool.and_eq_true, decide_eq_true_eq, eqQ_iff]
    rw [h3, h]; exact ⟨rfl, rfl⟩
  rw [if_pos this, h3]
theorem dec_bad {L : Bs} (h : (decR L).1 ≠ 0) : (decR L).2 = Rq.z := by
  unfold decR at h ⊢
  repeat' split
  all_goals first | rfl | (exfalso; simp_all)
end Go.Proofs.Ythlmldbgohnpnaa
