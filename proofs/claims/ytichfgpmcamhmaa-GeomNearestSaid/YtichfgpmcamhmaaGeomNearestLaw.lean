/- GeomNearest: (P2.3, P2.6) no point of a rectangle is nearer than its nearest one, which is as far as the rectangle, and 0 just for its own points. Conditions: none. -/
import Derived.Test.YtichfgpmcamhmaaGeomU
import Derived.Test.YtichfgpmcamhmaaFrame
import Derived.Lib.SmallJoins
namespace Go.Proofs.Ytichfgpmcamhmaa.geomNearest
set_option linter.unusedVariables false
set_option linter.unusedSimpArgs false
open Go.ChangeShapes Go.WideShapes Go.ChangeAt Go.RowKit
open Go.ChangeMaps (open_string shut_string)
theorem below_then {a b c : World} (k : Below b.heap.size b c) (h : Below a.heap.size a b) : Below a.heap.size a c := below_trans h k
theorem near_zero (a b c d x y : Int) (h : okP a b c d x y = false) : n0 a b c d x y = 0 ∧ n1 a b c d x y = 0 := by simp [n0, n1, h]
theorem g3_le (x q a c : Int) (h1 : a ≤ q) (h2 : q ≤ c) : g3 x a c ≤ gapI x q ∧ 0 ≤ g3 x a c ∧ (q ≠ min (max x a) c → g3 x a c < gapI x q) := by unfold g3 gapI; omega
theorem g3_nil (x a c : Int) (h : a ≤ c) : g3 x a c = 0 ↔ a ≤ x ∧ x ≤ c := by unfold g3; omega
theorem sq_le (u v : Int) (h : 0 ≤ u) (h1 : u ≤ v) : u * u ≤ v * v := Int.mul_le_mul h1 h1 h (by omega)
theorem sq_lt (u v : Int) (h : 0 ≤ u) (h1 : u < v) : u * u < v * v := by
  have h2 : u * u ≤ u * v := Int.mul_le_mul_of_nonneg_left (by omega) h
  have h3 : u * v < v * v := Int.mul_lt_mul_of_pos_right h1 (by omega)
  omega
theorem sq_ge (u : Int) : 0 ≤ u * u := by
  rcases Int.le_total 0 u with h | h
  · exact Int.mul_nonneg h h
  · have := Int.mul_nonneg (show 0 ≤ -u by omega) (show 0 ≤ -u by omega)
    rwa [Int.neg_mul_neg] at this
theorem sq_zero (u : Int) : u * u = 0 ↔ u = 0 := by simp [Int.mul_eq_zero]
theorem near_facts (a b c d x y : Int) (h1 : rightB a b c d = true) (h2 : fitsB x y = true) :
    hasB a b c d (n0 a b c d x y) (n1 a b c d x y) = true ∧ apartU x y (n0 a b c d x y) (n1 a b c d x y) = distU a b c d x y ∧ (distU a b c d x y == 0) = hasB a b c d x y := by
  have e : okP a b c d x y = true := by simp [okP, h1, h2]
  have r := (rightB_iff a b c d).1 h1
  have f := (fitsB_iff x y).1 h2
  have en0 : n0 a b c d x y = min (max x a) c := by simp [n0, e]
  have en1 : n1 a b c d x y = min (max y b) d := by simp [n1, e]
  have hf : fitsB (min (max x a) c) (min (max y b) d) = true := by rw [fitsB_iff]; omega
  have g1 : gapI x (min (max x a) c) = g3 x a c := by unfold gapI g3; omega
  have g2 : gapI y (min (max y b) d) = g3 y b d := by unfold gapI g3; omega
  have hd : distU a b c d x y = g3 x a c * g3 x a c + g3 y b d * g3 y b d := by simp [distU, e]
  refine ⟨?_, ?_, ?_⟩
  · rw [en0, en1, hasB_iff]; omega
  · rw [en0, en1, hd]; simp [apartU, h2, hf, g1, g2]
  · rw [hd, Bool.eq_iff_iff, hasB_iff, beq_iff_eq]
    have z1 := g3_nil x a c (by omega)
    have z2 := g3_nil y b d (by omega)
    have s1 := sq_zero (g3 x a c)
    have s2 := sq_zero (g3 y b d)
    have p1 : 0 ≤ g3 x a c * g3 x a c := sq_ge _
    have p2 : 0 ≤ g3 y b d * g3 y b d := sq_ge _
    constructor
    · intro h
      have q1 := z1.1 (s1.1 (by omega))
      have q2 := z2.1 (s2.1 (by omega))
      omega
    · intro h
      have q1 := s1.2 (z1.2 (by omega))
      have q2 := s2.2 (z2.2 (by omega))
      omega
theorem near_least (a b c d x y x1 y1 : Int) (h1 : rightB a b c d = true) (h2 : fitsB x y = true) (h3 : hasB a b c d x1 y1 = true) :
    distU a b c d x y ≤ apartU x y x1 y1 ∧ (¬ (x1 = n0 a b c d x y ∧ y1 = n1 a b c d x y) → distU a b c d x y < apartU x y x1 y1) := by
  have e : okP a b c d x y = true := by simp [okP, h1, h2]
  have r := (hasB_iff a b c d x1 y1).1 h3
  have f := (fitsB_iff x y).1 h2
  have en0 : n0 a b c d x y = min (max x a) c := by simp [n0, e]
  have en1 : n1 a b c d x y = min (max y b) d := by simp [n1, e]
  have hf : fitsB x1 y1 = true := by rw [fitsB_iff]; omega
  have hd : distU a b c d x y = g3 x a c * g3 x a c + g3 y b d * g3 y b d := by simp [distU, e]
  have ha : apartU x y x1 y1 = gapI x x1 * gapI x x1 + gapI y y1 * gapI y y1 := by simp [apartU, h2, hf]
  obtain ⟨u1, u2, u3⟩ := g3_le x x1 a c (by omega) (by omega)
  obtain ⟨v1, v2, v3⟩ := g3_le y y1 b d (by omega) (by omega)
  have s1 := sq_le _ _ u2 u1
  have s2 := sq_le _ _ v2 v1
  rw [hd, ha]
  refine ⟨by omega, fun hne => ?_⟩
  rw [en0, en1] at hne
  by_cases hx : x1 = min (max x a) c
  · have hy : y1 ≠ min (max y b) d := fun h => hne ⟨hx, h⟩
    have := sq_lt _ _ v2 (v3 hy)
    omega
  · have := sq_lt _ _ u2 (u3 hx)
    omega
set_option maxHeartbeats 1000000 in
theorem walk_no1 (a b c d x y x1 y1 : Int) (w : World)  (h1 : rightB a b c d = false) :
    Calls Try.prog 9 #[.agg #[.int .i64 a, .int .i64 b, .int .i64 c, .int .i64 d], .agg #[.int .i64 x, .int .i64 y], .agg #[.int .i64 x1, .int .i64 y1]] w fun e w' => e = .returned (.bool true) ∧ Below w.heap.size w w' := by
  go_enter Try.func9, Try.ntmps9
  go_wp2_with fail
  have hB0 : Below w.heap.size w (((w.alloc (.cells #[.int .i64 a, .int .i64 b, .int .i64 c, .int .i64 d] 25)).alloc (.cells #[.int .i64 x, .int .i64 y] 23)).alloc (.cells #[.int .i64 x1, .int .i64 y1] 23)) := by go_grown
  have K := blk_three w 25 23 23 #[.int .i64 a, .int .i64 b, .int .i64 c, .int .i64 d] #[.int .i64 x, .int .i64 y] #[.int .i64 x1, .int .i64 y1]
  generalize (((w.alloc (.cells #[.int .i64 a, .int .i64 b, .int .i64 c, .int .i64 d] 25)).alloc (.cells #[.int .i64 x, .int .i64 y] 23)).alloc (.cells #[.int .i64 x1, .int .i64 y1] 23)) = W at hB0 K ⊢
  have k00 := K.1.cell 0
  have k01 := K.1.cell 1
  have k02 := K.1.cell 2
  have k03 := K.1.cell 3
  have k10 := K.2.1.cell 0
  have k11 := K.2.1.cell 1
  have k20 := K.2.2.cell 0
  have k21 := K.2.2.cell 1
  simp only [List.getElem?_toArray, List.getElem?_cons_zero, List.getElem?_cons_succ] at k00 k01 k02 k03 k10 k11 k20 k21
  clear K
  refine (near_no1 _ _ _ _ _ _ h1 _).mono ?_
  rintro e w1 ⟨rfl, hb⟩
  replace k00 := cell_later hb k00
  replace k01 := cell_later hb k01
  replace k02 := cell_later hb k02
  replace k03 := cell_later hb k03
  replace k10 := cell_later hb k10
  replace k11 := cell_later hb k11
  replace k20 := cell_later hb k20
  replace k21 := cell_later hb k21
  replace hB0 := below_trans hB0 hb
  clear hb
  have z0 := block_lt_of_cell k00
  have z1 := block_lt_of_cell k10
  have z2 := block_lt_of_cell k20
  go_wp2_with fail
  have LN : Blk (w1.alloc (.cells #[.int .i64 0, .int .i64 0] 23)) w1.heap.size 23 #[.int .i64 0, .int .i64 0] := Blk.new _ _ _
  have hal : Below w1.heap.size w1 (w1.alloc (.cells #[.int .i64 0, .int .i64 0] 23)) := (Below.refl _ _).alloc (Nat.le_refl _) _
  replace k00 := cell_later hal k00
  replace k01 := cell_later hal k01
  replace k02 := cell_later hal k02
  replace k03 := cell_later hal k03
  replace k10 := cell_later hal k10
  replace k11 := cell_later hal k11
  replace k20 := cell_later hal k20
  replace k21 := cell_later hal k21
  replace hB0 := below_trans hB0 hal
  clear z0 z1 z2
  generalize (w1.alloc (.cells #[.int .i64 0, .int .i64 0] 23)) = W2 at *
  have k30 := LN.cell 0
  have k31 := LN.cell 1
  simp only [List.getElem?_toArray, List.getElem?_cons_zero, List.getElem?_cons_succ] at k30 k31
  clear LN hal
  go_wp2_with (first | (go_at_call 13; refine (right_any _ _ _ _ _).mono ?_; rintro e w5 ⟨rfl, hb⟩; replace k00 := cell_later hb k00; replace k01 := cell_later hb k01; replace k02 := cell_later hb k02; replace k03 := cell_later hb k03; replace k10 := cell_later hb k10; replace k11 := cell_later hb k11; replace k20 := cell_later hb k20; replace k21 := cell_later hb k21; replace k30 := cell_later hb k30; replace k31 := cell_later hb k31; replace hB0 := below_trans hB0 hb; clear hb) | (go_at_call 11; refine (fits_any _ _ _).mono ?_; rintro e w5 ⟨rfl, hb⟩; replace k00 := cell_later hb k00; replace k01 := cell_later hb k01; replace k02 := cell_later hb k02; replace k03 := cell_later hb k03; replace k10 := cell_later hb k10; replace k11 := cell_later hb k11; replace k20 := cell_later hb k20; replace k21 := cell_later hb k21; replace k30 := cell_later hb k30; replace k31 := cell_later hb k31; replace hB0 := below_trans hB0 hb; clear hb) | (go_at_call 31; refine (dist_u _ _ _ _ _ _ _).mono ?_; rintro e w5 ⟨rfl, hb⟩; replace k00 := cell_later hb k00; replace k01 := cell_later hb k01; replace k02 := cell_later hb k02; replace k03 := cell_later hb k03; replace k10 := cell_later hb k10; replace k11 := cell_later hb k11; replace k20 := cell_later hb k20; replace k21 := cell_later hb k21; replace k30 := cell_later hb k30; replace k31 := cell_later hb k31; replace hB0 := below_trans hB0 hb; clear hb) | (go_at_call 15; refine (has_any _ _ _ _ _ _ _).mono ?_; rintro e w5 ⟨rfl, hb⟩; replace k00 := cell_later hb k00; replace k01 := cell_later hb k01; replace k02 := cell_later hb k02; replace k03 := cell_later hb k03; replace k10 := cell_later hb k10; replace k11 := cell_later hb k11; replace k20 := cell_later hb k20; replace k21 := cell_later hb k21; replace k30 := cell_later hb k30; replace k31 := cell_later hb k31; replace hB0 := below_trans hB0 hb; clear hb) | (go_at_call 29; refine (apart_u _ _ _ _ _).mono ?_; rintro e w5 ⟨rfl, hb⟩; replace k00 := cell_later hb k00; replace k01 := cell_later hb k01; replace k02 := cell_later hb k02; replace k03 := cell_later hb k03; replace k10 := cell_later hb k10; replace k11 := cell_later hb k11; replace k20 := cell_later hb k20; replace k21 := cell_later hb k21; replace k30 := cell_later hb k30; replace k31 := cell_later hb k31; replace hB0 := below_trans hB0 hb; clear hb) | (go_at_call 21; refine (known_any _).mono ?_; rintro e w5 ⟨rfl, hb⟩; replace k00 := cell_later hb k00; replace k01 := cell_later hb k01; replace k02 := cell_later hb k02; replace k03 := cell_later hb k03; replace k10 := cell_later hb k10; replace k11 := cell_later hb k11; replace k20 := cell_later hb k20; replace k21 := cell_later hb k21; replace k30 := cell_later hb k30; replace k31 := cell_later hb k31; replace hB0 := below_trans hB0 hb; clear hb))
  all_goals
    go_ret
    exact ⟨rfl, hB0⟩
set_option maxHeartbeats 1000000 in
theorem walk_no2 (a b c d x y x1 y1 : Int) (w : World)  (h1 : rightB a b c d = true) (h2 : fitsB x y = false) :
    Calls Try.prog 9 #[.agg #[.int .i64 a, .int .i64 b, .int .i64 c, .int .i64 d], .agg #[.int .i64 x, .int .i64 y], .agg #[.int .i64 x1, .int .i64 y1]] w fun e w' => e = .returned (.bool true) ∧ Below w.heap.size w w' := by
  go_enter Try.func9, Try.ntmps9
  go_wp2_with fail
  have hB0 : Below w.heap.size w (((w.alloc (.cells #[.int .i64 a, .int .i64 b, .int .i64 c, .int .i64 d] 25)).alloc (.cells #[.int .i64 x, .int .i64 y] 23)).alloc (.cells #[.int .i64 x1, .int .i64 y1] 23)) := by go_grown
  have K := blk_three w 25 23 23 #[.int .i64 a, .int .i64 b, .int .i64 c, .int .i64 d] #[.int .i64 x, .int .i64 y] #[.int .i64 x1, .int .i64 y1]
  generalize (((w.alloc (.cells #[.int .i64 a, .int .i64 b, .int .i64 c, .int .i64 d] 25)).alloc (.cells #[.int .i64 x, .int .i64 y] 23)).alloc (.cells #[.int .i64 x1, .int .i64 y1] 23)) = W at hB0 K ⊢
  have k00 := K.1.cell 0
  have k01 := K.1.cell 1
  have k02 := K.1.cell 2
  have k03 := K.1.cell 3
  have k10 := K.2.1.cell 0
  have k11 := K.2.1.cell 1
  have k20 := K.2.2.cell 0
  have k21 := K.2.2.cell 1
  simp only [List.getElem?_toArray, List.getElem?_cons_zero, List.getElem?_cons_succ] at k00 k01 k02 k03 k10 k11 k20 k21
  clear K
  refine (near_no2 _ _ _ _ _ _ h1 h2 _).mono ?_
  rintro e w1 ⟨rfl, hb⟩
  replace k00 := cell_later hb k00
  replace k01 := cell_later hb k01
  replace k02 := cell_later hb k02
  replace k03 := cell_later hb k03
  replace k10 := cell_later hb k10
  replace k11 := cell_later hb k11
  replace k20 := cell_later hb k20
  replace k21 := cell_later hb k21
  replace hB0 := below_trans hB0 hb
  clear hb
  have z0 := block_lt_of_cell k00
  have z1 := block_lt_of_cell k10
  have z2 := block_lt_of_cell k20
  go_wp2_with fail
  have LN : Blk (w1.alloc (.cells #[.int .i64 0, .int .i64 0] 23)) w1.heap.size 23 #[.int .i64 0, .int .i64 0] := Blk.new _ _ _
  have hal : Below w1.heap.size w1 (w1.alloc (.cells #[.int .i64 0, .int .i64 0] 23)) := (Below.refl _ _).alloc (Nat.le_refl _) _
  replace k00 := cell_later hal k00
  replace k01 := cell_later hal k01
  replace k02 := cell_later hal k02
  replace k03 := cell_later hal k03
  replace k10 := cell_later hal k10
  replace k11 := cell_later hal k11
  replace k20 := cell_later hal k20
  replace k21 := cell_later hal k21
  replace hB0 := below_trans hB0 hal
  clear z0 z1 z2
  generalize (w1.alloc (.cells #[.int .i64 0, .int .i64 0] 23)) = W2 at *
  have k30 := LN.cell 0
  have k31 := LN.cell 1
  simp only [List.getElem?_toArray, List.getElem?_cons_zero, List.getElem?_cons_succ] at k30 k31
  clear LN hal
  go_wp2_with (first | (go_at_call 13; refine (right_any _ _ _ _ _).mono ?_; rintro e w5 ⟨rfl, hb⟩; replace k00 := cell_later hb k00; replace k01 := cell_later hb k01; replace k02 := cell_later hb k02; replace k03 := cell_later hb k03; replace k10 := cell_later hb k10; replace k11 := cell_later hb k11; replace k20 := cell_later hb k20; replace k21 := cell_later hb k21; replace k30 := cell_later hb k30; replace k31 := cell_later hb k31; replace hB0 := below_trans hB0 hb; clear hb) | (go_at_call 11; refine (fits_any _ _ _).mono ?_; rintro e w5 ⟨rfl, hb⟩; replace k00 := cell_later hb k00; replace k01 := cell_later hb k01; replace k02 := cell_later hb k02; replace k03 := cell_later hb k03; replace k10 := cell_later hb k10; replace k11 := cell_later hb k11; replace k20 := cell_later hb k20; replace k21 := cell_later hb k21; replace k30 := cell_later hb k30; replace k31 := cell_later hb k31; replace hB0 := below_trans hB0 hb; clear hb) | (go_at_call 31; refine (dist_u _ _ _ _ _ _ _).mono ?_; rintro e w5 ⟨rfl, hb⟩; replace k00 := cell_later hb k00; replace k01 := cell_later hb k01; replace k02 := cell_later hb k02; replace k03 := cell_later hb k03; replace k10 := cell_later hb k10; replace k11 := cell_later hb k11; replace k20 := cell_later hb k20; replace k21 := cell_later hb k21; replace k30 := cell_later hb k30; replace k31 := cell_later hb k31; replace hB0 := below_trans hB0 hb; clear hb) | (go_at_call 15; refine (has_any _ _ _ _ _ _ _).mono ?_; rintro e w5 ⟨rfl, hb⟩; replace k00 := cell_later hb k00; replace k01 := cell_later hb k01; replace k02 := cell_later hb k02; replace k03 := cell_later hb k03; replace k10 := cell_later hb k10; replace k11 := cell_later hb k11; replace k20 := cell_later hb k20; replace k21 := cell_later hb k21; replace k30 := cell_later hb k30; replace k31 := cell_later hb k31; replace hB0 := below_trans hB0 hb; clear hb) | (go_at_call 29; refine (apart_u _ _ _ _ _).mono ?_; rintro e w5 ⟨rfl, hb⟩; replace k00 := cell_later hb k00; replace k01 := cell_later hb k01; replace k02 := cell_later hb k02; replace k03 := cell_later hb k03; replace k10 := cell_later hb k10; replace k11 := cell_later hb k11; replace k20 := cell_later hb k20; replace k21 := cell_later hb k21; replace k30 := cell_later hb k30; replace k31 := cell_later hb k31; replace hB0 := below_trans hB0 hb; clear hb) | (go_at_call 21; refine (known_any _).mono ?_; rintro e w5 ⟨rfl, hb⟩; replace k00 := cell_later hb k00; replace k01 := cell_later hb k01; replace k02 := cell_later hb k02; replace k03 := cell_later hb k03; replace k10 := cell_later hb k10; replace k11 := cell_later hb k11; replace k20 := cell_later hb k20; replace k21 := cell_later hb k21; replace k30 := cell_later hb k30; replace k31 := cell_later hb k31; replace hB0 := below_trans hB0 hb; clear hb))
  all_goals
    go_ret
    exact ⟨rfl, hB0⟩
set_option maxHeartbeats 2000000 in
theorem walk_y0 (a b c d x y x1 y1 : Int) (w : World)  (h1 : rightB a b c d = true) (h2 : fitsB x y = true) (h3 : hasB a b c d x1 y1 = false) :
    Calls Try.prog 9 #[.agg #[.int .i64 a, .int .i64 b, .int .i64 c, .int .i64 d], .agg #[.int .i64 x, .int .i64 y], .agg #[.int .i64 x1, .int .i64 y1]] w fun e w' => e = .returned (.bool true) ∧ Below w.heap.size w w' := by
  obtain ⟨e1, e2, e3⟩ := near_facts a b c d x y h1 h2
  go_enter Try.func9, Try.ntmps9
  go_wp2_with fail
  have hB0 : Below w.heap.size w (((w.alloc (.cells #[.int .i64 a, .int .i64 b, .int .i64 c, .int .i64 d] 25)).alloc (.cells #[.int .i64 x, .int .i64 y] 23)).alloc (.cells #[.int .i64 x1, .int .i64 y1] 23)) := by go_grown
  have K := blk_three w 25 23 23 #[.int .i64 a, .int .i64 b, .int .i64 c, .int .i64 d] #[.int .i64 x, .int .i64 y] #[.int .i64 x1, .int .i64 y1]
  generalize (((w.alloc (.cells #[.int .i64 a, .int .i64 b, .int .i64 c, .int .i64 d] 25)).alloc (.cells #[.int .i64 x, .int .i64 y] 23)).alloc (.cells #[.int .i64 x1, .int .i64 y1] 23)) = W at hB0 K ⊢
  have k00 := K.1.cell 0
  have k01 := K.1.cell 1
  have k02 := K.1.cell 2
  have k03 := K.1.cell 3
  have k10 := K.2.1.cell 0
  have k11 := K.2.1.cell 1
  have k20 := K.2.2.cell 0
  have k21 := K.2.2.cell 1
  simp only [List.getElem?_toArray, List.getElem?_cons_zero, List.getElem?_cons_succ] at k00 k01 k02 k03 k10 k11 k20 k21
  clear K
  refine (near_u _ _ _ _ _ _ _).mono ?_
  rintro e w1 ⟨rfl, hb⟩
  replace k00 := cell_later hb k00
  replace k01 := cell_later hb k01
  replace k02 := cell_later hb k02
  replace k03 := cell_later hb k03
  replace k10 := cell_later hb k10
  replace k11 := cell_later hb k11
  replace k20 := cell_later hb k20
  replace k21 := cell_later hb k21
  replace hB0 := below_trans hB0 hb
  clear hb
  have z0 := block_lt_of_cell k00
  have z1 := block_lt_of_cell k10
  have z2 := block_lt_of_cell k20
  go_wp2_with fail
  have LN : Blk (w1.alloc (.cells #[.int .i64 (n0 a b c d x y), .int .i64 (n1 a b c d x y)] 23)) w1.heap.size 23 #[.int .i64 (n0 a b c d x y), .int .i64 (n1 a b c d x y)] := Blk.new _ _ _
  have hal : Below w1.heap.size w1 (w1.alloc (.cells #[.int .i64 (n0 a b c d x y), .int .i64 (n1 a b c d x y)] 23)) := (Below.refl _ _).alloc (Nat.le_refl _) _
  replace k00 := cell_later hal k00
  replace k01 := cell_later hal k01
  replace k02 := cell_later hal k02
  replace k03 := cell_later hal k03
  replace k10 := cell_later hal k10
  replace k11 := cell_later hal k11
  replace k20 := cell_later hal k20
  replace k21 := cell_later hal k21
  replace hB0 := below_trans hB0 hal
  clear z0 z1 z2
  generalize (w1.alloc (.cells #[.int .i64 (n0 a b c d x y), .int .i64 (n1 a b c d x y)] 23)) = W2 at *
  have k30 := LN.cell 0
  have k31 := LN.cell 1
  simp only [List.getElem?_toArray, List.getElem?_cons_zero, List.getElem?_cons_succ] at k30 k31
  clear LN hal
  go_wp2_with (first | (go_at_call 13; refine (right_any _ _ _ _ _).mono ?_; rintro e w5 ⟨rfl, hb⟩; replace k00 := cell_later hb k00; replace k01 := cell_later hb k01; replace k02 := cell_later hb k02; replace k03 := cell_later hb k03; replace k10 := cell_later hb k10; replace k11 := cell_later hb k11; replace k20 := cell_later hb k20; replace k21 := cell_later hb k21; replace k30 := cell_later hb k30; replace k31 := cell_later hb k31; replace hB0 := below_trans hB0 hb; clear hb) | (go_at_call 11; refine (fits_any _ _ _).mono ?_; rintro e w5 ⟨rfl, hb⟩; replace k00 := cell_later hb k00; replace k01 := cell_later hb k01; replace k02 := cell_later hb k02; replace k03 := cell_later hb k03; replace k10 := cell_later hb k10; replace k11 := cell_later hb k11; replace k20 := cell_later hb k20; replace k21 := cell_later hb k21; replace k30 := cell_later hb k30; replace k31 := cell_later hb k31; replace hB0 := below_trans hB0 hb; clear hb) | (go_at_call 31; refine (dist_u _ _ _ _ _ _ _).mono ?_; rintro e w5 ⟨rfl, hb⟩; replace k00 := cell_later hb k00; replace k01 := cell_later hb k01; replace k02 := cell_later hb k02; replace k03 := cell_later hb k03; replace k10 := cell_later hb k10; replace k11 := cell_later hb k11; replace k20 := cell_later hb k20; replace k21 := cell_later hb k21; replace k30 := cell_later hb k30; replace k31 := cell_later hb k31; replace hB0 := below_trans hB0 hb; clear hb) | (go_at_call 15; refine (has_any _ _ _ _ _ _ _).mono ?_; rintro e w5 ⟨rfl, hb⟩; replace k00 := cell_later hb k00; replace k01 := cell_later hb k01; replace k02 := cell_later hb k02; replace k03 := cell_later hb k03; replace k10 := cell_later hb k10; replace k11 := cell_later hb k11; replace k20 := cell_later hb k20; replace k21 := cell_later hb k21; replace k30 := cell_later hb k30; replace k31 := cell_later hb k31; replace hB0 := below_trans hB0 hb; clear hb) | (go_at_call 29; refine (apart_u _ _ _ _ _).mono ?_; rintro e w5 ⟨rfl, hb⟩; replace k00 := cell_later hb k00; replace k01 := cell_later hb k01; replace k02 := cell_later hb k02; replace k03 := cell_later hb k03; replace k10 := cell_later hb k10; replace k11 := cell_later hb k11; replace k20 := cell_later hb k20; replace k21 := cell_later hb k21; replace k30 := cell_later hb k30; replace k31 := cell_later hb k31; replace hB0 := below_trans hB0 hb; clear hb) | (go_at_call 21; refine (known_any _).mono ?_; rintro e w5 ⟨rfl, hb⟩; replace k00 := cell_later hb k00; replace k01 := cell_later hb k01; replace k02 := cell_later hb k02; replace k03 := cell_later hb k03; replace k10 := cell_later hb k10; replace k11 := cell_later hb k11; replace k20 := cell_later hb k20; replace k21 := cell_later hb k21; replace k30 := cell_later hb k30; replace k31 := cell_later hb k31; replace hB0 := below_trans hB0 hb; clear hb))
  all_goals
    go_ret
    exact ⟨rfl, hB0⟩
set_option maxHeartbeats 4000000 in
theorem walk_y1 (a b c d x y x1 y1 : Int) (w : World)  (h1 : rightB a b c d = true) (h2 : fitsB x y = true) (h3 : hasB a b c d x1 y1 = true) :
    Calls Try.prog 9 #[.agg #[.int .i64 a, .int .i64 b, .int .i64 c, .int .i64 d], .agg #[.int .i64 x, .int .i64 y], .agg #[.int .i64 x1, .int .i64 y1]] w fun e w' => e = .returned (.bool true) ∧ Below w.heap.size w w' := by
  obtain ⟨e1, e2, e3⟩ := near_facts a b c d x y h1 h2
  obtain ⟨e4, e5⟩ := near_least a b c d x y x1 y1 h1 h2 h3
  by_cases hx : x1 = n0 a b c d x y
  · by_cases hy : y1 = n1 a b c d x y
    · have t1 : (x1 == n0 a b c d x y) = true := beq_iff_eq.2 hx
      have t2 : (y1 == n1 a b c d x y) = true := beq_iff_eq.2 hy
      clear hx hy e5
      go_enter Try.func9, Try.ntmps9
      go_wp2_with fail
      have hB0 : Below w.heap.size w (((w.alloc (.cells #[.int .i64 a, .int .i64 b, .int .i64 c, .int .i64 d] 25)).alloc (.cells #[.int .i64 x, .int .i64 y] 23)).alloc (.cells #[.int .i64 x1, .int .i64 y1] 23)) := by go_grown
      have K := blk_three w 25 23 23 #[.int .i64 a, .int .i64 b, .int .i64 c, .int .i64 d] #[.int .i64 x, .int .i64 y] #[.int .i64 x1, .int .i64 y1]
      generalize (((w.alloc (.cells #[.int .i64 a, .int .i64 b, .int .i64 c, .int .i64 d] 25)).alloc (.cells #[.int .i64 x, .int .i64 y] 23)).alloc (.cells #[.int .i64 x1, .int .i64 y1] 23)) = W at hB0 K ⊢
      have k00 := K.1.cell 0
      have k01 := K.1.cell 1
      have k02 := K.1.cell 2
      have k03 := K.1.cell 3
      have k10 := K.2.1.cell 0
      have k11 := K.2.1.cell 1
      have k20 := K.2.2.cell 0
      have k21 := K.2.2.cell 1
      simp only [List.getElem?_toArray, List.getElem?_cons_zero, List.getElem?_cons_succ] at k00 k01 k02 k03 k10 k11 k20 k21
      clear K
      refine (near_u _ _ _ _ _ _ _).mono ?_
      rintro e w1 ⟨rfl, hb⟩
      replace k00 := cell_later hb k00
      replace k01 := cell_later hb k01
      replace k02 := cell_later hb k02
      replace k03 := cell_later hb k03
      replace k10 := cell_later hb k10
      replace k11 := cell_later hb k11
      replace k20 := cell_later hb k20
      replace k21 := cell_later hb k21
      replace hB0 := below_trans hB0 hb
      clear hb
      have z0 := block_lt_of_cell k00
      have z1 := block_lt_of_cell k10
      have z2 := block_lt_of_cell k20
      go_wp2_with fail
      have LN : Blk (w1.alloc (.cells #[.int .i64 (n0 a b c d x y), .int .i64 (n1 a b c d x y)] 23)) w1.heap.size 23 #[.int .i64 (n0 a b c d x y), .int .i64 (n1 a b c d x y)] := Blk.new _ _ _
      have hal : Below w1.heap.size w1 (w1.alloc (.cells #[.int .i64 (n0 a b c d x y), .int .i64 (n1 a b c d x y)] 23)) := (Below.refl _ _).alloc (Nat.le_refl _) _
      replace k00 := cell_later hal k00
      replace k01 := cell_later hal k01
      replace k02 := cell_later hal k02
      replace k03 := cell_later hal k03
      replace k10 := cell_later hal k10
      replace k11 := cell_later hal k11
      replace k20 := cell_later hal k20
      replace k21 := cell_later hal k21
      replace hB0 := below_trans hB0 hal
      clear z0 z1 z2
      generalize (w1.alloc (.cells #[.int .i64 (n0 a b c d x y), .int .i64 (n1 a b c d x y)] 23)) = W2 at *
      have k30 := LN.cell 0
      have k31 := LN.cell 1
      simp only [List.getElem?_toArray, List.getElem?_cons_zero, List.getElem?_cons_succ] at k30 k31
      clear LN hal
      go_wp2_with (first | (go_at_call 13; refine (right_any _ _ _ _ _).mono ?_; rintro e w5 ⟨rfl, hb⟩; replace k00 := cell_later hb k00; replace k01 := cell_later hb k01; replace k02 := cell_later hb k02; replace k03 := cell_later hb k03; replace k10 := cell_later hb k10; replace k11 := cell_later hb k11; replace k20 := cell_later hb k20; replace k21 := cell_later hb k21; replace k30 := cell_later hb k30; replace k31 := cell_later hb k31; replace hB0 := below_trans hB0 hb; clear hb) | (go_at_call 11; refine (fits_any _ _ _).mono ?_; rintro e w5 ⟨rfl, hb⟩; replace k00 := cell_later hb k00; replace k01 := cell_later hb k01; replace k02 := cell_later hb k02; replace k03 := cell_later hb k03; replace k10 := cell_later hb k10; replace k11 := cell_later hb k11; replace k20 := cell_later hb k20; replace k21 := cell_later hb k21; replace k30 := cell_later hb k30; replace k31 := cell_later hb k31; replace hB0 := below_trans hB0 hb; clear hb) | (go_at_call 31; refine (dist_u _ _ _ _ _ _ _).mono ?_; rintro e w5 ⟨rfl, hb⟩; replace k00 := cell_later hb k00; replace k01 := cell_later hb k01; replace k02 := cell_later hb k02; replace k03 := cell_later hb k03; replace k10 := cell_later hb k10; replace k11 := cell_later hb k11; replace k20 := cell_later hb k20; replace k21 := cell_later hb k21; replace k30 := cell_later hb k30; replace k31 := cell_later hb k31; replace hB0 := below_trans hB0 hb; clear hb) | (go_at_call 15; refine (has_any _ _ _ _ _ _ _).mono ?_; rintro e w5 ⟨rfl, hb⟩; replace k00 := cell_later hb k00; replace k01 := cell_later hb k01; replace k02 := cell_later hb k02; replace k03 := cell_later hb k03; replace k10 := cell_later hb k10; replace k11 := cell_later hb k11; replace k20 := cell_later hb k20; replace k21 := cell_later hb k21; replace k30 := cell_later hb k30; replace k31 := cell_later hb k31; replace hB0 := below_trans hB0 hb; clear hb) | (go_at_call 29; refine (apart_u _ _ _ _ _).mono ?_; rintro e w5 ⟨rfl, hb⟩; replace k00 := cell_later hb k00; replace k01 := cell_later hb k01; replace k02 := cell_later hb k02; replace k03 := cell_later hb k03; replace k10 := cell_later hb k10; replace k11 := cell_later hb k11; replace k20 := cell_later hb k20; replace k21 := cell_later hb k21; replace k30 := cell_later hb k30; replace k31 := cell_later hb k31; replace hB0 := below_trans hB0 hb; clear hb) | (go_at_call 21; refine (known_any _).mono ?_; rintro e w5 ⟨rfl, hb⟩; replace k00 := cell_later hb k00; replace k01 := cell_later hb k01; replace k02 := cell_later hb k02; replace k03 := cell_later hb k03; replace k10 := cell_later hb k10; replace k11 := cell_later hb k11; replace k20 := cell_later hb k20; replace k21 := cell_later hb k21; replace k30 := cell_later hb k30; replace k31 := cell_later hb k31; replace hB0 := below_trans hB0 hb; clear hb))
      all_goals
        go_ret
        exact ⟨rfl, hB0⟩
    · have e6 := e5 (fun h => hy h.2)
      have t1 : (x1 == n0 a b c d x y) = true := beq_iff_eq.2 hx
      have t2 : (y1 == n1 a b c d x y) = false := beq_eq_false_iff_ne.2 hy
      clear hx hy e5
      go_enter Try.func9, Try.ntmps9
      go_wp2_with fail
      have hB0 : Below w.heap.size w (((w.alloc (.cells #[.int .i64 a, .int .i64 b, .int .i64 c, .int .i64 d] 25)).alloc (.cells #[.int .i64 x, .int .i64 y] 23)).alloc (.cells #[.int .i64 x1, .int .i64 y1] 23)) := by go_grown
      have K := blk_three w 25 23 23 #[.int .i64 a, .int .i64 b, .int .i64 c, .int .i64 d] #[.int .i64 x, .int .i64 y] #[.int .i64 x1, .int .i64 y1]
      generalize (((w.alloc (.cells #[.int .i64 a, .int .i64 b, .int .i64 c, .int .i64 d] 25)).alloc (.cells #[.int .i64 x, .int .i64 y] 23)).alloc (.cells #[.int .i64 x1, .int .i64 y1] 23)) = W at hB0 K ⊢
      have k00 := K.1.cell 0
      have k01 := K.1.cell 1
      have k02 := K.1.cell 2
      have k03 := K.1.cell 3
      have k10 := K.2.1.cell 0
      have k11 := K.2.1.cell 1
      have k20 := K.2.2.cell 0
      have k21 := K.2.2.cell 1
      simp only [List.getElem?_toArray, List.getElem?_cons_zero, List.getElem?_cons_succ] at k00 k01 k02 k03 k10 k11 k20 k21
      clear K
      refine (near_u _ _ _ _ _ _ _).mono ?_
      rintro e w1 ⟨rfl, hb⟩
      replace k00 := cell_later hb k00
      replace k01 := cell_later hb k01
      replace k02 := cell_later hb k02
      replace k03 := cell_later hb k03
      replace k10 := cell_later hb k10
      replace k11 := cell_later hb k11
      replace k20 := cell_later hb k20
      replace k21 := cell_later hb k21
      replace hB0 := below_trans hB0 hb
      clear hb
      have z0 := block_lt_of_cell k00
      have z1 := block_lt_of_cell k10
      have z2 := block_lt_of_cell k20
      go_wp2_with fail
      have LN : Blk (w1.alloc (.cells #[.int .i64 (n0 a b c d x y), .int .i64 (n1 a b c d x y)] 23)) w1.heap.size 23 #[.int .i64 (n0 a b c d x y), .int .i64 (n1 a b c d x y)] := Blk.new _ _ _
      have hal : Below w1.heap.size w1 (w1.alloc (.cells #[.int .i64 (n0 a b c d x y), .int .i64 (n1 a b c d x y)] 23)) := (Below.refl _ _).alloc (Nat.le_refl _) _
      replace k00 := cell_later hal k00
      replace k01 := cell_later hal k01
      replace k02 := cell_later hal k02
      replace k03 := cell_later hal k03
      replace k10 := cell_later hal k10
      replace k11 := cell_later hal k11
      replace k20 := cell_later hal k20
      replace k21 := cell_later hal k21
      replace hB0 := below_trans hB0 hal
      clear z0 z1 z2
      generalize (w1.alloc (.cells #[.int .i64 (n0 a b c d x y), .int .i64 (n1 a b c d x y)] 23)) = W2 at *
      have k30 := LN.cell 0
      have k31 := LN.cell 1
      simp only [List.getElem?_toArray, List.getElem?_cons_zero, List.getElem?_cons_succ] at k30 k31
      clear LN hal
      go_wp2_with (first | (go_at_call 13; refine (right_any _ _ _ _ _).mono ?_; rintro e w5 ⟨rfl, hb⟩; replace k00 := cell_later hb k00; replace k01 := cell_later hb k01; replace k02 := cell_later hb k02; replace k03 := cell_later hb k03; replace k10 := cell_later hb k10; replace k11 := cell_later hb k11; replace k20 := cell_later hb k20; replace k21 := cell_later hb k21; replace k30 := cell_later hb k30; replace k31 := cell_later hb k31; replace hB0 := below_trans hB0 hb; clear hb) | (go_at_call 11; refine (fits_any _ _ _).mono ?_; rintro e w5 ⟨rfl, hb⟩; replace k00 := cell_later hb k00; replace k01 := cell_later hb k01; replace k02 := cell_later hb k02; replace k03 := cell_later hb k03; replace k10 := cell_later hb k10; replace k11 := cell_later hb k11; replace k20 := cell_later hb k20; replace k21 := cell_later hb k21; replace k30 := cell_later hb k30; replace k31 := cell_later hb k31; replace hB0 := below_trans hB0 hb; clear hb) | (go_at_call 31; refine (dist_u _ _ _ _ _ _ _).mono ?_; rintro e w5 ⟨rfl, hb⟩; replace k00 := cell_later hb k00; replace k01 := cell_later hb k01; replace k02 := cell_later hb k02; replace k03 := cell_later hb k03; replace k10 := cell_later hb k10; replace k11 := cell_later hb k11; replace k20 := cell_later hb k20; replace k21 := cell_later hb k21; replace k30 := cell_later hb k30; replace k31 := cell_later hb k31; replace hB0 := below_trans hB0 hb; clear hb) | (go_at_call 15; refine (has_any _ _ _ _ _ _ _).mono ?_; rintro e w5 ⟨rfl, hb⟩; replace k00 := cell_later hb k00; replace k01 := cell_later hb k01; replace k02 := cell_later hb k02; replace k03 := cell_later hb k03; replace k10 := cell_later hb k10; replace k11 := cell_later hb k11; replace k20 := cell_later hb k20; replace k21 := cell_later hb k21; replace k30 := cell_later hb k30; replace k31 := cell_later hb k31; replace hB0 := below_trans hB0 hb; clear hb) | (go_at_call 29; refine (apart_u _ _ _ _ _).mono ?_; rintro e w5 ⟨rfl, hb⟩; replace k00 := cell_later hb k00; replace k01 := cell_later hb k01; replace k02 := cell_later hb k02; replace k03 := cell_later hb k03; replace k10 := cell_later hb k10; replace k11 := cell_later hb k11; replace k20 := cell_later hb k20; replace k21 := cell_later hb k21; replace k30 := cell_later hb k30; replace k31 := cell_later hb k31; replace hB0 := below_trans hB0 hb; clear hb) | (go_at_call 21; refine (known_any _).mono ?_; rintro e w5 ⟨rfl, hb⟩; replace k00 := cell_later hb k00; replace k01 := cell_later hb k01; replace k02 := cell_later hb k02; replace k03 := cell_later hb k03; replace k10 := cell_later hb k10; replace k11 := cell_later hb k11; replace k20 := cell_later hb k20; replace k21 := cell_later hb k21; replace k30 := cell_later hb k30; replace k31 := cell_later hb k31; replace hB0 := below_trans hB0 hb; clear hb))
      all_goals
        go_ret
        exact ⟨rfl, hB0⟩
  · have e6 := e5 (fun h => hx h.1)
    have t1 : (x1 == n0 a b c d x y) = false := beq_eq_false_iff_ne.2 hx
    clear hx e5
    go_enter Try.func9, Try.ntmps9
    go_wp2_with fail
    have hB0 : Below w.heap.size w (((w.alloc (.cells #[.int .i64 a, .int .i64 b, .int .i64 c, .int .i64 d] 25)).alloc (.cells #[.int .i64 x, .int .i64 y] 23)).alloc (.cells #[.int .i64 x1, .int .i64 y1] 23)) := by go_grown
    have K := blk_three w 25 23 23 #[.int .i64 a, .int .i64 b, .int .i64 c, .int .i64 d] #[.int .i64 x, .int .i64 y] #[.int .i64 x1, .int .i64 y1]
    generalize (((w.alloc (.cells #[.int .i64 a, .int .i64 b, .int .i64 c, .int .i64 d] 25)).alloc (.cells #[.int .i64 x, .int .i64 y] 23)).alloc (.cells #[.int .i64 x1, .int .i64 y1] 23)) = W at hB0 K ⊢
    have k00 := K.1.cell 0
    have k01 := K.1.cell 1
    have k02 := K.1.cell 2
    have k03 := K.1.cell 3
    have k10 := K.2.1.cell 0
    have k11 := K.2.1.cell 1
    have k20 := K.2.2.cell 0
    have k21 := K.2.2.cell 1
    simp only [List.getElem?_toArray, List.getElem?_cons_zero, List.getElem?_cons_succ] at k00 k01 k02 k03 k10 k11 k20 k21
    clear K
    refine (near_u _ _ _ _ _ _ _).mono ?_
    rintro e w1 ⟨rfl, hb⟩
    replace k00 := cell_later hb k00
    replace k01 := cell_later hb k01
    replace k02 := cell_later hb k02
    replace k03 := cell_later hb k03
    replace k10 := cell_later hb k10
    replace k11 := cell_later hb k11
    replace k20 := cell_later hb k20
    replace k21 := cell_later hb k21
    replace hB0 := below_trans hB0 hb
    clear hb
    have z0 := block_lt_of_cell k00
    have z1 := block_lt_of_cell k10
    have z2 := block_lt_of_cell k20
    go_wp2_with fail
    have LN : Blk (w1.alloc (.cells #[.int .i64 (n0 a b c d x y), .int .i64 (n1 a b c d x y)] 23)) w1.heap.size 23 #[.int .i64 (n0 a b c d x y), .int .i64 (n1 a b c d x y)] := Blk.new _ _ _
    have hal : Below w1.heap.size w1 (w1.alloc (.cells #[.int .i64 (n0 a b c d x y), .int .i64 (n1 a b c d x y)] 23)) := (Below.refl _ _).alloc (Nat.le_refl _) _
    replace k00 := cell_later hal k00
    replace k01 := cell_later hal k01
    replace k02 := cell_later hal k02
    replace k03 := cell_later hal k03
    replace k10 := cell_later hal k10
    replace k11 := cell_later hal k11
    replace k20 := cell_later hal k20
    replace k21 := cell_later hal k21
    replace hB0 := below_trans hB0 hal
    clear z0 z1 z2
    generalize (w1.alloc (.cells #[.int .i64 (n0 a b c d x y), .int .i64 (n1 a b c d x y)] 23)) = W2 at *
    have k30 := LN.cell 0
    have k31 := LN.cell 1
    simp only [List.getElem?_toArray, List.getElem?_cons_zero, List.getElem?_cons_succ] at k30 k31
    clear LN hal
    go_wp2_with (first | (go_at_call 13; refine (right_any _ _ _ _ _).mono ?_; rintro e w5 ⟨rfl, hb⟩; replace k00 := cell_later hb k00; replace k01 := cell_later hb k01; replace k02 := cell_later hb k02; replace k03 := cell_later hb k03; replace k10 := cell_later hb k10; replace k11 := cell_later hb k11; replace k20 := cell_later hb k20; replace k21 := cell_later hb k21; replace k30 := cell_later hb k30; replace k31 := cell_later hb k31; replace hB0 := below_trans hB0 hb; clear hb) | (go_at_call 11; refine (fits_any _ _ _).mono ?_; rintro e w5 ⟨rfl, hb⟩; replace k00 := cell_later hb k00; replace k01 := cell_later hb k01; replace k02 := cell_later hb k02; replace k03 := cell_later hb k03; replace k10 := cell_later hb k10; replace k11 := cell_later hb k11; replace k20 := cell_later hb k20; replace k21 := cell_later hb k21; replace k30 := cell_later hb k30; replace k31 := cell_later hb k31; replace hB0 := below_trans hB0 hb; clear hb) | (go_at_call 31; refine (dist_u _ _ _ _ _ _ _).mono ?_; rintro e w5 ⟨rfl, hb⟩; replace k00 := cell_later hb k00; replace k01 := cell_later hb k01; replace k02 := cell_later hb k02; replace k03 := cell_later hb k03; replace k10 := cell_later hb k10; replace k11 := cell_later hb k11; replace k20 := cell_later hb k20; replace k21 := cell_later hb k21; replace k30 := cell_later hb k30; replace k31 := cell_later hb k31; replace hB0 := below_trans hB0 hb; clear hb) | (go_at_call 15; refine (has_any _ _ _ _ _ _ _).mono ?_; rintro e w5 ⟨rfl, hb⟩; replace k00 := cell_later hb k00; replace k01 := cell_later hb k01; replace k02 := cell_later hb k02; replace k03 := cell_later hb k03; replace k10 := cell_later hb k10; replace k11 := cell_later hb k11; replace k20 := cell_later hb k20; replace k21 := cell_later hb k21; replace k30 := cell_later hb k30; replace k31 := cell_later hb k31; replace hB0 := below_trans hB0 hb; clear hb) | (go_at_call 29; refine (apart_u _ _ _ _ _).mono ?_; rintro e w5 ⟨rfl, hb⟩; replace k00 := cell_later hb k00; replace k01 := cell_later hb k01; replace k02 := cell_later hb k02; replace k03 := cell_later hb k03; replace k10 := cell_later hb k10; replace k11 := cell_later hb k11; replace k20 := cell_later hb k20; replace k21 := cell_later hb k21; replace k30 := cell_later hb k30; replace k31 := cell_later hb k31; replace hB0 := below_trans hB0 hb; clear hb) | (go_at_call 21; refine (known_any _).mono ?_; rintro e w5 ⟨rfl, hb⟩; replace k00 := cell_later hb k00; replace k01 := cell_later hb k01; replace k02 := cell_later hb k02; replace k03 := cell_later hb k03; replace k10 := cell_later hb k10; replace k11 := cell_later hb k11; replace k20 := cell_later hb k20; replace k21 := cell_later hb k21; replace k30 := cell_later hb k30; replace k31 := cell_later hb k31; replace hB0 := below_trans hB0 hb; clear hb))
    all_goals
      go_ret
      exact ⟨rfl, hB0⟩
set_option maxHeartbeats 1000000 in
theorem walk (a b c d x y x1 y1 : Int) (w : World) (_ha : -9223372036854775808 ≤ a ∧ a ≤ 9223372036854775807) (_hb : -9223372036854775808 ≤ b ∧ b ≤ 9223372036854775807) (_hc : -9223372036854775808 ≤ c ∧ c ≤ 9223372036854775807) (_hd : -9223372036854775808 ≤ d ∧ d ≤ 9223372036854775807) (_hx : -9223372036854775808 ≤ x ∧ x ≤ 9223372036854775807) (_hy : -9223372036854775808 ≤ y ∧ y ≤ 9223372036854775807) (_hx1 : -9223372036854775808 ≤ x1 ∧ x1 ≤ 9223372036854775807) (_hy1 : -9223372036854775808 ≤ y1 ∧ y1 ≤ 9223372036854775807)  :
    Calls Try.prog 9 #[.agg #[.int .i64 a, .int .i64 b, .int .i64 c, .int .i64 d], .agg #[.int .i64 x, .int .i64 y], .agg #[.int .i64 x1, .int .i64 y1]] w fun e w' => e = .returned (.bool true) ∧ Below w.heap.size w w' := by
  rcases bcase (rightB a b c d) with h | h
  · rcases bcase (fitsB x y) with k | k
    · rcases bcase (hasB a b c d x1 y1) with l | l
      · exact walk_y1 a b c d x y x1 y1 w h k l
      · exact walk_y0 a b c d x y x1 y1 w h k l
    · exact walk_no2 a b c d x y x1 y1 w h k
  · exact walk_no1 a b c d x y x1 y1 w h

theorem own : ownKnob Try.prog.godebug = none := by kernel_rfl
theorem laidOut : laidOutB Try.prog = true := by kernel_rfl
set_option maxRecDepth 100000 in
theorem lifted (os : Os) (started : os.Started) (H : Type) (enc : TypeId × Value → H) :
    ReturnsInHanded {} Try.checked os 9 .any (Rows.geomNearestSpec.pre6 enc Try.prog Try.f9 Rows.geomNearestRow.domain false) (Rows.geomNearestSpec.post enc Try.prog Try.f9 false true false false) := by
  refine returnsInHanded_of_change (C := Try.checked) own started (by kernel_rfl) Try.func9
    (ChangeSpec.witness6 (enc := enc) (C := Try.checked) false ⟨#[], #[.agg #[.int .i64 0, .int .i64 0, .int .i64 0, .int .i64 0], .agg #[.int .i64 0, .int .i64 0], .agg #[.int .i64 0, .int .i64 0]], []⟩ 8 (by kernel_rfl) (by kernel_rfl) (by kernel_rfl) (by kernel_rfl)) ?_
  intro W base args ds gs before hval0 hW hcnd _
  have hval : ∀ (j : Nat) t v, Try.f9.params[j]? = some t → args[j]? = some v → Value.okWide Try.prog W .any base t v := hval0
  have hW' := hW
  obtain ⟨p, q, hA0, hV, rfl, hfz, hnd⟩ := hW
  have hA : DataW.TrodAll enc Try.prog W 0 (fun _ => true) true Try.f9.params.toList args.toList ds p := hA0
  rw [Try.params9] at hA hval
  obtain ⟨v0, vs0, d0, ds0, p0, q0, hargs, rfl, rfl, h0, r0⟩ := trodAll_cons hA
  obtain ⟨v1, vs1, d1, ds1, p1, q1, rfl, rfl, rfl, h1, r1⟩ := trodAll_cons r0
  obtain ⟨v2, vs2, d2, ds2, p2, q2, rfl, rfl, rfl, h2, r2⟩ := trodAll_cons r1
  obtain ⟨rfl, rfl, rfl⟩ := trodAll_nil r2
  obtain rfl : args = #[v0, v1, v2] := by cases args; simp_all
  obtain ⟨rfl, rfl⟩ := trodVars_none hV
  have k0 := h0
  have lt0 : ∀ x ∈ p0, x.block < W.heap.size := by obtain ⟨m, hm⟩ := k0; exact DataW.trod_lt m _ _ _ hm
  obtain ⟨c0_0, c0_1, c0_2, c0_3, y0_0, y0_1, y0_2, y0_3, m0, rfl, rfl, rfl, hy0_0, hy0_1, hy0_2, hy0_3⟩ := Joins.open_agg4 Try.underlying25 (by kernel_rfl) (by kernel_rfl) (hval 0 25 v0 rfl rfl) h0
  obtain ⟨a0_0, e0_0, rfl, w0_0⟩ := DataW.trod_int Try.underlying3 hy0_0
  simp only [List.cons.injEq, and_true] at e0_0
  subst e0_0
  obtain ⟨a0_1, e0_1, rfl, w0_1⟩ := DataW.trod_int Try.underlying3 hy0_1
  simp only [List.cons.injEq, and_true] at e0_1
  subst e0_1
  obtain ⟨a0_2, e0_2, rfl, w0_2⟩ := DataW.trod_int Try.underlying3 hy0_2
  simp only [List.cons.injEq, and_true] at e0_2
  subst e0_2
  obtain ⟨a0_3, e0_3, rfl, w0_3⟩ := DataW.trod_int Try.underlying3 hy0_3
  simp only [List.cons.injEq, and_true] at e0_3
  subst e0_3
  have k1 := h1
  have lt1 : ∀ x ∈ p1, x.block < W.heap.size := by obtain ⟨m, hm⟩ := k1; exact DataW.trod_lt m _ _ _ hm
  obtain ⟨c1_0, c1_1, y1_0, y1_1, m1, rfl, rfl, rfl, hy1_0, hy1_1⟩ := Joins.open_agg2 Try.underlying23 (by kernel_rfl) (by kernel_rfl) (hval 1 23 v1 rfl rfl) h1
  obtain ⟨a1_0, e1_0, rfl, w1_0⟩ := DataW.trod_int Try.underlying3 hy1_0
  simp only [List.cons.injEq, and_true] at e1_0
  subst e1_0
  obtain ⟨a1_1, e1_1, rfl, w1_1⟩ := DataW.trod_int Try.underlying3 hy1_1
  simp only [List.cons.injEq, and_true] at e1_1
  subst e1_1
  have k2 := h2
  have lt2 : ∀ x ∈ p2, x.block < W.heap.size := by obtain ⟨m, hm⟩ := k2; exact DataW.trod_lt m _ _ _ hm
  obtain ⟨c2_0, c2_1, y2_0, y2_1, m2, rfl, rfl, rfl, hy2_0, hy2_1⟩ := Joins.open_agg2 Try.underlying23 (by kernel_rfl) (by kernel_rfl) (hval 2 23 v2 rfl rfl) h2
  obtain ⟨a2_0, e2_0, rfl, w2_0⟩ := DataW.trod_int Try.underlying3 hy2_0
  simp only [List.cons.injEq, and_true] at e2_0
  subst e2_0
  obtain ⟨a2_1, e2_1, rfl, w2_1⟩ := DataW.trod_int Try.underlying3 hy2_1
  simp only [List.cons.injEq, and_true] at e2_1
  subst e2_1
  clear hA0 hval0
  refine (walk a0_0 a0_1 a0_2 a0_3 a1_0 a1_1 a2_0 a2_1 W (bounds_i64 w0_0) (bounds_i64 w0_1) (bounds_i64 w0_2) (bounds_i64 w0_3) (bounds_i64 w1_0) (bounds_i64 w1_1) (bounds_i64 w2_0) (bounds_i64 w2_1)).mono fun e W' ⟨he, bel⟩ => ?_
  subst he
  exact ⟨_, rfl, _, _, _, [], _, [], hW', trodAll_mk1 (shut_bool Try.underlying4 _), (trodAll_cons_mk (Below.trod laidOut (by kernel_rfl) (of_decide_eq_true (by kernel_rfl)) k0 bel lt0) (trodAll_cons_mk (Below.trod laidOut (by kernel_rfl) (of_decide_eq_true (by kernel_rfl)) k1 bel lt1) (trodAll_cons_mk (Below.trod laidOut (by kernel_rfl) (of_decide_eq_true (by kernel_rfl)) k2 bel lt2) trodAll_mk0))), rfl, bel.frame _, fun h => by cases h⟩
theorem over : Rows.geomNearestRow.holds Try.pinned (OpenSpec.ofChange Rows.geomNearestSpec) :=
  OpenClaim.holds_of_wide 9 Try.f9 rfl rfl rfl rfl rfl rfl rfl ⟨rfl, rfl, rfl, rfl, rfl⟩ rfl rfl rfl rfl rfl (by kernel_rfl) Try.func9 (by kernel_rfl)
    (of_decide_eq_true (by kernel_rfl)) (by unfold Func.isWrapper; first | (rw [if_pos (by decide +kernel)]; kernel_rfl) | (rw [if_neg (by decide +kernel)]; exact ⟨rfl, rfl⟩))
    (fun os started H enc _ => lifted os started H enc)
/-- The statement. -/
theorem proved : Rows.GeomNearestSaid := over
#print axioms proved
end Go.Proofs.Ytichfgpmcamhmaa.geomNearest
