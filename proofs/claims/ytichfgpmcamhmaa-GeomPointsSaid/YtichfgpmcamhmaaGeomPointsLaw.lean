/- GeomPoints: (P2.4) a point is in what two rectangles have in common just if both have it, and in their hull if either has it. Conditions: none. -/
import Derived.Test.YtichfgpmcamhmaaGeomU
import Derived.Test.YtichfgpmcamhmaaFrame
import Derived.Lib.SmallJoins
namespace Go.Proofs.Ytichfgpmcamhmaa.geomPoints
set_option linter.unusedVariables false
set_option linter.unusedSimpArgs false
open Go.ChangeShapes Go.WideShapes Go.ChangeAt Go.RowKit
open Go.ChangeMaps (open_string shut_string)
theorem below_then {a b c : World} (k : Below b.heap.size b c) (h : Below a.heap.size a b) : Below a.heap.size a c := below_trans h k
theorem zero_h (a b c d a1 b1 c1 d1 : Int) (h : okH a b c d a1 b1 c1 d1 = false) : hu0 a b c d a1 b1 c1 d1 = 0 ∧ hu1 a b c d a1 b1 c1 d1 = 0 ∧ hu2 a b c d a1 b1 c1 d1 = 0 ∧ hu3 a b c d a1 b1 c1 d1 = 0 := by simp [hu0, hu1, hu2, hu3, h]
theorem has_m (a b c d a1 b1 c1 d1 : Int) (x y : Int) (h : okM a b c d a1 b1 c1 d1 = true) : hasB (m0 a b c d a1 b1 c1 d1) (m1 a b c d a1 b1 c1 d1) (m2 a b c d a1 b1 c1 d1) (m3 a b c d a1 b1 c1 d1) x y = (hasB a b c d x y && hasB a1 b1 c1 d1 x y) := by
  have e : rightB a b c d = true ∧ rightB a1 b1 c1 d1 = true ∧ rightB (max a a1) (max b b1) (min c c1) (min d d1) = true := by simpa [okM] using h
  rw [rightB_iff, rightB_iff, rightB_iff] at e
  simp only [m0, m1, m2, m3, h, if_true]
  rw [Bool.eq_iff_iff, Bool.and_eq_true, hasB_iff, hasB_iff, hasB_iff]
  omega
theorem no_m (a b c d a1 b1 c1 d1 : Int) (x y : Int) (h1 : rightB a b c d = true) (h2 : rightB a1 b1 c1 d1 = true) (h : okM a b c d a1 b1 c1 d1 = false) (hx : hasB a b c d x y = true) (hy : hasB a1 b1 c1 d1 x y = true) : False := by
  have e : rightB (max a a1) (max b b1) (min c c1) (min d d1) = true := by
    rw [rightB_iff]
    rw [hasB_iff] at hx hy
    omega
  simp [okM, h1, h2, e] at h
theorem ins_h (a b c d a1 b1 c1 d1 : Int) (h1 : rightB a b c d = true) (h2 : rightB a1 b1 c1 d1 = true) : insB a b c d (hu0 a b c d a1 b1 c1 d1) (hu1 a b c d a1 b1 c1 d1) (hu2 a b c d a1 b1 c1 d1) (hu3 a b c d a1 b1 c1 d1) = true ∧ insB a1 b1 c1 d1 (hu0 a b c d a1 b1 c1 d1) (hu1 a b c d a1 b1 c1 d1) (hu2 a b c d a1 b1 c1 d1) (hu3 a b c d a1 b1 c1 d1) = true := by
  have h : okH a b c d a1 b1 c1 d1 = true := by simp [okH, h1, h2]
  rw [rightB_iff] at h1 h2
  simp only [hu0, hu1, hu2, hu3, h, if_true]
  rw [insB_iff, insB_iff]
  omega
theorem has_h (a b c d a1 b1 c1 d1 : Int) (x y : Int) (h1 : rightB a b c d = true) (h2 : rightB a1 b1 c1 d1 = true) (hx : hasB a b c d x y = true ∨ hasB a1 b1 c1 d1 x y = true) : hasB (hu0 a b c d a1 b1 c1 d1) (hu1 a b c d a1 b1 c1 d1) (hu2 a b c d a1 b1 c1 d1) (hu3 a b c d a1 b1 c1 d1) x y = true := by
  have h : okH a b c d a1 b1 c1 d1 = true := by simp [okH, h1, h2]
  rw [rightB_iff] at h1 h2
  simp only [hu0, hu1, hu2, hu3, h, if_true]
  rw [hasB_iff] at hx ⊢
  rw [hasB_iff] at hx
  omega
theorem has_right (a b c d x y : Int) (h : rightB a b c d = false) : hasB a b c d x y = false := by
  rw [Bool.eq_false_iff] at h ⊢
  intro k
  apply h
  rw [rightB_iff]
  rw [hasB_iff] at k
  omega
set_option maxHeartbeats 4000000 in
theorem walk_1 (x y a b c d a1 b1 c1 d1 : Int) (w : World)  (g1 : rightB a b c d = false)(g3 : hasB a b c d x y = false)(g5 : okM a b c d a1 b1 c1 d1 = false) (z0 : hu0 a b c d a1 b1 c1 d1 = 0) (z1 : hu1 a b c d a1 b1 c1 d1 = 0) (z2 : hu2 a b c d a1 b1 c1 d1 = 0) (z3 : hu3 a b c d a1 b1 c1 d1 = 0) :
    Calls Try.prog 6 #[.agg #[.int .i64 x, .int .i64 y], .agg #[.int .i64 a, .int .i64 b, .int .i64 c, .int .i64 d], .agg #[.int .i64 a1, .int .i64 b1, .int .i64 c1, .int .i64 d1]] w fun e w' => e = .returned (.bool true) ∧ Below w.heap.size w w' := by
  go_enter Try.func6, Try.ntmps6
  go_wp2_with fail
  have hB0 : Below w.heap.size w (((w.alloc (.cells #[.int .i64 x, .int .i64 y] 23)).alloc (.cells #[.int .i64 a, .int .i64 b, .int .i64 c, .int .i64 d] 25)).alloc (.cells #[.int .i64 a1, .int .i64 b1, .int .i64 c1, .int .i64 d1] 25)) := by go_grown
  have K := blk_three w 23 25 25 #[.int .i64 x, .int .i64 y] #[.int .i64 a, .int .i64 b, .int .i64 c, .int .i64 d] #[.int .i64 a1, .int .i64 b1, .int .i64 c1, .int .i64 d1]
  generalize (((w.alloc (.cells #[.int .i64 x, .int .i64 y] 23)).alloc (.cells #[.int .i64 a, .int .i64 b, .int .i64 c, .int .i64 d] 25)).alloc (.cells #[.int .i64 a1, .int .i64 b1, .int .i64 c1, .int .i64 d1] 25)) = W at hB0 K ⊢
  have k00 := K.1.cell 0
  have k01 := K.1.cell 1
  have k10 := K.2.1.cell 0
  have k11 := K.2.1.cell 1
  have k12 := K.2.1.cell 2
  have k13 := K.2.1.cell 3
  have k20 := K.2.2.cell 0
  have k21 := K.2.2.cell 1
  have k22 := K.2.2.cell 2
  have k23 := K.2.2.cell 3
  simp only [List.getElem?_toArray, List.getElem?_cons_zero, List.getElem?_cons_succ] at k00 k01 k10 k11 k12 k13 k20 k21 k22 k23
  clear K
  refine (meet_u _ _ _ _ _ _ _ _ _).mono ?_
  rintro e w1 ⟨rfl, hb⟩
  replace k00 := cell_later hb k00
  replace k01 := cell_later hb k01
  replace k10 := cell_later hb k10
  replace k11 := cell_later hb k11
  replace k12 := cell_later hb k12
  replace k13 := cell_later hb k13
  replace k20 := cell_later hb k20
  replace k21 := cell_later hb k21
  replace k22 := cell_later hb k22
  replace k23 := cell_later hb k23
  replace hB0 := below_trans hB0 hb
  clear hb
  have zk00 := block_lt_of_cell k00
  have zk10 := block_lt_of_cell k10
  have zk20 := block_lt_of_cell k20
  go_wp2_with fail
  have hz := hB0.size
  clear zk00 zk10 zk20
  have LN : Blk (w1.alloc (.cells #[.int .i64 (m0 a b c d a1 b1 c1 d1), .int .i64 (m1 a b c d a1 b1 c1 d1), .int .i64 (m2 a b c d a1 b1 c1 d1), .int .i64 (m3 a b c d a1 b1 c1 d1)] 25)) w1.heap.size 25 #[.int .i64 (m0 a b c d a1 b1 c1 d1), .int .i64 (m1 a b c d a1 b1 c1 d1), .int .i64 (m2 a b c d a1 b1 c1 d1), .int .i64 (m3 a b c d a1 b1 c1 d1)] := Blk.new _ _ _
  have hal : Below w1.heap.size w1 (w1.alloc (.cells #[.int .i64 (m0 a b c d a1 b1 c1 d1), .int .i64 (m1 a b c d a1 b1 c1 d1), .int .i64 (m2 a b c d a1 b1 c1 d1), .int .i64 (m3 a b c d a1 b1 c1 d1)] 25)) := (Below.refl _ _).alloc (Nat.le_refl _) _
  replace k00 := cell_later hal k00
  replace k01 := cell_later hal k01
  replace k10 := cell_later hal k10
  replace k11 := cell_later hal k11
  replace k12 := cell_later hal k12
  replace k13 := cell_later hal k13
  replace k20 := cell_later hal k20
  replace k21 := cell_later hal k21
  replace k22 := cell_later hal k22
  replace k23 := cell_later hal k23
  replace hB0 := below_trans hB0 hal
  clear hz
  generalize (w1.alloc (.cells #[.int .i64 (m0 a b c d a1 b1 c1 d1), .int .i64 (m1 a b c d a1 b1 c1 d1), .int .i64 (m2 a b c d a1 b1 c1 d1), .int .i64 (m3 a b c d a1 b1 c1 d1)] 25)) = W2 at *
  have k30 := LN.cell 0
  have k31 := LN.cell 1
  have k32 := LN.cell 2
  have k33 := LN.cell 3
  simp only [List.getElem?_toArray, List.getElem?_cons_zero, List.getElem?_cons_succ] at k30 k31 k32 k33
  clear LN hal
  refine (hull_u _ _ _ _ _ _ _ _ _).mono ?_
  rintro e w2 ⟨rfl, hb⟩
  replace k00 := cell_later hb k00
  replace k01 := cell_later hb k01
  replace k10 := cell_later hb k10
  replace k11 := cell_later hb k11
  replace k12 := cell_later hb k12
  replace k13 := cell_later hb k13
  replace k20 := cell_later hb k20
  replace k21 := cell_later hb k21
  replace k22 := cell_later hb k22
  replace k23 := cell_later hb k23
  replace k30 := cell_later hb k30
  replace k31 := cell_later hb k31
  replace k32 := cell_later hb k32
  replace k33 := cell_later hb k33
  replace hB0 := below_trans hB0 hb
  clear hb
  have zk00 := block_lt_of_cell k00
  have zk10 := block_lt_of_cell k10
  have zk20 := block_lt_of_cell k20
  have zk30 := block_lt_of_cell k30
  go_wp2_with fail
  have hz := hB0.size
  clear zk00 zk10 zk20 zk30
  have LN : Blk (w2.alloc (.cells #[.int .i64 0, .int .i64 0, .int .i64 0, .int .i64 0] 25)) w2.heap.size 25 #[.int .i64 0, .int .i64 0, .int .i64 0, .int .i64 0] := Blk.new _ _ _
  have hal : Below w2.heap.size w2 (w2.alloc (.cells #[.int .i64 0, .int .i64 0, .int .i64 0, .int .i64 0] 25)) := (Below.refl _ _).alloc (Nat.le_refl _) _
  replace k00 := cell_later hal k00
  replace k01 := cell_later hal k01
  replace k10 := cell_later hal k10
  replace k11 := cell_later hal k11
  replace k12 := cell_later hal k12
  replace k13 := cell_later hal k13
  replace k20 := cell_later hal k20
  replace k21 := cell_later hal k21
  replace k22 := cell_later hal k22
  replace k23 := cell_later hal k23
  replace k30 := cell_later hal k30
  replace k31 := cell_later hal k31
  replace k32 := cell_later hal k32
  replace k33 := cell_later hal k33
  replace hB0 := below_trans hB0 hal
  clear hz
  generalize (w2.alloc (.cells #[.int .i64 0, .int .i64 0, .int .i64 0, .int .i64 0] 25)) = W3 at *
  have k40 := LN.cell 0
  have k41 := LN.cell 1
  have k42 := LN.cell 2
  have k43 := LN.cell 3
  simp only [List.getElem?_toArray, List.getElem?_cons_zero, List.getElem?_cons_succ] at k40 k41 k42 k43
  clear LN hal
  go_region_held3 (fun w' => (w'.cell? ⟨w.heap.size, 0, none⟩ = some (.int .i64 x)) ∧ (w'.cell? ⟨w.heap.size, 1, none⟩ = some (.int .i64 y)) ∧ (w'.cell? ⟨w.heap.size + 1, 0, none⟩ = some (.int .i64 a)) ∧ (w'.cell? ⟨w.heap.size + 1, 1, none⟩ = some (.int .i64 b)) ∧ (w'.cell? ⟨w.heap.size + 1, 2, none⟩ = some (.int .i64 c)) ∧ (w'.cell? ⟨w.heap.size + 1, 3, none⟩ = some (.int .i64 d)) ∧ (w'.cell? ⟨w.heap.size + 1 + 1, 0, none⟩ = some (.int .i64 a1)) ∧ (w'.cell? ⟨w.heap.size + 1 + 1, 1, none⟩ = some (.int .i64 b1)) ∧ (w'.cell? ⟨w.heap.size + 1 + 1, 2, none⟩ = some (.int .i64 c1)) ∧ (w'.cell? ⟨w.heap.size + 1 + 1, 3, none⟩ = some (.int .i64 d1)) ∧ (Below w.heap.size w w')) (first | (go_split_ands; refine ⟨?_, ?_, ?_, ?_, ?_, ?_, ?_, ?_, ?_, ?_, ?_⟩ <;> first | (exact cell_later (by assumption) (by assumption)) | (exact below_then (by assumption) (by assumption)) | (go_grown; done) | go_keep)) (first | (go_at_call_of 15 (Value.agg #[.int .i64 a, .int .i64 b, .int .i64 c, .int .i64 d]); refine (has_any a b c d x y _).mono ?_; rintro e wa ⟨rfl, ha9⟩) | (go_at_call_of 15 (Value.agg #[.int .i64 a1, .int .i64 b1, .int .i64 c1, .int .i64 d1]); refine (has_any a1 b1 c1 d1 x y _).mono ?_; rintro e wb ⟨rfl, hb9⟩))
  replace k00 := cell_later hb9 (cell_later ha9 (show W3.drew.cell? _ = some _ from k00))
  replace k01 := cell_later hb9 (cell_later ha9 (show W3.drew.cell? _ = some _ from k01))
  replace k10 := cell_later hb9 (cell_later ha9 (show W3.drew.cell? _ = some _ from k10))
  replace k11 := cell_later hb9 (cell_later ha9 (show W3.drew.cell? _ = some _ from k11))
  replace k12 := cell_later hb9 (cell_later ha9 (show W3.drew.cell? _ = some _ from k12))
  replace k13 := cell_later hb9 (cell_later ha9 (show W3.drew.cell? _ = some _ from k13))
  replace k20 := cell_later hb9 (cell_later ha9 (show W3.drew.cell? _ = some _ from k20))
  replace k21 := cell_later hb9 (cell_later ha9 (show W3.drew.cell? _ = some _ from k21))
  replace k22 := cell_later hb9 (cell_later ha9 (show W3.drew.cell? _ = some _ from k22))
  replace k23 := cell_later hb9 (cell_later ha9 (show W3.drew.cell? _ = some _ from k23))
  replace k30 := cell_later hb9 (cell_later ha9 (show W3.drew.cell? _ = some _ from k30))
  replace k31 := cell_later hb9 (cell_later ha9 (show W3.drew.cell? _ = some _ from k31))
  replace k32 := cell_later hb9 (cell_later ha9 (show W3.drew.cell? _ = some _ from k32))
  replace k33 := cell_later hb9 (cell_later ha9 (show W3.drew.cell? _ = some _ from k33))
  replace k40 := cell_later hb9 (cell_later ha9 (show W3.drew.cell? _ = some _ from k40))
  replace k41 := cell_later hb9 (cell_later ha9 (show W3.drew.cell? _ = some _ from k41))
  replace k42 := cell_later hb9 (cell_later ha9 (show W3.drew.cell? _ = some _ from k42))
  replace k43 := cell_later hb9 (cell_later ha9 (show W3.drew.cell? _ = some _ from k43))
  replace hB0 : Below w.heap.size w wb := below_trans (below_trans (show Below w.heap.size w W3.drew by go_grown) ha9) hb9
  clear ha9 hb9
  go_wp2_with (first | (go_at_call 13; refine (right_any _ _ _ _ _).mono ?_; rintro e w5 ⟨rfl, hb⟩; replace k00 := cell_later hb k00; replace k01 := cell_later hb k01; replace k10 := cell_later hb k10; replace k11 := cell_later hb k11; replace k12 := cell_later hb k12; replace k13 := cell_later hb k13; replace k20 := cell_later hb k20; replace k21 := cell_later hb k21; replace k22 := cell_later hb k22; replace k23 := cell_later hb k23; replace k30 := cell_later hb k30; replace k31 := cell_later hb k31; replace k32 := cell_later hb k32; replace k33 := cell_later hb k33; replace k40 := cell_later hb k40; replace k41 := cell_later hb k41; replace k42 := cell_later hb k42; replace k43 := cell_later hb k43; replace hB0 := below_trans hB0 hb; clear hb) | (go_at_call 15; refine (has_any _ _ _ _ _ _ _).mono ?_; rintro e w5 ⟨rfl, hb⟩; replace k00 := cell_later hb k00; replace k01 := cell_later hb k01; replace k10 := cell_later hb k10; replace k11 := cell_later hb k11; replace k12 := cell_later hb k12; replace k13 := cell_later hb k13; replace k20 := cell_later hb k20; replace k21 := cell_later hb k21; replace k22 := cell_later hb k22; replace k23 := cell_later hb k23; replace k30 := cell_later hb k30; replace k31 := cell_later hb k31; replace k32 := cell_later hb k32; replace k33 := cell_later hb k33; replace k40 := cell_later hb k40; replace k41 := cell_later hb k41; replace k42 := cell_later hb k42; replace k43 := cell_later hb k43; replace hB0 := below_trans hB0 hb; clear hb) | (go_at_call 17; refine (in_any _ _ _ _ _ _ _ _ _).mono ?_; rintro e w5 ⟨rfl, hb⟩; replace k00 := cell_later hb k00; replace k01 := cell_later hb k01; replace k10 := cell_later hb k10; replace k11 := cell_later hb k11; replace k12 := cell_later hb k12; replace k13 := cell_later hb k13; replace k20 := cell_later hb k20; replace k21 := cell_later hb k21; replace k22 := cell_later hb k22; replace k23 := cell_later hb k23; replace k30 := cell_later hb k30; replace k31 := cell_later hb k31; replace k32 := cell_later hb k32; replace k33 := cell_later hb k33; replace k40 := cell_later hb k40; replace k41 := cell_later hb k41; replace k42 := cell_later hb k42; replace k43 := cell_later hb k43; replace hB0 := below_trans hB0 hb; clear hb) | (go_at_call 21; refine (known_any _).mono ?_; rintro e w5 ⟨rfl, hb⟩; replace k00 := cell_later hb k00; replace k01 := cell_later hb k01; replace k10 := cell_later hb k10; replace k11 := cell_later hb k11; replace k12 := cell_later hb k12; replace k13 := cell_later hb k13; replace k20 := cell_later hb k20; replace k21 := cell_later hb k21; replace k22 := cell_later hb k22; replace k23 := cell_later hb k23; replace k30 := cell_later hb k30; replace k31 := cell_later hb k31; replace k32 := cell_later hb k32; replace k33 := cell_later hb k33; replace k40 := cell_later hb k40; replace k41 := cell_later hb k41; replace k42 := cell_later hb k42; replace k43 := cell_later hb k43; replace hB0 := below_trans hB0 hb; clear hb))
  all_goals
    go_ret
    exact ⟨rfl, hB0⟩
set_option maxHeartbeats 4000000 in
theorem walk_2true (x y a b c d a1 b1 c1 d1 : Int) (w : World)  (g1 : rightB a b c d = true)(g2 : rightB a1 b1 c1 d1 = false)(g3 : hasB a b c d x y = true)(g4 : hasB a1 b1 c1 d1 x y = false)(g5 : okM a b c d a1 b1 c1 d1 = false) (z0 : hu0 a b c d a1 b1 c1 d1 = 0) (z1 : hu1 a b c d a1 b1 c1 d1 = 0) (z2 : hu2 a b c d a1 b1 c1 d1 = 0) (z3 : hu3 a b c d a1 b1 c1 d1 = 0) :
    Calls Try.prog 6 #[.agg #[.int .i64 x, .int .i64 y], .agg #[.int .i64 a, .int .i64 b, .int .i64 c, .int .i64 d], .agg #[.int .i64 a1, .int .i64 b1, .int .i64 c1, .int .i64 d1]] w fun e w' => e = .returned (.bool true) ∧ Below w.heap.size w w' := by
  go_enter Try.func6, Try.ntmps6
  go_wp2_with fail
  have hB0 : Below w.heap.size w (((w.alloc (.cells #[.int .i64 x, .int .i64 y] 23)).alloc (.cells #[.int .i64 a, .int .i64 b, .int .i64 c, .int .i64 d] 25)).alloc (.cells #[.int .i64 a1, .int .i64 b1, .int .i64 c1, .int .i64 d1] 25)) := by go_grown
  have K := blk_three w 23 25 25 #[.int .i64 x, .int .i64 y] #[.int .i64 a, .int .i64 b, .int .i64 c, .int .i64 d] #[.int .i64 a1, .int .i64 b1, .int .i64 c1, .int .i64 d1]
  generalize (((w.alloc (.cells #[.int .i64 x, .int .i64 y] 23)).alloc (.cells #[.int .i64 a, .int .i64 b, .int .i64 c, .int .i64 d] 25)).alloc (.cells #[.int .i64 a1, .int .i64 b1, .int .i64 c1, .int .i64 d1] 25)) = W at hB0 K ⊢
  have k00 := K.1.cell 0
  have k01 := K.1.cell 1
  have k10 := K.2.1.cell 0
  have k11 := K.2.1.cell 1
  have k12 := K.2.1.cell 2
  have k13 := K.2.1.cell 3
  have k20 := K.2.2.cell 0
  have k21 := K.2.2.cell 1
  have k22 := K.2.2.cell 2
  have k23 := K.2.2.cell 3
  simp only [List.getElem?_toArray, List.getElem?_cons_zero, List.getElem?_cons_succ] at k00 k01 k10 k11 k12 k13 k20 k21 k22 k23
  clear K
  refine (meet_u _ _ _ _ _ _ _ _ _).mono ?_
  rintro e w1 ⟨rfl, hb⟩
  replace k00 := cell_later hb k00
  replace k01 := cell_later hb k01
  replace k10 := cell_later hb k10
  replace k11 := cell_later hb k11
  replace k12 := cell_later hb k12
  replace k13 := cell_later hb k13
  replace k20 := cell_later hb k20
  replace k21 := cell_later hb k21
  replace k22 := cell_later hb k22
  replace k23 := cell_later hb k23
  replace hB0 := below_trans hB0 hb
  clear hb
  have zk00 := block_lt_of_cell k00
  have zk10 := block_lt_of_cell k10
  have zk20 := block_lt_of_cell k20
  go_wp2_with fail
  have hz := hB0.size
  clear zk00 zk10 zk20
  have LN : Blk (w1.alloc (.cells #[.int .i64 (m0 a b c d a1 b1 c1 d1), .int .i64 (m1 a b c d a1 b1 c1 d1), .int .i64 (m2 a b c d a1 b1 c1 d1), .int .i64 (m3 a b c d a1 b1 c1 d1)] 25)) w1.heap.size 25 #[.int .i64 (m0 a b c d a1 b1 c1 d1), .int .i64 (m1 a b c d a1 b1 c1 d1), .int .i64 (m2 a b c d a1 b1 c1 d1), .int .i64 (m3 a b c d a1 b1 c1 d1)] := Blk.new _ _ _
  have hal : Below w1.heap.size w1 (w1.alloc (.cells #[.int .i64 (m0 a b c d a1 b1 c1 d1), .int .i64 (m1 a b c d a1 b1 c1 d1), .int .i64 (m2 a b c d a1 b1 c1 d1), .int .i64 (m3 a b c d a1 b1 c1 d1)] 25)) := (Below.refl _ _).alloc (Nat.le_refl _) _
  replace k00 := cell_later hal k00
  replace k01 := cell_later hal k01
  replace k10 := cell_later hal k10
  replace k11 := cell_later hal k11
  replace k12 := cell_later hal k12
  replace k13 := cell_later hal k13
  replace k20 := cell_later hal k20
  replace k21 := cell_later hal k21
  replace k22 := cell_later hal k22
  replace k23 := cell_later hal k23
  replace hB0 := below_trans hB0 hal
  clear hz
  generalize (w1.alloc (.cells #[.int .i64 (m0 a b c d a1 b1 c1 d1), .int .i64 (m1 a b c d a1 b1 c1 d1), .int .i64 (m2 a b c d a1 b1 c1 d1), .int .i64 (m3 a b c d a1 b1 c1 d1)] 25)) = W2 at *
  have k30 := LN.cell 0
  have k31 := LN.cell 1
  have k32 := LN.cell 2
  have k33 := LN.cell 3
  simp only [List.getElem?_toArray, List.getElem?_cons_zero, List.getElem?_cons_succ] at k30 k31 k32 k33
  clear LN hal
  refine (hull_u _ _ _ _ _ _ _ _ _).mono ?_
  rintro e w2 ⟨rfl, hb⟩
  replace k00 := cell_later hb k00
  replace k01 := cell_later hb k01
  replace k10 := cell_later hb k10
  replace k11 := cell_later hb k11
  replace k12 := cell_later hb k12
  replace k13 := cell_later hb k13
  replace k20 := cell_later hb k20
  replace k21 := cell_later hb k21
  replace k22 := cell_later hb k22
  replace k23 := cell_later hb k23
  replace k30 := cell_later hb k30
  replace k31 := cell_later hb k31
  replace k32 := cell_later hb k32
  replace k33 := cell_later hb k33
  replace hB0 := below_trans hB0 hb
  clear hb
  have zk00 := block_lt_of_cell k00
  have zk10 := block_lt_of_cell k10
  have zk20 := block_lt_of_cell k20
  have zk30 := block_lt_of_cell k30
  go_wp2_with fail
  have hz := hB0.size
  clear zk00 zk10 zk20 zk30
  have LN : Blk (w2.alloc (.cells #[.int .i64 0, .int .i64 0, .int .i64 0, .int .i64 0] 25)) w2.heap.size 25 #[.int .i64 0, .int .i64 0, .int .i64 0, .int .i64 0] := Blk.new _ _ _
  have hal : Below w2.heap.size w2 (w2.alloc (.cells #[.int .i64 0, .int .i64 0, .int .i64 0, .int .i64 0] 25)) := (Below.refl _ _).alloc (Nat.le_refl _) _
  replace k00 := cell_later hal k00
  replace k01 := cell_later hal k01
  replace k10 := cell_later hal k10
  replace k11 := cell_later hal k11
  replace k12 := cell_later hal k12
  replace k13 := cell_later hal k13
  replace k20 := cell_later hal k20
  replace k21 := cell_later hal k21
  replace k22 := cell_later hal k22
  replace k23 := cell_later hal k23
  replace k30 := cell_later hal k30
  replace k31 := cell_later hal k31
  replace k32 := cell_later hal k32
  replace k33 := cell_later hal k33
  replace hB0 := below_trans hB0 hal
  clear hz
  generalize (w2.alloc (.cells #[.int .i64 0, .int .i64 0, .int .i64 0, .int .i64 0] 25)) = W3 at *
  have k40 := LN.cell 0
  have k41 := LN.cell 1
  have k42 := LN.cell 2
  have k43 := LN.cell 3
  simp only [List.getElem?_toArray, List.getElem?_cons_zero, List.getElem?_cons_succ] at k40 k41 k42 k43
  clear LN hal
  go_region_held3 (fun w' => (w'.cell? ⟨w.heap.size, 0, none⟩ = some (.int .i64 x)) ∧ (w'.cell? ⟨w.heap.size, 1, none⟩ = some (.int .i64 y)) ∧ (w'.cell? ⟨w.heap.size + 1, 0, none⟩ = some (.int .i64 a)) ∧ (w'.cell? ⟨w.heap.size + 1, 1, none⟩ = some (.int .i64 b)) ∧ (w'.cell? ⟨w.heap.size + 1, 2, none⟩ = some (.int .i64 c)) ∧ (w'.cell? ⟨w.heap.size + 1, 3, none⟩ = some (.int .i64 d)) ∧ (w'.cell? ⟨w.heap.size + 1 + 1, 0, none⟩ = some (.int .i64 a1)) ∧ (w'.cell? ⟨w.heap.size + 1 + 1, 1, none⟩ = some (.int .i64 b1)) ∧ (w'.cell? ⟨w.heap.size + 1 + 1, 2, none⟩ = some (.int .i64 c1)) ∧ (w'.cell? ⟨w.heap.size + 1 + 1, 3, none⟩ = some (.int .i64 d1)) ∧ (Below w.heap.size w w')) (first | (go_split_ands; refine ⟨?_, ?_, ?_, ?_, ?_, ?_, ?_, ?_, ?_, ?_, ?_⟩ <;> first | (exact cell_later (by assumption) (by assumption)) | (exact below_then (by assumption) (by assumption)) | (go_grown; done) | go_keep)) (first | (go_at_call_of 15 (Value.agg #[.int .i64 a, .int .i64 b, .int .i64 c, .int .i64 d]); refine (has_any a b c d x y _).mono ?_; rintro e wa ⟨rfl, ha9⟩) | (go_at_call_of 15 (Value.agg #[.int .i64 a1, .int .i64 b1, .int .i64 c1, .int .i64 d1]); refine (has_any a1 b1 c1 d1 x y _).mono ?_; rintro e wb ⟨rfl, hb9⟩))
  replace k00 := cell_later hb9 (cell_later ha9 (show W3.drew.cell? _ = some _ from k00))
  replace k01 := cell_later hb9 (cell_later ha9 (show W3.drew.cell? _ = some _ from k01))
  replace k10 := cell_later hb9 (cell_later ha9 (show W3.drew.cell? _ = some _ from k10))
  replace k11 := cell_later hb9 (cell_later ha9 (show W3.drew.cell? _ = some _ from k11))
  replace k12 := cell_later hb9 (cell_later ha9 (show W3.drew.cell? _ = some _ from k12))
  replace k13 := cell_later hb9 (cell_later ha9 (show W3.drew.cell? _ = some _ from k13))
  replace k20 := cell_later hb9 (cell_later ha9 (show W3.drew.cell? _ = some _ from k20))
  replace k21 := cell_later hb9 (cell_later ha9 (show W3.drew.cell? _ = some _ from k21))
  replace k22 := cell_later hb9 (cell_later ha9 (show W3.drew.cell? _ = some _ from k22))
  replace k23 := cell_later hb9 (cell_later ha9 (show W3.drew.cell? _ = some _ from k23))
  replace k30 := cell_later hb9 (cell_later ha9 (show W3.drew.cell? _ = some _ from k30))
  replace k31 := cell_later hb9 (cell_later ha9 (show W3.drew.cell? _ = some _ from k31))
  replace k32 := cell_later hb9 (cell_later ha9 (show W3.drew.cell? _ = some _ from k32))
  replace k33 := cell_later hb9 (cell_later ha9 (show W3.drew.cell? _ = some _ from k33))
  replace k40 := cell_later hb9 (cell_later ha9 (show W3.drew.cell? _ = some _ from k40))
  replace k41 := cell_later hb9 (cell_later ha9 (show W3.drew.cell? _ = some _ from k41))
  replace k42 := cell_later hb9 (cell_later ha9 (show W3.drew.cell? _ = some _ from k42))
  replace k43 := cell_later hb9 (cell_later ha9 (show W3.drew.cell? _ = some _ from k43))
  replace hB0 : Below w.heap.size w wb := below_trans (below_trans (show Below w.heap.size w W3.drew by go_grown) ha9) hb9
  clear ha9 hb9
  go_wp2_with (first | (go_at_call 13; refine (right_any _ _ _ _ _).mono ?_; rintro e w5 ⟨rfl, hb⟩; replace k00 := cell_later hb k00; replace k01 := cell_later hb k01; replace k10 := cell_later hb k10; replace k11 := cell_later hb k11; replace k12 := cell_later hb k12; replace k13 := cell_later hb k13; replace k20 := cell_later hb k20; replace k21 := cell_later hb k21; replace k22 := cell_later hb k22; replace k23 := cell_later hb k23; replace k30 := cell_later hb k30; replace k31 := cell_later hb k31; replace k32 := cell_later hb k32; replace k33 := cell_later hb k33; replace k40 := cell_later hb k40; replace k41 := cell_later hb k41; replace k42 := cell_later hb k42; replace k43 := cell_later hb k43; replace hB0 := below_trans hB0 hb; clear hb) | (go_at_call 15; refine (has_any _ _ _ _ _ _ _).mono ?_; rintro e w5 ⟨rfl, hb⟩; replace k00 := cell_later hb k00; replace k01 := cell_later hb k01; replace k10 := cell_later hb k10; replace k11 := cell_later hb k11; replace k12 := cell_later hb k12; replace k13 := cell_later hb k13; replace k20 := cell_later hb k20; replace k21 := cell_later hb k21; replace k22 := cell_later hb k22; replace k23 := cell_later hb k23; replace k30 := cell_later hb k30; replace k31 := cell_later hb k31; replace k32 := cell_later hb k32; replace k33 := cell_later hb k33; replace k40 := cell_later hb k40; replace k41 := cell_later hb k41; replace k42 := cell_later hb k42; replace k43 := cell_later hb k43; replace hB0 := below_trans hB0 hb; clear hb) | (go_at_call 17; refine (in_any _ _ _ _ _ _ _ _ _).mono ?_; rintro e w5 ⟨rfl, hb⟩; replace k00 := cell_later hb k00; replace k01 := cell_later hb k01; replace k10 := cell_later hb k10; replace k11 := cell_later hb k11; replace k12 := cell_later hb k12; replace k13 := cell_later hb k13; replace k20 := cell_later hb k20; replace k21 := cell_later hb k21; replace k22 := cell_later hb k22; replace k23 := cell_later hb k23; replace k30 := cell_later hb k30; replace k31 := cell_later hb k31; replace k32 := cell_later hb k32; replace k33 := cell_later hb k33; replace k40 := cell_later hb k40; replace k41 := cell_later hb k41; replace k42 := cell_later hb k42; replace k43 := cell_later hb k43; replace hB0 := below_trans hB0 hb; clear hb) | (go_at_call 21; refine (known_any _).mono ?_; rintro e w5 ⟨rfl, hb⟩; replace k00 := cell_later hb k00; replace k01 := cell_later hb k01; replace k10 := cell_later hb k10; replace k11 := cell_later hb k11; replace k12 := cell_later hb k12; replace k13 := cell_later hb k13; replace k20 := cell_later hb k20; replace k21 := cell_later hb k21; replace k22 := cell_later hb k22; replace k23 := cell_later hb k23; replace k30 := cell_later hb k30; replace k31 := cell_later hb k31; replace k32 := cell_later hb k32; replace k33 := cell_later hb k33; replace k40 := cell_later hb k40; replace k41 := cell_later hb k41; replace k42 := cell_later hb k42; replace k43 := cell_later hb k43; replace hB0 := below_trans hB0 hb; clear hb))
  all_goals
    go_ret
    exact ⟨rfl, hB0⟩
set_option maxHeartbeats 4000000 in
theorem walk_2false (x y a b c d a1 b1 c1 d1 : Int) (w : World)  (g1 : rightB a b c d = true)(g2 : rightB a1 b1 c1 d1 = false)(g3 : hasB a b c d x y = false)(g4 : hasB a1 b1 c1 d1 x y = false)(g5 : okM a b c d a1 b1 c1 d1 = false) (z0 : hu0 a b c d a1 b1 c1 d1 = 0) (z1 : hu1 a b c d a1 b1 c1 d1 = 0) (z2 : hu2 a b c d a1 b1 c1 d1 = 0) (z3 : hu3 a b c d a1 b1 c1 d1 = 0) :
    Calls Try.prog 6 #[.agg #[.int .i64 x, .int .i64 y], .agg #[.int .i64 a, .int .i64 b, .int .i64 c, .int .i64 d], .agg #[.int .i64 a1, .int .i64 b1, .int .i64 c1, .int .i64 d1]] w fun e w' => e = .returned (.bool true) ∧ Below w.heap.size w w' := by
  go_enter Try.func6, Try.ntmps6
  go_wp2_with fail
  have hB0 : Below w.heap.size w (((w.alloc (.cells #[.int .i64 x, .int .i64 y] 23)).alloc (.cells #[.int .i64 a, .int .i64 b, .int .i64 c, .int .i64 d] 25)).alloc (.cells #[.int .i64 a1, .int .i64 b1, .int .i64 c1, .int .i64 d1] 25)) := by go_grown
  have K := blk_three w 23 25 25 #[.int .i64 x, .int .i64 y] #[.int .i64 a, .int .i64 b, .int .i64 c, .int .i64 d] #[.int .i64 a1, .int .i64 b1, .int .i64 c1, .int .i64 d1]
  generalize (((w.alloc (.cells #[.int .i64 x, .int .i64 y] 23)).alloc (.cells #[.int .i64 a, .int .i64 b, .int .i64 c, .int .i64 d] 25)).alloc (.cells #[.int .i64 a1, .int .i64 b1, .int .i64 c1, .int .i64 d1] 25)) = W at hB0 K ⊢
  have k00 := K.1.cell 0
  have k01 := K.1.cell 1
  have k10 := K.2.1.cell 0
  have k11 := K.2.1.cell 1
  have k12 := K.2.1.cell 2
  have k13 := K.2.1.cell 3
  have k20 := K.2.2.cell 0
  have k21 := K.2.2.cell 1
  have k22 := K.2.2.cell 2
  have k23 := K.2.2.cell 3
  simp only [List.getElem?_toArray, List.getElem?_cons_zero, List.getElem?_cons_succ] at k00 k01 k10 k11 k12 k13 k20 k21 k22 k23
  clear K
  refine (meet_u _ _ _ _ _ _ _ _ _).mono ?_
  rintro e w1 ⟨rfl, hb⟩
  replace k00 := cell_later hb k00
  replace k01 := cell_later hb k01
  replace k10 := cell_later hb k10
  replace k11 := cell_later hb k11
  replace k12 := cell_later hb k12
  replace k13 := cell_later hb k13
  replace k20 := cell_later hb k20
  replace k21 := cell_later hb k21
  replace k22 := cell_later hb k22
  replace k23 := cell_later hb k23
  replace hB0 := below_trans hB0 hb
  clear hb
  have zk00 := block_lt_of_cell k00
  have zk10 := block_lt_of_cell k10
  have zk20 := block_lt_of_cell k20
  go_wp2_with fail
  have hz := hB0.size
  clear zk00 zk10 zk20
  have LN : Blk (w1.alloc (.cells #[.int .i64 (m0 a b c d a1 b1 c1 d1), .int .i64 (m1 a b c d a1 b1 c1 d1), .int .i64 (m2 a b c d a1 b1 c1 d1), .int .i64 (m3 a b c d a1 b1 c1 d1)] 25)) w1.heap.size 25 #[.int .i64 (m0 a b c d a1 b1 c1 d1), .int .i64 (m1 a b c d a1 b1 c1 d1), .int .i64 (m2 a b c d a1 b1 c1 d1), .int .i64 (m3 a b c d a1 b1 c1 d1)] := Blk.new _ _ _
  have hal : Below w1.heap.size w1 (w1.alloc (.cells #[.int .i64 (m0 a b c d a1 b1 c1 d1), .int .i64 (m1 a b c d a1 b1 c1 d1), .int .i64 (m2 a b c d a1 b1 c1 d1), .int .i64 (m3 a b c d a1 b1 c1 d1)] 25)) := (Below.refl _ _).alloc (Nat.le_refl _) _
  replace k00 := cell_later hal k00
  replace k01 := cell_later hal k01
  replace k10 := cell_later hal k10
  replace k11 := cell_later hal k11
  replace k12 := cell_later hal k12
  replace k13 := cell_later hal k13
  replace k20 := cell_later hal k20
  replace k21 := cell_later hal k21
  replace k22 := cell_later hal k22
  replace k23 := cell_later hal k23
  replace hB0 := below_trans hB0 hal
  clear hz
  generalize (w1.alloc (.cells #[.int .i64 (m0 a b c d a1 b1 c1 d1), .int .i64 (m1 a b c d a1 b1 c1 d1), .int .i64 (m2 a b c d a1 b1 c1 d1), .int .i64 (m3 a b c d a1 b1 c1 d1)] 25)) = W2 at *
  have k30 := LN.cell 0
  have k31 := LN.cell 1
  have k32 := LN.cell 2
  have k33 := LN.cell 3
  simp only [List.getElem?_toArray, List.getElem?_cons_zero, List.getElem?_cons_succ] at k30 k31 k32 k33
  clear LN hal
  refine (hull_u _ _ _ _ _ _ _ _ _).mono ?_
  rintro e w2 ⟨rfl, hb⟩
  replace k00 := cell_later hb k00
  replace k01 := cell_later hb k01
  replace k10 := cell_later hb k10
  replace k11 := cell_later hb k11
  replace k12 := cell_later hb k12
  replace k13 := cell_later hb k13
  replace k20 := cell_later hb k20
  replace k21 := cell_later hb k21
  replace k22 := cell_later hb k22
  replace k23 := cell_later hb k23
  replace k30 := cell_later hb k30
  replace k31 := cell_later hb k31
  replace k32 := cell_later hb k32
  replace k33 := cell_later hb k33
  replace hB0 := below_trans hB0 hb
  clear hb
  have zk00 := block_lt_of_cell k00
  have zk10 := block_lt_of_cell k10
  have zk20 := block_lt_of_cell k20
  have zk30 := block_lt_of_cell k30
  go_wp2_with fail
  have hz := hB0.size
  clear zk00 zk10 zk20 zk30
  have LN : Blk (w2.alloc (.cells #[.int .i64 0, .int .i64 0, .int .i64 0, .int .i64 0] 25)) w2.heap.size 25 #[.int .i64 0, .int .i64 0, .int .i64 0, .int .i64 0] := Blk.new _ _ _
  have hal : Below w2.heap.size w2 (w2.alloc (.cells #[.int .i64 0, .int .i64 0, .int .i64 0, .int .i64 0] 25)) := (Below.refl _ _).alloc (Nat.le_refl _) _
  replace k00 := cell_later hal k00
  replace k01 := cell_later hal k01
  replace k10 := cell_later hal k10
  replace k11 := cell_later hal k11
  replace k12 := cell_later hal k12
  replace k13 := cell_later hal k13
  replace k20 := cell_later hal k20
  replace k21 := cell_later hal k21
  replace k22 := cell_later hal k22
  replace k23 := cell_later hal k23
  replace k30 := cell_later hal k30
  replace k31 := cell_later hal k31
  replace k32 := cell_later hal k32
  replace k33 := cell_later hal k33
  replace hB0 := below_trans hB0 hal
  clear hz
  generalize (w2.alloc (.cells #[.int .i64 0, .int .i64 0, .int .i64 0, .int .i64 0] 25)) = W3 at *
  have k40 := LN.cell 0
  have k41 := LN.cell 1
  have k42 := LN.cell 2
  have k43 := LN.cell 3
  simp only [List.getElem?_toArray, List.getElem?_cons_zero, List.getElem?_cons_succ] at k40 k41 k42 k43
  clear LN hal
  go_region_held3 (fun w' => (w'.cell? ⟨w.heap.size, 0, none⟩ = some (.int .i64 x)) ∧ (w'.cell? ⟨w.heap.size, 1, none⟩ = some (.int .i64 y)) ∧ (w'.cell? ⟨w.heap.size + 1, 0, none⟩ = some (.int .i64 a)) ∧ (w'.cell? ⟨w.heap.size + 1, 1, none⟩ = some (.int .i64 b)) ∧ (w'.cell? ⟨w.heap.size + 1, 2, none⟩ = some (.int .i64 c)) ∧ (w'.cell? ⟨w.heap.size + 1, 3, none⟩ = some (.int .i64 d)) ∧ (w'.cell? ⟨w.heap.size + 1 + 1, 0, none⟩ = some (.int .i64 a1)) ∧ (w'.cell? ⟨w.heap.size + 1 + 1, 1, none⟩ = some (.int .i64 b1)) ∧ (w'.cell? ⟨w.heap.size + 1 + 1, 2, none⟩ = some (.int .i64 c1)) ∧ (w'.cell? ⟨w.heap.size + 1 + 1, 3, none⟩ = some (.int .i64 d1)) ∧ (Below w.heap.size w w')) (first | (go_split_ands; refine ⟨?_, ?_, ?_, ?_, ?_, ?_, ?_, ?_, ?_, ?_, ?_⟩ <;> first | (exact cell_later (by assumption) (by assumption)) | (exact below_then (by assumption) (by assumption)) | (go_grown; done) | go_keep)) (first | (go_at_call_of 15 (Value.agg #[.int .i64 a, .int .i64 b, .int .i64 c, .int .i64 d]); refine (has_any a b c d x y _).mono ?_; rintro e wa ⟨rfl, ha9⟩) | (go_at_call_of 15 (Value.agg #[.int .i64 a1, .int .i64 b1, .int .i64 c1, .int .i64 d1]); refine (has_any a1 b1 c1 d1 x y _).mono ?_; rintro e wb ⟨rfl, hb9⟩))
  replace k00 := cell_later hb9 (cell_later ha9 (show W3.drew.cell? _ = some _ from k00))
  replace k01 := cell_later hb9 (cell_later ha9 (show W3.drew.cell? _ = some _ from k01))
  replace k10 := cell_later hb9 (cell_later ha9 (show W3.drew.cell? _ = some _ from k10))
  replace k11 := cell_later hb9 (cell_later ha9 (show W3.drew.cell? _ = some _ from k11))
  replace k12 := cell_later hb9 (cell_later ha9 (show W3.drew.cell? _ = some _ from k12))
  replace k13 := cell_later hb9 (cell_later ha9 (show W3.drew.cell? _ = some _ from k13))
  replace k20 := cell_later hb9 (cell_later ha9 (show W3.drew.cell? _ = some _ from k20))
  replace k21 := cell_later hb9 (cell_later ha9 (show W3.drew.cell? _ = some _ from k21))
  replace k22 := cell_later hb9 (cell_later ha9 (show W3.drew.cell? _ = some _ from k22))
  replace k23 := cell_later hb9 (cell_later ha9 (show W3.drew.cell? _ = some _ from k23))
  replace k30 := cell_later hb9 (cell_later ha9 (show W3.drew.cell? _ = some _ from k30))
  replace k31 := cell_later hb9 (cell_later ha9 (show W3.drew.cell? _ = some _ from k31))
  replace k32 := cell_later hb9 (cell_later ha9 (show W3.drew.cell? _ = some _ from k32))
  replace k33 := cell_later hb9 (cell_later ha9 (show W3.drew.cell? _ = some _ from k33))
  replace k40 := cell_later hb9 (cell_later ha9 (show W3.drew.cell? _ = some _ from k40))
  replace k41 := cell_later hb9 (cell_later ha9 (show W3.drew.cell? _ = some _ from k41))
  replace k42 := cell_later hb9 (cell_later ha9 (show W3.drew.cell? _ = some _ from k42))
  replace k43 := cell_later hb9 (cell_later ha9 (show W3.drew.cell? _ = some _ from k43))
  replace hB0 : Below w.heap.size w wb := below_trans (below_trans (show Below w.heap.size w W3.drew by go_grown) ha9) hb9
  clear ha9 hb9
  go_wp2_with (first | (go_at_call 13; refine (right_any _ _ _ _ _).mono ?_; rintro e w5 ⟨rfl, hb⟩; replace k00 := cell_later hb k00; replace k01 := cell_later hb k01; replace k10 := cell_later hb k10; replace k11 := cell_later hb k11; replace k12 := cell_later hb k12; replace k13 := cell_later hb k13; replace k20 := cell_later hb k20; replace k21 := cell_later hb k21; replace k22 := cell_later hb k22; replace k23 := cell_later hb k23; replace k30 := cell_later hb k30; replace k31 := cell_later hb k31; replace k32 := cell_later hb k32; replace k33 := cell_later hb k33; replace k40 := cell_later hb k40; replace k41 := cell_later hb k41; replace k42 := cell_later hb k42; replace k43 := cell_later hb k43; replace hB0 := below_trans hB0 hb; clear hb) | (go_at_call 15; refine (has_any _ _ _ _ _ _ _).mono ?_; rintro e w5 ⟨rfl, hb⟩; replace k00 := cell_later hb k00; replace k01 := cell_later hb k01; replace k10 := cell_later hb k10; replace k11 := cell_later hb k11; replace k12 := cell_later hb k12; replace k13 := cell_later hb k13; replace k20 := cell_later hb k20; replace k21 := cell_later hb k21; replace k22 := cell_later hb k22; replace k23 := cell_later hb k23; replace k30 := cell_later hb k30; replace k31 := cell_later hb k31; replace k32 := cell_later hb k32; replace k33 := cell_later hb k33; replace k40 := cell_later hb k40; replace k41 := cell_later hb k41; replace k42 := cell_later hb k42; replace k43 := cell_later hb k43; replace hB0 := below_trans hB0 hb; clear hb) | (go_at_call 17; refine (in_any _ _ _ _ _ _ _ _ _).mono ?_; rintro e w5 ⟨rfl, hb⟩; replace k00 := cell_later hb k00; replace k01 := cell_later hb k01; replace k10 := cell_later hb k10; replace k11 := cell_later hb k11; replace k12 := cell_later hb k12; replace k13 := cell_later hb k13; replace k20 := cell_later hb k20; replace k21 := cell_later hb k21; replace k22 := cell_later hb k22; replace k23 := cell_later hb k23; replace k30 := cell_later hb k30; replace k31 := cell_later hb k31; replace k32 := cell_later hb k32; replace k33 := cell_later hb k33; replace k40 := cell_later hb k40; replace k41 := cell_later hb k41; replace k42 := cell_later hb k42; replace k43 := cell_later hb k43; replace hB0 := below_trans hB0 hb; clear hb) | (go_at_call 21; refine (known_any _).mono ?_; rintro e w5 ⟨rfl, hb⟩; replace k00 := cell_later hb k00; replace k01 := cell_later hb k01; replace k10 := cell_later hb k10; replace k11 := cell_later hb k11; replace k12 := cell_later hb k12; replace k13 := cell_later hb k13; replace k20 := cell_later hb k20; replace k21 := cell_later hb k21; replace k22 := cell_later hb k22; replace k23 := cell_later hb k23; replace k30 := cell_later hb k30; replace k31 := cell_later hb k31; replace k32 := cell_later hb k32; replace k33 := cell_later hb k33; replace k40 := cell_later hb k40; replace k41 := cell_later hb k41; replace k42 := cell_later hb k42; replace k43 := cell_later hb k43; replace hB0 := below_trans hB0 hb; clear hb))
  all_goals
    go_ret
    exact ⟨rfl, hB0⟩
set_option maxHeartbeats 4000000 in
theorem walk_3ttt (x y a b c d a1 b1 c1 d1 : Int) (w : World)  (g1 : rightB a b c d = true)(g2 : rightB a1 b1 c1 d1 = true)(g3 : hasB a b c d x y = true)(g4 : hasB a1 b1 c1 d1 x y = true)(g5 : okM a b c d a1 b1 c1 d1 = true)(g6 : hasB (m0 a b c d a1 b1 c1 d1) (m1 a b c d a1 b1 c1 d1) (m2 a b c d a1 b1 c1 d1) (m3 a b c d a1 b1 c1 d1) x y = true)(g7 : hasB (hu0 a b c d a1 b1 c1 d1) (hu1 a b c d a1 b1 c1 d1) (hu2 a b c d a1 b1 c1 d1) (hu3 a b c d a1 b1 c1 d1) x y = true)(i1 : insB a b c d (hu0 a b c d a1 b1 c1 d1) (hu1 a b c d a1 b1 c1 d1) (hu2 a b c d a1 b1 c1 d1) (hu3 a b c d a1 b1 c1 d1) = true) (i2 : insB a1 b1 c1 d1 (hu0 a b c d a1 b1 c1 d1) (hu1 a b c d a1 b1 c1 d1) (hu2 a b c d a1 b1 c1 d1) (hu3 a b c d a1 b1 c1 d1) = true) :
    Calls Try.prog 6 #[.agg #[.int .i64 x, .int .i64 y], .agg #[.int .i64 a, .int .i64 b, .int .i64 c, .int .i64 d], .agg #[.int .i64 a1, .int .i64 b1, .int .i64 c1, .int .i64 d1]] w fun e w' => e = .returned (.bool true) ∧ Below w.heap.size w w' := by
  go_enter Try.func6, Try.ntmps6
  go_wp2_with fail
  have hB0 : Below w.heap.size w (((w.alloc (.cells #[.int .i64 x, .int .i64 y] 23)).alloc (.cells #[.int .i64 a, .int .i64 b, .int .i64 c, .int .i64 d] 25)).alloc (.cells #[.int .i64 a1, .int .i64 b1, .int .i64 c1, .int .i64 d1] 25)) := by go_grown
  have K := blk_three w 23 25 25 #[.int .i64 x, .int .i64 y] #[.int .i64 a, .int .i64 b, .int .i64 c, .int .i64 d] #[.int .i64 a1, .int .i64 b1, .int .i64 c1, .int .i64 d1]
  generalize (((w.alloc (.cells #[.int .i64 x, .int .i64 y] 23)).alloc (.cells #[.int .i64 a, .int .i64 b, .int .i64 c, .int .i64 d] 25)).alloc (.cells #[.int .i64 a1, .int .i64 b1, .int .i64 c1, .int .i64 d1] 25)) = W at hB0 K ⊢
  have k00 := K.1.cell 0
  have k01 := K.1.cell 1
  have k10 := K.2.1.cell 0
  have k11 := K.2.1.cell 1
  have k12 := K.2.1.cell 2
  have k13 := K.2.1.cell 3
  have k20 := K.2.2.cell 0
  have k21 := K.2.2.cell 1
  have k22 := K.2.2.cell 2
  have k23 := K.2.2.cell 3
  simp only [List.getElem?_toArray, List.getElem?_cons_zero, List.getElem?_cons_succ] at k00 k01 k10 k11 k12 k13 k20 k21 k22 k23
  clear K
  refine (meet_u _ _ _ _ _ _ _ _ _).mono ?_
  rintro e w1 ⟨rfl, hb⟩
  replace k00 := cell_later hb k00
  replace k01 := cell_later hb k01
  replace k10 := cell_later hb k10
  replace k11 := cell_later hb k11
  replace k12 := cell_later hb k12
  replace k13 := cell_later hb k13
  replace k20 := cell_later hb k20
  replace k21 := cell_later hb k21
  replace k22 := cell_later hb k22
  replace k23 := cell_later hb k23
  replace hB0 := below_trans hB0 hb
  clear hb
  have zk00 := block_lt_of_cell k00
  have zk10 := block_lt_of_cell k10
  have zk20 := block_lt_of_cell k20
  go_wp2_with fail
  have hz := hB0.size
  clear zk00 zk10 zk20
  have LN : Blk (w1.alloc (.cells #[.int .i64 (m0 a b c d a1 b1 c1 d1), .int .i64 (m1 a b c d a1 b1 c1 d1), .int .i64 (m2 a b c d a1 b1 c1 d1), .int .i64 (m3 a b c d a1 b1 c1 d1)] 25)) w1.heap.size 25 #[.int .i64 (m0 a b c d a1 b1 c1 d1), .int .i64 (m1 a b c d a1 b1 c1 d1), .int .i64 (m2 a b c d a1 b1 c1 d1), .int .i64 (m3 a b c d a1 b1 c1 d1)] := Blk.new _ _ _
  have hal : Below w1.heap.size w1 (w1.alloc (.cells #[.int .i64 (m0 a b c d a1 b1 c1 d1), .int .i64 (m1 a b c d a1 b1 c1 d1), .int .i64 (m2 a b c d a1 b1 c1 d1), .int .i64 (m3 a b c d a1 b1 c1 d1)] 25)) := (Below.refl _ _).alloc (Nat.le_refl _) _
  replace k00 := cell_later hal k00
  replace k01 := cell_later hal k01
  replace k10 := cell_later hal k10
  replace k11 := cell_later hal k11
  replace k12 := cell_later hal k12
  replace k13 := cell_later hal k13
  replace k20 := cell_later hal k20
  replace k21 := cell_later hal k21
  replace k22 := cell_later hal k22
  replace k23 := cell_later hal k23
  replace hB0 := below_trans hB0 hal
  clear hz
  generalize (w1.alloc (.cells #[.int .i64 (m0 a b c d a1 b1 c1 d1), .int .i64 (m1 a b c d a1 b1 c1 d1), .int .i64 (m2 a b c d a1 b1 c1 d1), .int .i64 (m3 a b c d a1 b1 c1 d1)] 25)) = W2 at *
  have k30 := LN.cell 0
  have k31 := LN.cell 1
  have k32 := LN.cell 2
  have k33 := LN.cell 3
  simp only [List.getElem?_toArray, List.getElem?_cons_zero, List.getElem?_cons_succ] at k30 k31 k32 k33
  clear LN hal
  refine (hull_u _ _ _ _ _ _ _ _ _).mono ?_
  rintro e w2 ⟨rfl, hb⟩
  replace k00 := cell_later hb k00
  replace k01 := cell_later hb k01
  replace k10 := cell_later hb k10
  replace k11 := cell_later hb k11
  replace k12 := cell_later hb k12
  replace k13 := cell_later hb k13
  replace k20 := cell_later hb k20
  replace k21 := cell_later hb k21
  replace k22 := cell_later hb k22
  replace k23 := cell_later hb k23
  replace k30 := cell_later hb k30
  replace k31 := cell_later hb k31
  replace k32 := cell_later hb k32
  replace k33 := cell_later hb k33
  replace hB0 := below_trans hB0 hb
  clear hb
  have zk00 := block_lt_of_cell k00
  have zk10 := block_lt_of_cell k10
  have zk20 := block_lt_of_cell k20
  have zk30 := block_lt_of_cell k30
  go_wp2_with fail
  have hz := hB0.size
  clear zk00 zk10 zk20 zk30
  have LN : Blk (w2.alloc (.cells #[.int .i64 (hu0 a b c d a1 b1 c1 d1), .int .i64 (hu1 a b c d a1 b1 c1 d1), .int .i64 (hu2 a b c d a1 b1 c1 d1), .int .i64 (hu3 a b c d a1 b1 c1 d1)] 25)) w2.heap.size 25 #[.int .i64 (hu0 a b c d a1 b1 c1 d1), .int .i64 (hu1 a b c d a1 b1 c1 d1), .int .i64 (hu2 a b c d a1 b1 c1 d1), .int .i64 (hu3 a b c d a1 b1 c1 d1)] := Blk.new _ _ _
  have hal : Below w2.heap.size w2 (w2.alloc (.cells #[.int .i64 (hu0 a b c d a1 b1 c1 d1), .int .i64 (hu1 a b c d a1 b1 c1 d1), .int .i64 (hu2 a b c d a1 b1 c1 d1), .int .i64 (hu3 a b c d a1 b1 c1 d1)] 25)) := (Below.refl _ _).alloc (Nat.le_refl _) _
  replace k00 := cell_later hal k00
  replace k01 := cell_later hal k01
  replace k10 := cell_later hal k10
  replace k11 := cell_later hal k11
  replace k12 := cell_later hal k12
  replace k13 := cell_later hal k13
  replace k20 := cell_later hal k20
  replace k21 := cell_later hal k21
  replace k22 := cell_later hal k22
  replace k23 := cell_later hal k23
  replace k30 := cell_later hal k30
  replace k31 := cell_later hal k31
  replace k32 := cell_later hal k32
  replace k33 := cell_later hal k33
  replace hB0 := below_trans hB0 hal
  clear hz
  generalize (w2.alloc (.cells #[.int .i64 (hu0 a b c d a1 b1 c1 d1), .int .i64 (hu1 a b c d a1 b1 c1 d1), .int .i64 (hu2 a b c d a1 b1 c1 d1), .int .i64 (hu3 a b c d a1 b1 c1 d1)] 25)) = W3 at *
  have k40 := LN.cell 0
  have k41 := LN.cell 1
  have k42 := LN.cell 2
  have k43 := LN.cell 3
  simp only [List.getElem?_toArray, List.getElem?_cons_zero, List.getElem?_cons_succ] at k40 k41 k42 k43
  clear LN hal
  go_region_held3 (fun w' => (w'.cell? ⟨w.heap.size, 0, none⟩ = some (.int .i64 x)) ∧ (w'.cell? ⟨w.heap.size, 1, none⟩ = some (.int .i64 y)) ∧ (w'.cell? ⟨w.heap.size + 1, 0, none⟩ = some (.int .i64 a)) ∧ (w'.cell? ⟨w.heap.size + 1, 1, none⟩ = some (.int .i64 b)) ∧ (w'.cell? ⟨w.heap.size + 1, 2, none⟩ = some (.int .i64 c)) ∧ (w'.cell? ⟨w.heap.size + 1, 3, none⟩ = some (.int .i64 d)) ∧ (w'.cell? ⟨w.heap.size + 1 + 1, 0, none⟩ = some (.int .i64 a1)) ∧ (w'.cell? ⟨w.heap.size + 1 + 1, 1, none⟩ = some (.int .i64 b1)) ∧ (w'.cell? ⟨w.heap.size + 1 + 1, 2, none⟩ = some (.int .i64 c1)) ∧ (w'.cell? ⟨w.heap.size + 1 + 1, 3, none⟩ = some (.int .i64 d1)) ∧ (Below w.heap.size w w')) (first | (go_split_ands; refine ⟨?_, ?_, ?_, ?_, ?_, ?_, ?_, ?_, ?_, ?_, ?_⟩ <;> first | (exact cell_later (by assumption) (by assumption)) | (exact below_then (by assumption) (by assumption)) | (go_grown; done) | go_keep)) (first | (go_at_call_of 15 (Value.agg #[.int .i64 a, .int .i64 b, .int .i64 c, .int .i64 d]); refine (has_any a b c d x y _).mono ?_; rintro e wa ⟨rfl, ha9⟩) | (go_at_call_of 15 (Value.agg #[.int .i64 a1, .int .i64 b1, .int .i64 c1, .int .i64 d1]); refine (has_any a1 b1 c1 d1 x y _).mono ?_; rintro e wb ⟨rfl, hb9⟩))
  replace k00 := cell_later hb9 (cell_later ha9 (show W3.drew.cell? _ = some _ from k00))
  replace k01 := cell_later hb9 (cell_later ha9 (show W3.drew.cell? _ = some _ from k01))
  replace k10 := cell_later hb9 (cell_later ha9 (show W3.drew.cell? _ = some _ from k10))
  replace k11 := cell_later hb9 (cell_later ha9 (show W3.drew.cell? _ = some _ from k11))
  replace k12 := cell_later hb9 (cell_later ha9 (show W3.drew.cell? _ = some _ from k12))
  replace k13 := cell_later hb9 (cell_later ha9 (show W3.drew.cell? _ = some _ from k13))
  replace k20 := cell_later hb9 (cell_later ha9 (show W3.drew.cell? _ = some _ from k20))
  replace k21 := cell_later hb9 (cell_later ha9 (show W3.drew.cell? _ = some _ from k21))
  replace k22 := cell_later hb9 (cell_later ha9 (show W3.drew.cell? _ = some _ from k22))
  replace k23 := cell_later hb9 (cell_later ha9 (show W3.drew.cell? _ = some _ from k23))
  replace k30 := cell_later hb9 (cell_later ha9 (show W3.drew.cell? _ = some _ from k30))
  replace k31 := cell_later hb9 (cell_later ha9 (show W3.drew.cell? _ = some _ from k31))
  replace k32 := cell_later hb9 (cell_later ha9 (show W3.drew.cell? _ = some _ from k32))
  replace k33 := cell_later hb9 (cell_later ha9 (show W3.drew.cell? _ = some _ from k33))
  replace k40 := cell_later hb9 (cell_later ha9 (show W3.drew.cell? _ = some _ from k40))
  replace k41 := cell_later hb9 (cell_later ha9 (show W3.drew.cell? _ = some _ from k41))
  replace k42 := cell_later hb9 (cell_later ha9 (show W3.drew.cell? _ = some _ from k42))
  replace k43 := cell_later hb9 (cell_later ha9 (show W3.drew.cell? _ = some _ from k43))
  replace hB0 : Below w.heap.size w wb := below_trans (below_trans (show Below w.heap.size w W3.drew by go_grown) ha9) hb9
  clear ha9 hb9
  go_wp2_with (first | (go_at_call 13; refine (right_any _ _ _ _ _).mono ?_; rintro e w5 ⟨rfl, hb⟩; replace k00 := cell_later hb k00; replace k01 := cell_later hb k01; replace k10 := cell_later hb k10; replace k11 := cell_later hb k11; replace k12 := cell_later hb k12; replace k13 := cell_later hb k13; replace k20 := cell_later hb k20; replace k21 := cell_later hb k21; replace k22 := cell_later hb k22; replace k23 := cell_later hb k23; replace k30 := cell_later hb k30; replace k31 := cell_later hb k31; replace k32 := cell_later hb k32; replace k33 := cell_later hb k33; replace k40 := cell_later hb k40; replace k41 := cell_later hb k41; replace k42 := cell_later hb k42; replace k43 := cell_later hb k43; replace hB0 := below_trans hB0 hb; clear hb) | (go_at_call 15; refine (has_any _ _ _ _ _ _ _).mono ?_; rintro e w5 ⟨rfl, hb⟩; replace k00 := cell_later hb k00; replace k01 := cell_later hb k01; replace k10 := cell_later hb k10; replace k11 := cell_later hb k11; replace k12 := cell_later hb k12; replace k13 := cell_later hb k13; replace k20 := cell_later hb k20; replace k21 := cell_later hb k21; replace k22 := cell_later hb k22; replace k23 := cell_later hb k23; replace k30 := cell_later hb k30; replace k31 := cell_later hb k31; replace k32 := cell_later hb k32; replace k33 := cell_later hb k33; replace k40 := cell_later hb k40; replace k41 := cell_later hb k41; replace k42 := cell_later hb k42; replace k43 := cell_later hb k43; replace hB0 := below_trans hB0 hb; clear hb) | (go_at_call 17; refine (in_any _ _ _ _ _ _ _ _ _).mono ?_; rintro e w5 ⟨rfl, hb⟩; replace k00 := cell_later hb k00; replace k01 := cell_later hb k01; replace k10 := cell_later hb k10; replace k11 := cell_later hb k11; replace k12 := cell_later hb k12; replace k13 := cell_later hb k13; replace k20 := cell_later hb k20; replace k21 := cell_later hb k21; replace k22 := cell_later hb k22; replace k23 := cell_later hb k23; replace k30 := cell_later hb k30; replace k31 := cell_later hb k31; replace k32 := cell_later hb k32; replace k33 := cell_later hb k33; replace k40 := cell_later hb k40; replace k41 := cell_later hb k41; replace k42 := cell_later hb k42; replace k43 := cell_later hb k43; replace hB0 := below_trans hB0 hb; clear hb) | (go_at_call 21; refine (known_any _).mono ?_; rintro e w5 ⟨rfl, hb⟩; replace k00 := cell_later hb k00; replace k01 := cell_later hb k01; replace k10 := cell_later hb k10; replace k11 := cell_later hb k11; replace k12 := cell_later hb k12; replace k13 := cell_later hb k13; replace k20 := cell_later hb k20; replace k21 := cell_later hb k21; replace k22 := cell_later hb k22; replace k23 := cell_later hb k23; replace k30 := cell_later hb k30; replace k31 := cell_later hb k31; replace k32 := cell_later hb k32; replace k33 := cell_later hb k33; replace k40 := cell_later hb k40; replace k41 := cell_later hb k41; replace k42 := cell_later hb k42; replace k43 := cell_later hb k43; replace hB0 := below_trans hB0 hb; clear hb))
  all_goals
    go_ret
    exact ⟨rfl, hB0⟩
set_option maxHeartbeats 4000000 in
theorem walk_3ttf (x y a b c d a1 b1 c1 d1 : Int) (w : World)  (g1 : rightB a b c d = true)(g2 : rightB a1 b1 c1 d1 = true)(g3 : hasB a b c d x y = true)(g4 : hasB a1 b1 c1 d1 x y = false)(g5 : okM a b c d a1 b1 c1 d1 = true)(g6 : hasB (m0 a b c d a1 b1 c1 d1) (m1 a b c d a1 b1 c1 d1) (m2 a b c d a1 b1 c1 d1) (m3 a b c d a1 b1 c1 d1) x y = false)(g7 : hasB (hu0 a b c d a1 b1 c1 d1) (hu1 a b c d a1 b1 c1 d1) (hu2 a b c d a1 b1 c1 d1) (hu3 a b c d a1 b1 c1 d1) x y = true)(i1 : insB a b c d (hu0 a b c d a1 b1 c1 d1) (hu1 a b c d a1 b1 c1 d1) (hu2 a b c d a1 b1 c1 d1) (hu3 a b c d a1 b1 c1 d1) = true) (i2 : insB a1 b1 c1 d1 (hu0 a b c d a1 b1 c1 d1) (hu1 a b c d a1 b1 c1 d1) (hu2 a b c d a1 b1 c1 d1) (hu3 a b c d a1 b1 c1 d1) = true) :
    Calls Try.prog 6 #[.agg #[.int .i64 x, .int .i64 y], .agg #[.int .i64 a, .int .i64 b, .int .i64 c, .int .i64 d], .agg #[.int .i64 a1, .int .i64 b1, .int .i64 c1, .int .i64 d1]] w fun e w' => e = .returned (.bool true) ∧ Below w.heap.size w w' := by
  go_enter Try.func6, Try.ntmps6
  go_wp2_with fail
  have hB0 : Below w.heap.size w (((w.alloc (.cells #[.int .i64 x, .int .i64 y] 23)).alloc (.cells #[.int .i64 a, .int .i64 b, .int .i64 c, .int .i64 d] 25)).alloc (.cells #[.int .i64 a1, .int .i64 b1, .int .i64 c1, .int .i64 d1] 25)) := by go_grown
  have K := blk_three w 23 25 25 #[.int .i64 x, .int .i64 y] #[.int .i64 a, .int .i64 b, .int .i64 c, .int .i64 d] #[.int .i64 a1, .int .i64 b1, .int .i64 c1, .int .i64 d1]
  generalize (((w.alloc (.cells #[.int .i64 x, .int .i64 y] 23)).alloc (.cells #[.int .i64 a, .int .i64 b, .int .i64 c, .int .i64 d] 25)).alloc (.cells #[.int .i64 a1, .int .i64 b1, .int .i64 c1, .int .i64 d1] 25)) = W at hB0 K ⊢
  have k00 := K.1.cell 0
  have k01 := K.1.cell 1
  have k10 := K.2.1.cell 0
  have k11 := K.2.1.cell 1
  have k12 := K.2.1.cell 2
  have k13 := K.2.1.cell 3
  have k20 := K.2.2.cell 0
  have k21 := K.2.2.cell 1
  have k22 := K.2.2.cell 2
  have k23 := K.2.2.cell 3
  simp only [List.getElem?_toArray, List.getElem?_cons_zero, List.getElem?_cons_succ] at k00 k01 k10 k11 k12 k13 k20 k21 k22 k23
  clear K
  refine (meet_u _ _ _ _ _ _ _ _ _).mono ?_
  rintro e w1 ⟨rfl, hb⟩
  replace k00 := cell_later hb k00
  replace k01 := cell_later hb k01
  replace k10 := cell_later hb k10
  replace k11 := cell_later hb k11
  replace k12 := cell_later hb k12
  replace k13 := cell_later hb k13
  replace k20 := cell_later hb k20
  replace k21 := cell_later hb k21
  replace k22 := cell_later hb k22
  replace k23 := cell_later hb k23
  replace hB0 := below_trans hB0 hb
  clear hb
  have zk00 := block_lt_of_cell k00
  have zk10 := block_lt_of_cell k10
  have zk20 := block_lt_of_cell k20
  go_wp2_with fail
  have hz := hB0.size
  clear zk00 zk10 zk20
  have LN : Blk (w1.alloc (.cells #[.int .i64 (m0 a b c d a1 b1 c1 d1), .int .i64 (m1 a b c d a1 b1 c1 d1), .int .i64 (m2 a b c d a1 b1 c1 d1), .int .i64 (m3 a b c d a1 b1 c1 d1)] 25)) w1.heap.size 25 #[.int .i64 (m0 a b c d a1 b1 c1 d1), .int .i64 (m1 a b c d a1 b1 c1 d1), .int .i64 (m2 a b c d a1 b1 c1 d1), .int .i64 (m3 a b c d a1 b1 c1 d1)] := Blk.new _ _ _
  have hal : Below w1.heap.size w1 (w1.alloc (.cells #[.int .i64 (m0 a b c d a1 b1 c1 d1), .int .i64 (m1 a b c d a1 b1 c1 d1), .int .i64 (m2 a b c d a1 b1 c1 d1), .int .i64 (m3 a b c d a1 b1 c1 d1)] 25)) := (Below.refl _ _).alloc (Nat.le_refl _) _
  replace k00 := cell_later hal k00
  replace k01 := cell_later hal k01
  replace k10 := cell_later hal k10
  replace k11 := cell_later hal k11
  replace k12 := cell_later hal k12
  replace k13 := cell_later hal k13
  replace k20 := cell_later hal k20
  replace k21 := cell_later hal k21
  replace k22 := cell_later hal k22
  replace k23 := cell_later hal k23
  replace hB0 := below_trans hB0 hal
  clear hz
  generalize (w1.alloc (.cells #[.int .i64 (m0 a b c d a1 b1 c1 d1), .int .i64 (m1 a b c d a1 b1 c1 d1), .int .i64 (m2 a b c d a1 b1 c1 d1), .int .i64 (m3 a b c d a1 b1 c1 d1)] 25)) = W2 at *
  have k30 := LN.cell 0
  have k31 := LN.cell 1
  have k32 := LN.cell 2
  have k33 := LN.cell 3
  simp only [List.getElem?_toArray, List.getElem?_cons_zero, List.getElem?_cons_succ] at k30 k31 k32 k33
  clear LN hal
  refine (hull_u _ _ _ _ _ _ _ _ _).mono ?_
  rintro e w2 ⟨rfl, hb⟩
  replace k00 := cell_later hb k00
  replace k01 := cell_later hb k01
  replace k10 := cell_later hb k10
  replace k11 := cell_later hb k11
  replace k12 := cell_later hb k12
  replace k13 := cell_later hb k13
  replace k20 := cell_later hb k20
  replace k21 := cell_later hb k21
  replace k22 := cell_later hb k22
  replace k23 := cell_later hb k23
  replace k30 := cell_later hb k30
  replace k31 := cell_later hb k31
  replace k32 := cell_later hb k32
  replace k33 := cell_later hb k33
  replace hB0 := below_trans hB0 hb
  clear hb
  have zk00 := block_lt_of_cell k00
  have zk10 := block_lt_of_cell k10
  have zk20 := block_lt_of_cell k20
  have zk30 := block_lt_of_cell k30
  go_wp2_with fail
  have hz := hB0.size
  clear zk00 zk10 zk20 zk30
  have LN : Blk (w2.alloc (.cells #[.int .i64 (hu0 a b c d a1 b1 c1 d1), .int .i64 (hu1 a b c d a1 b1 c1 d1), .int .i64 (hu2 a b c d a1 b1 c1 d1), .int .i64 (hu3 a b c d a1 b1 c1 d1)] 25)) w2.heap.size 25 #[.int .i64 (hu0 a b c d a1 b1 c1 d1), .int .i64 (hu1 a b c d a1 b1 c1 d1), .int .i64 (hu2 a b c d a1 b1 c1 d1), .int .i64 (hu3 a b c d a1 b1 c1 d1)] := Blk.new _ _ _
  have hal : Below w2.heap.size w2 (w2.alloc (.cells #[.int .i64 (hu0 a b c d a1 b1 c1 d1), .int .i64 (hu1 a b c d a1 b1 c1 d1), .int .i64 (hu2 a b c d a1 b1 c1 d1), .int .i64 (hu3 a b c d a1 b1 c1 d1)] 25)) := (Below.refl _ _).alloc (Nat.le_refl _) _
  replace k00 := cell_later hal k00
  replace k01 := cell_later hal k01
  replace k10 := cell_later hal k10
  replace k11 := cell_later hal k11
  replace k12 := cell_later hal k12
  replace k13 := cell_later hal k13
  replace k20 := cell_later hal k20
  replace k21 := cell_later hal k21
  replace k22 := cell_later hal k22
  replace k23 := cell_later hal k23
  replace k30 := cell_later hal k30
  replace k31 := cell_later hal k31
  replace k32 := cell_later hal k32
  replace k33 := cell_later hal k33
  replace hB0 := below_trans hB0 hal
  clear hz
  generalize (w2.alloc (.cells #[.int .i64 (hu0 a b c d a1 b1 c1 d1), .int .i64 (hu1 a b c d a1 b1 c1 d1), .int .i64 (hu2 a b c d a1 b1 c1 d1), .int .i64 (hu3 a b c d a1 b1 c1 d1)] 25)) = W3 at *
  have k40 := LN.cell 0
  have k41 := LN.cell 1
  have k42 := LN.cell 2
  have k43 := LN.cell 3
  simp only [List.getElem?_toArray, List.getElem?_cons_zero, List.getElem?_cons_succ] at k40 k41 k42 k43
  clear LN hal
  go_region_held3 (fun w' => (w'.cell? ⟨w.heap.size, 0, none⟩ = some (.int .i64 x)) ∧ (w'.cell? ⟨w.heap.size, 1, none⟩ = some (.int .i64 y)) ∧ (w'.cell? ⟨w.heap.size + 1, 0, none⟩ = some (.int .i64 a)) ∧ (w'.cell? ⟨w.heap.size + 1, 1, none⟩ = some (.int .i64 b)) ∧ (w'.cell? ⟨w.heap.size + 1, 2, none⟩ = some (.int .i64 c)) ∧ (w'.cell? ⟨w.heap.size + 1, 3, none⟩ = some (.int .i64 d)) ∧ (w'.cell? ⟨w.heap.size + 1 + 1, 0, none⟩ = some (.int .i64 a1)) ∧ (w'.cell? ⟨w.heap.size + 1 + 1, 1, none⟩ = some (.int .i64 b1)) ∧ (w'.cell? ⟨w.heap.size + 1 + 1, 2, none⟩ = some (.int .i64 c1)) ∧ (w'.cell? ⟨w.heap.size + 1 + 1, 3, none⟩ = some (.int .i64 d1)) ∧ (Below w.heap.size w w')) (first | (go_split_ands; refine ⟨?_, ?_, ?_, ?_, ?_, ?_, ?_, ?_, ?_, ?_, ?_⟩ <;> first | (exact cell_later (by assumption) (by assumption)) | (exact below_then (by assumption) (by assumption)) | (go_grown; done) | go_keep)) (first | (go_at_call_of 15 (Value.agg #[.int .i64 a, .int .i64 b, .int .i64 c, .int .i64 d]); refine (has_any a b c d x y _).mono ?_; rintro e wa ⟨rfl, ha9⟩) | (go_at_call_of 15 (Value.agg #[.int .i64 a1, .int .i64 b1, .int .i64 c1, .int .i64 d1]); refine (has_any a1 b1 c1 d1 x y _).mono ?_; rintro e wb ⟨rfl, hb9⟩))
  replace k00 := cell_later hb9 (cell_later ha9 (show W3.drew.cell? _ = some _ from k00))
  replace k01 := cell_later hb9 (cell_later ha9 (show W3.drew.cell? _ = some _ from k01))
  replace k10 := cell_later hb9 (cell_later ha9 (show W3.drew.cell? _ = some _ from k10))
  replace k11 := cell_later hb9 (cell_later ha9 (show W3.drew.cell? _ = some _ from k11))
  replace k12 := cell_later hb9 (cell_later ha9 (show W3.drew.cell? _ = some _ from k12))
  replace k13 := cell_later hb9 (cell_later ha9 (show W3.drew.cell? _ = some _ from k13))
  replace k20 := cell_later hb9 (cell_later ha9 (show W3.drew.cell? _ = some _ from k20))
  replace k21 := cell_later hb9 (cell_later ha9 (show W3.drew.cell? _ = some _ from k21))
  replace k22 := cell_later hb9 (cell_later ha9 (show W3.drew.cell? _ = some _ from k22))
  replace k23 := cell_later hb9 (cell_later ha9 (show W3.drew.cell? _ = some _ from k23))
  replace k30 := cell_later hb9 (cell_later ha9 (show W3.drew.cell? _ = some _ from k30))
  replace k31 := cell_later hb9 (cell_later ha9 (show W3.drew.cell? _ = some _ from k31))
  replace k32 := cell_later hb9 (cell_later ha9 (show W3.drew.cell? _ = some _ from k32))
  replace k33 := cell_later hb9 (cell_later ha9 (show W3.drew.cell? _ = some _ from k33))
  replace k40 := cell_later hb9 (cell_later ha9 (show W3.drew.cell? _ = some _ from k40))
  replace k41 := cell_later hb9 (cell_later ha9 (show W3.drew.cell? _ = some _ from k41))
  replace k42 := cell_later hb9 (cell_later ha9 (show W3.drew.cell? _ = some _ from k42))
  replace k43 := cell_later hb9 (cell_later ha9 (show W3.drew.cell? _ = some _ from k43))
  replace hB0 : Below w.heap.size w wb := below_trans (below_trans (show Below w.heap.size w W3.drew by go_grown) ha9) hb9
  clear ha9 hb9
  go_wp2_with (first | (go_at_call 13; refine (right_any _ _ _ _ _).mono ?_; rintro e w5 ⟨rfl, hb⟩; replace k00 := cell_later hb k00; replace k01 := cell_later hb k01; replace k10 := cell_later hb k10; replace k11 := cell_later hb k11; replace k12 := cell_later hb k12; replace k13 := cell_later hb k13; replace k20 := cell_later hb k20; replace k21 := cell_later hb k21; replace k22 := cell_later hb k22; replace k23 := cell_later hb k23; replace k30 := cell_later hb k30; replace k31 := cell_later hb k31; replace k32 := cell_later hb k32; replace k33 := cell_later hb k33; replace k40 := cell_later hb k40; replace k41 := cell_later hb k41; replace k42 := cell_later hb k42; replace k43 := cell_later hb k43; replace hB0 := below_trans hB0 hb; clear hb) | (go_at_call 15; refine (has_any _ _ _ _ _ _ _).mono ?_; rintro e w5 ⟨rfl, hb⟩; replace k00 := cell_later hb k00; replace k01 := cell_later hb k01; replace k10 := cell_later hb k10; replace k11 := cell_later hb k11; replace k12 := cell_later hb k12; replace k13 := cell_later hb k13; replace k20 := cell_later hb k20; replace k21 := cell_later hb k21; replace k22 := cell_later hb k22; replace k23 := cell_later hb k23; replace k30 := cell_later hb k30; replace k31 := cell_later hb k31; replace k32 := cell_later hb k32; replace k33 := cell_later hb k33; replace k40 := cell_later hb k40; replace k41 := cell_later hb k41; replace k42 := cell_later hb k42; replace k43 := cell_later hb k43; replace hB0 := below_trans hB0 hb; clear hb) | (go_at_call 17; refine (in_any _ _ _ _ _ _ _ _ _).mono ?_; rintro e w5 ⟨rfl, hb⟩; replace k00 := cell_later hb k00; replace k01 := cell_later hb k01; replace k10 := cell_later hb k10; replace k11 := cell_later hb k11; replace k12 := cell_later hb k12; replace k13 := cell_later hb k13; replace k20 := cell_later hb k20; replace k21 := cell_later hb k21; replace k22 := cell_later hb k22; replace k23 := cell_later hb k23; replace k30 := cell_later hb k30; replace k31 := cell_later hb k31; replace k32 := cell_later hb k32; replace k33 := cell_later hb k33; replace k40 := cell_later hb k40; replace k41 := cell_later hb k41; replace k42 := cell_later hb k42; replace k43 := cell_later hb k43; replace hB0 := below_trans hB0 hb; clear hb) | (go_at_call 21; refine (known_any _).mono ?_; rintro e w5 ⟨rfl, hb⟩; replace k00 := cell_later hb k00; replace k01 := cell_later hb k01; replace k10 := cell_later hb k10; replace k11 := cell_later hb k11; replace k12 := cell_later hb k12; replace k13 := cell_later hb k13; replace k20 := cell_later hb k20; replace k21 := cell_later hb k21; replace k22 := cell_later hb k22; replace k23 := cell_later hb k23; replace k30 := cell_later hb k30; replace k31 := cell_later hb k31; replace k32 := cell_later hb k32; replace k33 := cell_later hb k33; replace k40 := cell_later hb k40; replace k41 := cell_later hb k41; replace k42 := cell_later hb k42; replace k43 := cell_later hb k43; replace hB0 := below_trans hB0 hb; clear hb))
  all_goals
    go_ret
    exact ⟨rfl, hB0⟩
set_option maxHeartbeats 4000000 in
theorem walk_3tft (x y a b c d a1 b1 c1 d1 : Int) (w : World)  (g1 : rightB a b c d = true)(g2 : rightB a1 b1 c1 d1 = true)(g3 : hasB a b c d x y = false)(g4 : hasB a1 b1 c1 d1 x y = true)(g5 : okM a b c d a1 b1 c1 d1 = true)(g6 : hasB (m0 a b c d a1 b1 c1 d1) (m1 a b c d a1 b1 c1 d1) (m2 a b c d a1 b1 c1 d1) (m3 a b c d a1 b1 c1 d1) x y = false)(g7 : hasB (hu0 a b c d a1 b1 c1 d1) (hu1 a b c d a1 b1 c1 d1) (hu2 a b c d a1 b1 c1 d1) (hu3 a b c d a1 b1 c1 d1) x y = true)(i1 : insB a b c d (hu0 a b c d a1 b1 c1 d1) (hu1 a b c d a1 b1 c1 d1) (hu2 a b c d a1 b1 c1 d1) (hu3 a b c d a1 b1 c1 d1) = true) (i2 : insB a1 b1 c1 d1 (hu0 a b c d a1 b1 c1 d1) (hu1 a b c d a1 b1 c1 d1) (hu2 a b c d a1 b1 c1 d1) (hu3 a b c d a1 b1 c1 d1) = true) :
    Calls Try.prog 6 #[.agg #[.int .i64 x, .int .i64 y], .agg #[.int .i64 a, .int .i64 b, .int .i64 c, .int .i64 d], .agg #[.int .i64 a1, .int .i64 b1, .int .i64 c1, .int .i64 d1]] w fun e w' => e = .returned (.bool true) ∧ Below w.heap.size w w' := by
  go_enter Try.func6, Try.ntmps6
  go_wp2_with fail
  have hB0 : Below w.heap.size w (((w.alloc (.cells #[.int .i64 x, .int .i64 y] 23)).alloc (.cells #[.int .i64 a, .int .i64 b, .int .i64 c, .int .i64 d] 25)).alloc (.cells #[.int .i64 a1, .int .i64 b1, .int .i64 c1, .int .i64 d1] 25)) := by go_grown
  have K := blk_three w 23 25 25 #[.int .i64 x, .int .i64 y] #[.int .i64 a, .int .i64 b, .int .i64 c, .int .i64 d] #[.int .i64 a1, .int .i64 b1, .int .i64 c1, .int .i64 d1]
  generalize (((w.alloc (.cells #[.int .i64 x, .int .i64 y] 23)).alloc (.cells #[.int .i64 a, .int .i64 b, .int .i64 c, .int .i64 d] 25)).alloc (.cells #[.int .i64 a1, .int .i64 b1, .int .i64 c1, .int .i64 d1] 25)) = W at hB0 K ⊢
  have k00 := K.1.cell 0
  have k01 := K.1.cell 1
  have k10 := K.2.1.cell 0
  have k11 := K.2.1.cell 1
  have k12 := K.2.1.cell 2
  have k13 := K.2.1.cell 3
  have k20 := K.2.2.cell 0
  have k21 := K.2.2.cell 1
  have k22 := K.2.2.cell 2
  have k23 := K.2.2.cell 3
  simp only [List.getElem?_toArray, List.getElem?_cons_zero, List.getElem?_cons_succ] at k00 k01 k10 k11 k12 k13 k20 k21 k22 k23
  clear K
  refine (meet_u _ _ _ _ _ _ _ _ _).mono ?_
  rintro e w1 ⟨rfl, hb⟩
  replace k00 := cell_later hb k00
  replace k01 := cell_later hb k01
  replace k10 := cell_later hb k10
  replace k11 := cell_later hb k11
  replace k12 := cell_later hb k12
  replace k13 := cell_later hb k13
  replace k20 := cell_later hb k20
  replace k21 := cell_later hb k21
  replace k22 := cell_later hb k22
  replace k23 := cell_later hb k23
  replace hB0 := below_trans hB0 hb
  clear hb
  have zk00 := block_lt_of_cell k00
  have zk10 := block_lt_of_cell k10
  have zk20 := block_lt_of_cell k20
  go_wp2_with fail
  have hz := hB0.size
  clear zk00 zk10 zk20
  have LN : Blk (w1.alloc (.cells #[.int .i64 (m0 a b c d a1 b1 c1 d1), .int .i64 (m1 a b c d a1 b1 c1 d1), .int .i64 (m2 a b c d a1 b1 c1 d1), .int .i64 (m3 a b c d a1 b1 c1 d1)] 25)) w1.heap.size 25 #[.int .i64 (m0 a b c d a1 b1 c1 d1), .int .i64 (m1 a b c d a1 b1 c1 d1), .int .i64 (m2 a b c d a1 b1 c1 d1), .int .i64 (m3 a b c d a1 b1 c1 d1)] := Blk.new _ _ _
  have hal : Below w1.heap.size w1 (w1.alloc (.cells #[.int .i64 (m0 a b c d a1 b1 c1 d1), .int .i64 (m1 a b c d a1 b1 c1 d1), .int .i64 (m2 a b c d a1 b1 c1 d1), .int .i64 (m3 a b c d a1 b1 c1 d1)] 25)) := (Below.refl _ _).alloc (Nat.le_refl _) _
  replace k00 := cell_later hal k00
  replace k01 := cell_later hal k01
  replace k10 := cell_later hal k10
  replace k11 := cell_later hal k11
  replace k12 := cell_later hal k12
  replace k13 := cell_later hal k13
  replace k20 := cell_later hal k20
  replace k21 := cell_later hal k21
  replace k22 := cell_later hal k22
  replace k23 := cell_later hal k23
  replace hB0 := below_trans hB0 hal
  clear hz
  generalize (w1.alloc (.cells #[.int .i64 (m0 a b c d a1 b1 c1 d1), .int .i64 (m1 a b c d a1 b1 c1 d1), .int .i64 (m2 a b c d a1 b1 c1 d1), .int .i64 (m3 a b c d a1 b1 c1 d1)] 25)) = W2 at *
  have k30 := LN.cell 0
  have k31 := LN.cell 1
  have k32 := LN.cell 2
  have k33 := LN.cell 3
  simp only [List.getElem?_toArray, List.getElem?_cons_zero, List.getElem?_cons_succ] at k30 k31 k32 k33
  clear LN hal
  refine (hull_u _ _ _ _ _ _ _ _ _).mono ?_
  rintro e w2 ⟨rfl, hb⟩
  replace k00 := cell_later hb k00
  replace k01 := cell_later hb k01
  replace k10 := cell_later hb k10
  replace k11 := cell_later hb k11
  replace k12 := cell_later hb k12
  replace k13 := cell_later hb k13
  replace k20 := cell_later hb k20
  replace k21 := cell_later hb k21
  replace k22 := cell_later hb k22
  replace k23 := cell_later hb k23
  replace k30 := cell_later hb k30
  replace k31 := cell_later hb k31
  replace k32 := cell_later hb k32
  replace k33 := cell_later hb k33
  replace hB0 := below_trans hB0 hb
  clear hb
  have zk00 := block_lt_of_cell k00
  have zk10 := block_lt_of_cell k10
  have zk20 := block_lt_of_cell k20
  have zk30 := block_lt_of_cell k30
  go_wp2_with fail
  have hz := hB0.size
  clear zk00 zk10 zk20 zk30
  have LN : Blk (w2.alloc (.cells #[.int .i64 (hu0 a b c d a1 b1 c1 d1), .int .i64 (hu1 a b c d a1 b1 c1 d1), .int .i64 (hu2 a b c d a1 b1 c1 d1), .int .i64 (hu3 a b c d a1 b1 c1 d1)] 25)) w2.heap.size 25 #[.int .i64 (hu0 a b c d a1 b1 c1 d1), .int .i64 (hu1 a b c d a1 b1 c1 d1), .int .i64 (hu2 a b c d a1 b1 c1 d1), .int .i64 (hu3 a b c d a1 b1 c1 d1)] := Blk.new _ _ _
  have hal : Below w2.heap.size w2 (w2.alloc (.cells #[.int .i64 (hu0 a b c d a1 b1 c1 d1), .int .i64 (hu1 a b c d a1 b1 c1 d1), .int .i64 (hu2 a b c d a1 b1 c1 d1), .int .i64 (hu3 a b c d a1 b1 c1 d1)] 25)) := (Below.refl _ _).alloc (Nat.le_refl _) _
  replace k00 := cell_later hal k00
  replace k01 := cell_later hal k01
  replace k10 := cell_later hal k10
  replace k11 := cell_later hal k11
  replace k12 := cell_later hal k12
  replace k13 := cell_later hal k13
  replace k20 := cell_later hal k20
  replace k21 := cell_later hal k21
  replace k22 := cell_later hal k22
  replace k23 := cell_later hal k23
  replace k30 := cell_later hal k30
  replace k31 := cell_later hal k31
  replace k32 := cell_later hal k32
  replace k33 := cell_later hal k33
  replace hB0 := below_trans hB0 hal
  clear hz
  generalize (w2.alloc (.cells #[.int .i64 (hu0 a b c d a1 b1 c1 d1), .int .i64 (hu1 a b c d a1 b1 c1 d1), .int .i64 (hu2 a b c d a1 b1 c1 d1), .int .i64 (hu3 a b c d a1 b1 c1 d1)] 25)) = W3 at *
  have k40 := LN.cell 0
  have k41 := LN.cell 1
  have k42 := LN.cell 2
  have k43 := LN.cell 3
  simp only [List.getElem?_toArray, List.getElem?_cons_zero, List.getElem?_cons_succ] at k40 k41 k42 k43
  clear LN hal
  go_region_held3 (fun w' => (w'.cell? ⟨w.heap.size, 0, none⟩ = some (.int .i64 x)) ∧ (w'.cell? ⟨w.heap.size, 1, none⟩ = some (.int .i64 y)) ∧ (w'.cell? ⟨w.heap.size + 1, 0, none⟩ = some (.int .i64 a)) ∧ (w'.cell? ⟨w.heap.size + 1, 1, none⟩ = some (.int .i64 b)) ∧ (w'.cell? ⟨w.heap.size + 1, 2, none⟩ = some (.int .i64 c)) ∧ (w'.cell? ⟨w.heap.size + 1, 3, none⟩ = some (.int .i64 d)) ∧ (w'.cell? ⟨w.heap.size + 1 + 1, 0, none⟩ = some (.int .i64 a1)) ∧ (w'.cell? ⟨w.heap.size + 1 + 1, 1, none⟩ = some (.int .i64 b1)) ∧ (w'.cell? ⟨w.heap.size + 1 + 1, 2, none⟩ = some (.int .i64 c1)) ∧ (w'.cell? ⟨w.heap.size + 1 + 1, 3, none⟩ = some (.int .i64 d1)) ∧ (Below w.heap.size w w')) (first | (go_split_ands; refine ⟨?_, ?_, ?_, ?_, ?_, ?_, ?_, ?_, ?_, ?_, ?_⟩ <;> first | (exact cell_later (by assumption) (by assumption)) | (exact below_then (by assumption) (by assumption)) | (go_grown; done) | go_keep)) (first | (go_at_call_of 15 (Value.agg #[.int .i64 a, .int .i64 b, .int .i64 c, .int .i64 d]); refine (has_any a b c d x y _).mono ?_; rintro e wa ⟨rfl, ha9⟩) | (go_at_call_of 15 (Value.agg #[.int .i64 a1, .int .i64 b1, .int .i64 c1, .int .i64 d1]); refine (has_any a1 b1 c1 d1 x y _).mono ?_; rintro e wb ⟨rfl, hb9⟩))
  replace k00 := cell_later hb9 (cell_later ha9 (show W3.drew.cell? _ = some _ from k00))
  replace k01 := cell_later hb9 (cell_later ha9 (show W3.drew.cell? _ = some _ from k01))
  replace k10 := cell_later hb9 (cell_later ha9 (show W3.drew.cell? _ = some _ from k10))
  replace k11 := cell_later hb9 (cell_later ha9 (show W3.drew.cell? _ = some _ from k11))
  replace k12 := cell_later hb9 (cell_later ha9 (show W3.drew.cell? _ = some _ from k12))
  replace k13 := cell_later hb9 (cell_later ha9 (show W3.drew.cell? _ = some _ from k13))
  replace k20 := cell_later hb9 (cell_later ha9 (show W3.drew.cell? _ = some _ from k20))
  replace k21 := cell_later hb9 (cell_later ha9 (show W3.drew.cell? _ = some _ from k21))
  replace k22 := cell_later hb9 (cell_later ha9 (show W3.drew.cell? _ = some _ from k22))
  replace k23 := cell_later hb9 (cell_later ha9 (show W3.drew.cell? _ = some _ from k23))
  replace k30 := cell_later hb9 (cell_later ha9 (show W3.drew.cell? _ = some _ from k30))
  replace k31 := cell_later hb9 (cell_later ha9 (show W3.drew.cell? _ = some _ from k31))
  replace k32 := cell_later hb9 (cell_later ha9 (show W3.drew.cell? _ = some _ from k32))
  replace k33 := cell_later hb9 (cell_later ha9 (show W3.drew.cell? _ = some _ from k33))
  replace k40 := cell_later hb9 (cell_later ha9 (show W3.drew.cell? _ = some _ from k40))
  replace k41 := cell_later hb9 (cell_later ha9 (show W3.drew.cell? _ = some _ from k41))
  replace k42 := cell_later hb9 (cell_later ha9 (show W3.drew.cell? _ = some _ from k42))
  replace k43 := cell_later hb9 (cell_later ha9 (show W3.drew.cell? _ = some _ from k43))
  replace hB0 : Below w.heap.size w wb := below_trans (below_trans (show Below w.heap.size w W3.drew by go_grown) ha9) hb9
  clear ha9 hb9
  go_wp2_with (first | (go_at_call 13; refine (right_any _ _ _ _ _).mono ?_; rintro e w5 ⟨rfl, hb⟩; replace k00 := cell_later hb k00; replace k01 := cell_later hb k01; replace k10 := cell_later hb k10; replace k11 := cell_later hb k11; replace k12 := cell_later hb k12; replace k13 := cell_later hb k13; replace k20 := cell_later hb k20; replace k21 := cell_later hb k21; replace k22 := cell_later hb k22; replace k23 := cell_later hb k23; replace k30 := cell_later hb k30; replace k31 := cell_later hb k31; replace k32 := cell_later hb k32; replace k33 := cell_later hb k33; replace k40 := cell_later hb k40; replace k41 := cell_later hb k41; replace k42 := cell_later hb k42; replace k43 := cell_later hb k43; replace hB0 := below_trans hB0 hb; clear hb) | (go_at_call 15; refine (has_any _ _ _ _ _ _ _).mono ?_; rintro e w5 ⟨rfl, hb⟩; replace k00 := cell_later hb k00; replace k01 := cell_later hb k01; replace k10 := cell_later hb k10; replace k11 := cell_later hb k11; replace k12 := cell_later hb k12; replace k13 := cell_later hb k13; replace k20 := cell_later hb k20; replace k21 := cell_later hb k21; replace k22 := cell_later hb k22; replace k23 := cell_later hb k23; replace k30 := cell_later hb k30; replace k31 := cell_later hb k31; replace k32 := cell_later hb k32; replace k33 := cell_later hb k33; replace k40 := cell_later hb k40; replace k41 := cell_later hb k41; replace k42 := cell_later hb k42; replace k43 := cell_later hb k43; replace hB0 := below_trans hB0 hb; clear hb) | (go_at_call 17; refine (in_any _ _ _ _ _ _ _ _ _).mono ?_; rintro e w5 ⟨rfl, hb⟩; replace k00 := cell_later hb k00; replace k01 := cell_later hb k01; replace k10 := cell_later hb k10; replace k11 := cell_later hb k11; replace k12 := cell_later hb k12; replace k13 := cell_later hb k13; replace k20 := cell_later hb k20; replace k21 := cell_later hb k21; replace k22 := cell_later hb k22; replace k23 := cell_later hb k23; replace k30 := cell_later hb k30; replace k31 := cell_later hb k31; replace k32 := cell_later hb k32; replace k33 := cell_later hb k33; replace k40 := cell_later hb k40; replace k41 := cell_later hb k41; replace k42 := cell_later hb k42; replace k43 := cell_later hb k43; replace hB0 := below_trans hB0 hb; clear hb) | (go_at_call 21; refine (known_any _).mono ?_; rintro e w5 ⟨rfl, hb⟩; replace k00 := cell_later hb k00; replace k01 := cell_later hb k01; replace k10 := cell_later hb k10; replace k11 := cell_later hb k11; replace k12 := cell_later hb k12; replace k13 := cell_later hb k13; replace k20 := cell_later hb k20; replace k21 := cell_later hb k21; replace k22 := cell_later hb k22; replace k23 := cell_later hb k23; replace k30 := cell_later hb k30; replace k31 := cell_later hb k31; replace k32 := cell_later hb k32; replace k33 := cell_later hb k33; replace k40 := cell_later hb k40; replace k41 := cell_later hb k41; replace k42 := cell_later hb k42; replace k43 := cell_later hb k43; replace hB0 := below_trans hB0 hb; clear hb))
  all_goals
    go_ret
    exact ⟨rfl, hB0⟩
set_option maxHeartbeats 4000000 in
theorem walk_3tff (x y a b c d a1 b1 c1 d1 : Int) (w : World)  (g1 : rightB a b c d = true)(g2 : rightB a1 b1 c1 d1 = true)(g3 : hasB a b c d x y = false)(g4 : hasB a1 b1 c1 d1 x y = false)(g5 : okM a b c d a1 b1 c1 d1 = true)(g6 : hasB (m0 a b c d a1 b1 c1 d1) (m1 a b c d a1 b1 c1 d1) (m2 a b c d a1 b1 c1 d1) (m3 a b c d a1 b1 c1 d1) x y = false)(i1 : insB a b c d (hu0 a b c d a1 b1 c1 d1) (hu1 a b c d a1 b1 c1 d1) (hu2 a b c d a1 b1 c1 d1) (hu3 a b c d a1 b1 c1 d1) = true) (i2 : insB a1 b1 c1 d1 (hu0 a b c d a1 b1 c1 d1) (hu1 a b c d a1 b1 c1 d1) (hu2 a b c d a1 b1 c1 d1) (hu3 a b c d a1 b1 c1 d1) = true) :
    Calls Try.prog 6 #[.agg #[.int .i64 x, .int .i64 y], .agg #[.int .i64 a, .int .i64 b, .int .i64 c, .int .i64 d], .agg #[.int .i64 a1, .int .i64 b1, .int .i64 c1, .int .i64 d1]] w fun e w' => e = .returned (.bool true) ∧ Below w.heap.size w w' := by
  go_enter Try.func6, Try.ntmps6
  go_wp2_with fail
  have hB0 : Below w.heap.size w (((w.alloc (.cells #[.int .i64 x, .int .i64 y] 23)).alloc (.cells #[.int .i64 a, .int .i64 b, .int .i64 c, .int .i64 d] 25)).alloc (.cells #[.int .i64 a1, .int .i64 b1, .int .i64 c1, .int .i64 d1] 25)) := by go_grown
  have K := blk_three w 23 25 25 #[.int .i64 x, .int .i64 y] #[.int .i64 a, .int .i64 b, .int .i64 c, .int .i64 d] #[.int .i64 a1, .int .i64 b1, .int .i64 c1, .int .i64 d1]
  generalize (((w.alloc (.cells #[.int .i64 x, .int .i64 y] 23)).alloc (.cells #[.int .i64 a, .int .i64 b, .int .i64 c, .int .i64 d] 25)).alloc (.cells #[.int .i64 a1, .int .i64 b1, .int .i64 c1, .int .i64 d1] 25)) = W at hB0 K ⊢
  have k00 := K.1.cell 0
  have k01 := K.1.cell 1
  have k10 := K.2.1.cell 0
  have k11 := K.2.1.cell 1
  have k12 := K.2.1.cell 2
  have k13 := K.2.1.cell 3
  have k20 := K.2.2.cell 0
  have k21 := K.2.2.cell 1
  have k22 := K.2.2.cell 2
  have k23 := K.2.2.cell 3
  simp only [List.getElem?_toArray, List.getElem?_cons_zero, List.getElem?_cons_succ] at k00 k01 k10 k11 k12 k13 k20 k21 k22 k23
  clear K
  refine (meet_u _ _ _ _ _ _ _ _ _).mono ?_
  rintro e w1 ⟨rfl, hb⟩
  replace k00 := cell_later hb k00
  replace k01 := cell_later hb k01
  replace k10 := cell_later hb k10
  replace k11 := cell_later hb k11
  replace k12 := cell_later hb k12
  replace k13 := cell_later hb k13
  replace k20 := cell_later hb k20
  replace k21 := cell_later hb k21
  replace k22 := cell_later hb k22
  replace k23 := cell_later hb k23
  replace hB0 := below_trans hB0 hb
  clear hb
  have zk00 := block_lt_of_cell k00
  have zk10 := block_lt_of_cell k10
  have zk20 := block_lt_of_cell k20
  go_wp2_with fail
  have hz := hB0.size
  clear zk00 zk10 zk20
  have LN : Blk (w1.alloc (.cells #[.int .i64 (m0 a b c d a1 b1 c1 d1), .int .i64 (m1 a b c d a1 b1 c1 d1), .int .i64 (m2 a b c d a1 b1 c1 d1), .int .i64 (m3 a b c d a1 b1 c1 d1)] 25)) w1.heap.size 25 #[.int .i64 (m0 a b c d a1 b1 c1 d1), .int .i64 (m1 a b c d a1 b1 c1 d1), .int .i64 (m2 a b c d a1 b1 c1 d1), .int .i64 (m3 a b c d a1 b1 c1 d1)] := Blk.new _ _ _
  have hal : Below w1.heap.size w1 (w1.alloc (.cells #[.int .i64 (m0 a b c d a1 b1 c1 d1), .int .i64 (m1 a b c d a1 b1 c1 d1), .int .i64 (m2 a b c d a1 b1 c1 d1), .int .i64 (m3 a b c d a1 b1 c1 d1)] 25)) := (Below.refl _ _).alloc (Nat.le_refl _) _
  replace k00 := cell_later hal k00
  replace k01 := cell_later hal k01
  replace k10 := cell_later hal k10
  replace k11 := cell_later hal k11
  replace k12 := cell_later hal k12
  replace k13 := cell_later hal k13
  replace k20 := cell_later hal k20
  replace k21 := cell_later hal k21
  replace k22 := cell_later hal k22
  replace k23 := cell_later hal k23
  replace hB0 := below_trans hB0 hal
  clear hz
  generalize (w1.alloc (.cells #[.int .i64 (m0 a b c d a1 b1 c1 d1), .int .i64 (m1 a b c d a1 b1 c1 d1), .int .i64 (m2 a b c d a1 b1 c1 d1), .int .i64 (m3 a b c d a1 b1 c1 d1)] 25)) = W2 at *
  have k30 := LN.cell 0
  have k31 := LN.cell 1
  have k32 := LN.cell 2
  have k33 := LN.cell 3
  simp only [List.getElem?_toArray, List.getElem?_cons_zero, List.getElem?_cons_succ] at k30 k31 k32 k33
  clear LN hal
  refine (hull_u _ _ _ _ _ _ _ _ _).mono ?_
  rintro e w2 ⟨rfl, hb⟩
  replace k00 := cell_later hb k00
  replace k01 := cell_later hb k01
  replace k10 := cell_later hb k10
  replace k11 := cell_later hb k11
  replace k12 := cell_later hb k12
  replace k13 := cell_later hb k13
  replace k20 := cell_later hb k20
  replace k21 := cell_later hb k21
  replace k22 := cell_later hb k22
  replace k23 := cell_later hb k23
  replace k30 := cell_later hb k30
  replace k31 := cell_later hb k31
  replace k32 := cell_later hb k32
  replace k33 := cell_later hb k33
  replace hB0 := below_trans hB0 hb
  clear hb
  have zk00 := block_lt_of_cell k00
  have zk10 := block_lt_of_cell k10
  have zk20 := block_lt_of_cell k20
  have zk30 := block_lt_of_cell k30
  go_wp2_with fail
  have hz := hB0.size
  clear zk00 zk10 zk20 zk30
  have LN : Blk (w2.alloc (.cells #[.int .i64 (hu0 a b c d a1 b1 c1 d1), .int .i64 (hu1 a b c d a1 b1 c1 d1), .int .i64 (hu2 a b c d a1 b1 c1 d1), .int .i64 (hu3 a b c d a1 b1 c1 d1)] 25)) w2.heap.size 25 #[.int .i64 (hu0 a b c d a1 b1 c1 d1), .int .i64 (hu1 a b c d a1 b1 c1 d1), .int .i64 (hu2 a b c d a1 b1 c1 d1), .int .i64 (hu3 a b c d a1 b1 c1 d1)] := Blk.new _ _ _
  have hal : Below w2.heap.size w2 (w2.alloc (.cells #[.int .i64 (hu0 a b c d a1 b1 c1 d1), .int .i64 (hu1 a b c d a1 b1 c1 d1), .int .i64 (hu2 a b c d a1 b1 c1 d1), .int .i64 (hu3 a b c d a1 b1 c1 d1)] 25)) := (Below.refl _ _).alloc (Nat.le_refl _) _
  replace k00 := cell_later hal k00
  replace k01 := cell_later hal k01
  replace k10 := cell_later hal k10
  replace k11 := cell_later hal k11
  replace k12 := cell_later hal k12
  replace k13 := cell_later hal k13
  replace k20 := cell_later hal k20
  replace k21 := cell_later hal k21
  replace k22 := cell_later hal k22
  replace k23 := cell_later hal k23
  replace k30 := cell_later hal k30
  replace k31 := cell_later hal k31
  replace k32 := cell_later hal k32
  replace k33 := cell_later hal k33
  replace hB0 := below_trans hB0 hal
  clear hz
  generalize (w2.alloc (.cells #[.int .i64 (hu0 a b c d a1 b1 c1 d1), .int .i64 (hu1 a b c d a1 b1 c1 d1), .int .i64 (hu2 a b c d a1 b1 c1 d1), .int .i64 (hu3 a b c d a1 b1 c1 d1)] 25)) = W3 at *
  have k40 := LN.cell 0
  have k41 := LN.cell 1
  have k42 := LN.cell 2
  have k43 := LN.cell 3
  simp only [List.getElem?_toArray, List.getElem?_cons_zero, List.getElem?_cons_succ] at k40 k41 k42 k43
  clear LN hal
  go_region_held3 (fun w' => (w'.cell? ⟨w.heap.size, 0, none⟩ = some (.int .i64 x)) ∧ (w'.cell? ⟨w.heap.size, 1, none⟩ = some (.int .i64 y)) ∧ (w'.cell? ⟨w.heap.size + 1, 0, none⟩ = some (.int .i64 a)) ∧ (w'.cell? ⟨w.heap.size + 1, 1, none⟩ = some (.int .i64 b)) ∧ (w'.cell? ⟨w.heap.size + 1, 2, none⟩ = some (.int .i64 c)) ∧ (w'.cell? ⟨w.heap.size + 1, 3, none⟩ = some (.int .i64 d)) ∧ (w'.cell? ⟨w.heap.size + 1 + 1, 0, none⟩ = some (.int .i64 a1)) ∧ (w'.cell? ⟨w.heap.size + 1 + 1, 1, none⟩ = some (.int .i64 b1)) ∧ (w'.cell? ⟨w.heap.size + 1 + 1, 2, none⟩ = some (.int .i64 c1)) ∧ (w'.cell? ⟨w.heap.size + 1 + 1, 3, none⟩ = some (.int .i64 d1)) ∧ (Below w.heap.size w w')) (first | (go_split_ands; refine ⟨?_, ?_, ?_, ?_, ?_, ?_, ?_, ?_, ?_, ?_, ?_⟩ <;> first | (exact cell_later (by assumption) (by assumption)) | (exact below_then (by assumption) (by assumption)) | (go_grown; done) | go_keep)) (first | (go_at_call_of 15 (Value.agg #[.int .i64 a, .int .i64 b, .int .i64 c, .int .i64 d]); refine (has_any a b c d x y _).mono ?_; rintro e wa ⟨rfl, ha9⟩) | (go_at_call_of 15 (Value.agg #[.int .i64 a1, .int .i64 b1, .int .i64 c1, .int .i64 d1]); refine (has_any a1 b1 c1 d1 x y _).mono ?_; rintro e wb ⟨rfl, hb9⟩))
  replace k00 := cell_later hb9 (cell_later ha9 (show W3.drew.cell? _ = some _ from k00))
  replace k01 := cell_later hb9 (cell_later ha9 (show W3.drew.cell? _ = some _ from k01))
  replace k10 := cell_later hb9 (cell_later ha9 (show W3.drew.cell? _ = some _ from k10))
  replace k11 := cell_later hb9 (cell_later ha9 (show W3.drew.cell? _ = some _ from k11))
  replace k12 := cell_later hb9 (cell_later ha9 (show W3.drew.cell? _ = some _ from k12))
  replace k13 := cell_later hb9 (cell_later ha9 (show W3.drew.cell? _ = some _ from k13))
  replace k20 := cell_later hb9 (cell_later ha9 (show W3.drew.cell? _ = some _ from k20))
  replace k21 := cell_later hb9 (cell_later ha9 (show W3.drew.cell? _ = some _ from k21))
  replace k22 := cell_later hb9 (cell_later ha9 (show W3.drew.cell? _ = some _ from k22))
  replace k23 := cell_later hb9 (cell_later ha9 (show W3.drew.cell? _ = some _ from k23))
  replace k30 := cell_later hb9 (cell_later ha9 (show W3.drew.cell? _ = some _ from k30))
  replace k31 := cell_later hb9 (cell_later ha9 (show W3.drew.cell? _ = some _ from k31))
  replace k32 := cell_later hb9 (cell_later ha9 (show W3.drew.cell? _ = some _ from k32))
  replace k33 := cell_later hb9 (cell_later ha9 (show W3.drew.cell? _ = some _ from k33))
  replace k40 := cell_later hb9 (cell_later ha9 (show W3.drew.cell? _ = some _ from k40))
  replace k41 := cell_later hb9 (cell_later ha9 (show W3.drew.cell? _ = some _ from k41))
  replace k42 := cell_later hb9 (cell_later ha9 (show W3.drew.cell? _ = some _ from k42))
  replace k43 := cell_later hb9 (cell_later ha9 (show W3.drew.cell? _ = some _ from k43))
  replace hB0 : Below w.heap.size w wb := below_trans (below_trans (show Below w.heap.size w W3.drew by go_grown) ha9) hb9
  clear ha9 hb9
  go_wp2_with (first | (go_at_call 13; refine (right_any _ _ _ _ _).mono ?_; rintro e w5 ⟨rfl, hb⟩; replace k00 := cell_later hb k00; replace k01 := cell_later hb k01; replace k10 := cell_later hb k10; replace k11 := cell_later hb k11; replace k12 := cell_later hb k12; replace k13 := cell_later hb k13; replace k20 := cell_later hb k20; replace k21 := cell_later hb k21; replace k22 := cell_later hb k22; replace k23 := cell_later hb k23; replace k30 := cell_later hb k30; replace k31 := cell_later hb k31; replace k32 := cell_later hb k32; replace k33 := cell_later hb k33; replace k40 := cell_later hb k40; replace k41 := cell_later hb k41; replace k42 := cell_later hb k42; replace k43 := cell_later hb k43; replace hB0 := below_trans hB0 hb; clear hb) | (go_at_call 15; refine (has_any _ _ _ _ _ _ _).mono ?_; rintro e w5 ⟨rfl, hb⟩; replace k00 := cell_later hb k00; replace k01 := cell_later hb k01; replace k10 := cell_later hb k10; replace k11 := cell_later hb k11; replace k12 := cell_later hb k12; replace k13 := cell_later hb k13; replace k20 := cell_later hb k20; replace k21 := cell_later hb k21; replace k22 := cell_later hb k22; replace k23 := cell_later hb k23; replace k30 := cell_later hb k30; replace k31 := cell_later hb k31; replace k32 := cell_later hb k32; replace k33 := cell_later hb k33; replace k40 := cell_later hb k40; replace k41 := cell_later hb k41; replace k42 := cell_later hb k42; replace k43 := cell_later hb k43; replace hB0 := below_trans hB0 hb; clear hb) | (go_at_call 17; refine (in_any _ _ _ _ _ _ _ _ _).mono ?_; rintro e w5 ⟨rfl, hb⟩; replace k00 := cell_later hb k00; replace k01 := cell_later hb k01; replace k10 := cell_later hb k10; replace k11 := cell_later hb k11; replace k12 := cell_later hb k12; replace k13 := cell_later hb k13; replace k20 := cell_later hb k20; replace k21 := cell_later hb k21; replace k22 := cell_later hb k22; replace k23 := cell_later hb k23; replace k30 := cell_later hb k30; replace k31 := cell_later hb k31; replace k32 := cell_later hb k32; replace k33 := cell_later hb k33; replace k40 := cell_later hb k40; replace k41 := cell_later hb k41; replace k42 := cell_later hb k42; replace k43 := cell_later hb k43; replace hB0 := below_trans hB0 hb; clear hb) | (go_at_call 21; refine (known_any _).mono ?_; rintro e w5 ⟨rfl, hb⟩; replace k00 := cell_later hb k00; replace k01 := cell_later hb k01; replace k10 := cell_later hb k10; replace k11 := cell_later hb k11; replace k12 := cell_later hb k12; replace k13 := cell_later hb k13; replace k20 := cell_later hb k20; replace k21 := cell_later hb k21; replace k22 := cell_later hb k22; replace k23 := cell_later hb k23; replace k30 := cell_later hb k30; replace k31 := cell_later hb k31; replace k32 := cell_later hb k32; replace k33 := cell_later hb k33; replace k40 := cell_later hb k40; replace k41 := cell_later hb k41; replace k42 := cell_later hb k42; replace k43 := cell_later hb k43; replace hB0 := below_trans hB0 hb; clear hb))
  all_goals
    go_ret
    exact ⟨rfl, hB0⟩
set_option maxHeartbeats 4000000 in
theorem walk_3ftf (x y a b c d a1 b1 c1 d1 : Int) (w : World)  (g1 : rightB a b c d = true)(g2 : rightB a1 b1 c1 d1 = true)(g3 : hasB a b c d x y = true)(g4 : hasB a1 b1 c1 d1 x y = false)(g5 : okM a b c d a1 b1 c1 d1 = false)(g7 : hasB (hu0 a b c d a1 b1 c1 d1) (hu1 a b c d a1 b1 c1 d1) (hu2 a b c d a1 b1 c1 d1) (hu3 a b c d a1 b1 c1 d1) x y = true)(i1 : insB a b c d (hu0 a b c d a1 b1 c1 d1) (hu1 a b c d a1 b1 c1 d1) (hu2 a b c d a1 b1 c1 d1) (hu3 a b c d a1 b1 c1 d1) = true) (i2 : insB a1 b1 c1 d1 (hu0 a b c d a1 b1 c1 d1) (hu1 a b c d a1 b1 c1 d1) (hu2 a b c d a1 b1 c1 d1) (hu3 a b c d a1 b1 c1 d1) = true) :
    Calls Try.prog 6 #[.agg #[.int .i64 x, .int .i64 y], .agg #[.int .i64 a, .int .i64 b, .int .i64 c, .int .i64 d], .agg #[.int .i64 a1, .int .i64 b1, .int .i64 c1, .int .i64 d1]] w fun e w' => e = .returned (.bool true) ∧ Below w.heap.size w w' := by
  go_enter Try.func6, Try.ntmps6
  go_wp2_with fail
  have hB0 : Below w.heap.size w (((w.alloc (.cells #[.int .i64 x, .int .i64 y] 23)).alloc (.cells #[.int .i64 a, .int .i64 b, .int .i64 c, .int .i64 d] 25)).alloc (.cells #[.int .i64 a1, .int .i64 b1, .int .i64 c1, .int .i64 d1] 25)) := by go_grown
  have K := blk_three w 23 25 25 #[.int .i64 x, .int .i64 y] #[.int .i64 a, .int .i64 b, .int .i64 c, .int .i64 d] #[.int .i64 a1, .int .i64 b1, .int .i64 c1, .int .i64 d1]
  generalize (((w.alloc (.cells #[.int .i64 x, .int .i64 y] 23)).alloc (.cells #[.int .i64 a, .int .i64 b, .int .i64 c, .int .i64 d] 25)).alloc (.cells #[.int .i64 a1, .int .i64 b1, .int .i64 c1, .int .i64 d1] 25)) = W at hB0 K ⊢
  have k00 := K.1.cell 0
  have k01 := K.1.cell 1
  have k10 := K.2.1.cell 0
  have k11 := K.2.1.cell 1
  have k12 := K.2.1.cell 2
  have k13 := K.2.1.cell 3
  have k20 := K.2.2.cell 0
  have k21 := K.2.2.cell 1
  have k22 := K.2.2.cell 2
  have k23 := K.2.2.cell 3
  simp only [List.getElem?_toArray, List.getElem?_cons_zero, List.getElem?_cons_succ] at k00 k01 k10 k11 k12 k13 k20 k21 k22 k23
  clear K
  refine (meet_u _ _ _ _ _ _ _ _ _).mono ?_
  rintro e w1 ⟨rfl, hb⟩
  replace k00 := cell_later hb k00
  replace k01 := cell_later hb k01
  replace k10 := cell_later hb k10
  replace k11 := cell_later hb k11
  replace k12 := cell_later hb k12
  replace k13 := cell_later hb k13
  replace k20 := cell_later hb k20
  replace k21 := cell_later hb k21
  replace k22 := cell_later hb k22
  replace k23 := cell_later hb k23
  replace hB0 := below_trans hB0 hb
  clear hb
  have zk00 := block_lt_of_cell k00
  have zk10 := block_lt_of_cell k10
  have zk20 := block_lt_of_cell k20
  go_wp2_with fail
  have hz := hB0.size
  clear zk00 zk10 zk20
  have LN : Blk (w1.alloc (.cells #[.int .i64 (m0 a b c d a1 b1 c1 d1), .int .i64 (m1 a b c d a1 b1 c1 d1), .int .i64 (m2 a b c d a1 b1 c1 d1), .int .i64 (m3 a b c d a1 b1 c1 d1)] 25)) w1.heap.size 25 #[.int .i64 (m0 a b c d a1 b1 c1 d1), .int .i64 (m1 a b c d a1 b1 c1 d1), .int .i64 (m2 a b c d a1 b1 c1 d1), .int .i64 (m3 a b c d a1 b1 c1 d1)] := Blk.new _ _ _
  have hal : Below w1.heap.size w1 (w1.alloc (.cells #[.int .i64 (m0 a b c d a1 b1 c1 d1), .int .i64 (m1 a b c d a1 b1 c1 d1), .int .i64 (m2 a b c d a1 b1 c1 d1), .int .i64 (m3 a b c d a1 b1 c1 d1)] 25)) := (Below.refl _ _).alloc (Nat.le_refl _) _
  replace k00 := cell_later hal k00
  replace k01 := cell_later hal k01
  replace k10 := cell_later hal k10
  replace k11 := cell_later hal k11
  replace k12 := cell_later hal k12
  replace k13 := cell_later hal k13
  replace k20 := cell_later hal k20
  replace k21 := cell_later hal k21
  replace k22 := cell_later hal k22
  replace k23 := cell_later hal k23
  replace hB0 := below_trans hB0 hal
  clear hz
  generalize (w1.alloc (.cells #[.int .i64 (m0 a b c d a1 b1 c1 d1), .int .i64 (m1 a b c d a1 b1 c1 d1), .int .i64 (m2 a b c d a1 b1 c1 d1), .int .i64 (m3 a b c d a1 b1 c1 d1)] 25)) = W2 at *
  have k30 := LN.cell 0
  have k31 := LN.cell 1
  have k32 := LN.cell 2
  have k33 := LN.cell 3
  simp only [List.getElem?_toArray, List.getElem?_cons_zero, List.getElem?_cons_succ] at k30 k31 k32 k33
  clear LN hal
  refine (hull_u _ _ _ _ _ _ _ _ _).mono ?_
  rintro e w2 ⟨rfl, hb⟩
  replace k00 := cell_later hb k00
  replace k01 := cell_later hb k01
  replace k10 := cell_later hb k10
  replace k11 := cell_later hb k11
  replace k12 := cell_later hb k12
  replace k13 := cell_later hb k13
  replace k20 := cell_later hb k20
  replace k21 := cell_later hb k21
  replace k22 := cell_later hb k22
  replace k23 := cell_later hb k23
  replace k30 := cell_later hb k30
  replace k31 := cell_later hb k31
  replace k32 := cell_later hb k32
  replace k33 := cell_later hb k33
  replace hB0 := below_trans hB0 hb
  clear hb
  have zk00 := block_lt_of_cell k00
  have zk10 := block_lt_of_cell k10
  have zk20 := block_lt_of_cell k20
  have zk30 := block_lt_of_cell k30
  go_wp2_with fail
  have hz := hB0.size
  clear zk00 zk10 zk20 zk30
  have LN : Blk (w2.alloc (.cells #[.int .i64 (hu0 a b c d a1 b1 c1 d1), .int .i64 (hu1 a b c d a1 b1 c1 d1), .int .i64 (hu2 a b c d a1 b1 c1 d1), .int .i64 (hu3 a b c d a1 b1 c1 d1)] 25)) w2.heap.size 25 #[.int .i64 (hu0 a b c d a1 b1 c1 d1), .int .i64 (hu1 a b c d a1 b1 c1 d1), .int .i64 (hu2 a b c d a1 b1 c1 d1), .int .i64 (hu3 a b c d a1 b1 c1 d1)] := Blk.new _ _ _
  have hal : Below w2.heap.size w2 (w2.alloc (.cells #[.int .i64 (hu0 a b c d a1 b1 c1 d1), .int .i64 (hu1 a b c d a1 b1 c1 d1), .int .i64 (hu2 a b c d a1 b1 c1 d1), .int .i64 (hu3 a b c d a1 b1 c1 d1)] 25)) := (Below.refl _ _).alloc (Nat.le_refl _) _
  replace k00 := cell_later hal k00
  replace k01 := cell_later hal k01
  replace k10 := cell_later hal k10
  replace k11 := cell_later hal k11
  replace k12 := cell_later hal k12
  replace k13 := cell_later hal k13
  replace k20 := cell_later hal k20
  replace k21 := cell_later hal k21
  replace k22 := cell_later hal k22
  replace k23 := cell_later hal k23
  replace k30 := cell_later hal k30
  replace k31 := cell_later hal k31
  replace k32 := cell_later hal k32
  replace k33 := cell_later hal k33
  replace hB0 := below_trans hB0 hal
  clear hz
  generalize (w2.alloc (.cells #[.int .i64 (hu0 a b c d a1 b1 c1 d1), .int .i64 (hu1 a b c d a1 b1 c1 d1), .int .i64 (hu2 a b c d a1 b1 c1 d1), .int .i64 (hu3 a b c d a1 b1 c1 d1)] 25)) = W3 at *
  have k40 := LN.cell 0
  have k41 := LN.cell 1
  have k42 := LN.cell 2
  have k43 := LN.cell 3
  simp only [List.getElem?_toArray, List.getElem?_cons_zero, List.getElem?_cons_succ] at k40 k41 k42 k43
  clear LN hal
  go_region_held3 (fun w' => (w'.cell? ⟨w.heap.size, 0, none⟩ = some (.int .i64 x)) ∧ (w'.cell? ⟨w.heap.size, 1, none⟩ = some (.int .i64 y)) ∧ (w'.cell? ⟨w.heap.size + 1, 0, none⟩ = some (.int .i64 a)) ∧ (w'.cell? ⟨w.heap.size + 1, 1, none⟩ = some (.int .i64 b)) ∧ (w'.cell? ⟨w.heap.size + 1, 2, none⟩ = some (.int .i64 c)) ∧ (w'.cell? ⟨w.heap.size + 1, 3, none⟩ = some (.int .i64 d)) ∧ (w'.cell? ⟨w.heap.size + 1 + 1, 0, none⟩ = some (.int .i64 a1)) ∧ (w'.cell? ⟨w.heap.size + 1 + 1, 1, none⟩ = some (.int .i64 b1)) ∧ (w'.cell? ⟨w.heap.size + 1 + 1, 2, none⟩ = some (.int .i64 c1)) ∧ (w'.cell? ⟨w.heap.size + 1 + 1, 3, none⟩ = some (.int .i64 d1)) ∧ (Below w.heap.size w w')) (first | (go_split_ands; refine ⟨?_, ?_, ?_, ?_, ?_, ?_, ?_, ?_, ?_, ?_, ?_⟩ <;> first | (exact cell_later (by assumption) (by assumption)) | (exact below_then (by assumption) (by assumption)) | (go_grown; done) | go_keep)) (first | (go_at_call_of 15 (Value.agg #[.int .i64 a, .int .i64 b, .int .i64 c, .int .i64 d]); refine (has_any a b c d x y _).mono ?_; rintro e wa ⟨rfl, ha9⟩) | (go_at_call_of 15 (Value.agg #[.int .i64 a1, .int .i64 b1, .int .i64 c1, .int .i64 d1]); refine (has_any a1 b1 c1 d1 x y _).mono ?_; rintro e wb ⟨rfl, hb9⟩))
  replace k00 := cell_later hb9 (cell_later ha9 (show W3.drew.cell? _ = some _ from k00))
  replace k01 := cell_later hb9 (cell_later ha9 (show W3.drew.cell? _ = some _ from k01))
  replace k10 := cell_later hb9 (cell_later ha9 (show W3.drew.cell? _ = some _ from k10))
  replace k11 := cell_later hb9 (cell_later ha9 (show W3.drew.cell? _ = some _ from k11))
  replace k12 := cell_later hb9 (cell_later ha9 (show W3.drew.cell? _ = some _ from k12))
  replace k13 := cell_later hb9 (cell_later ha9 (show W3.drew.cell? _ = some _ from k13))
  replace k20 := cell_later hb9 (cell_later ha9 (show W3.drew.cell? _ = some _ from k20))
  replace k21 := cell_later hb9 (cell_later ha9 (show W3.drew.cell? _ = some _ from k21))
  replace k22 := cell_later hb9 (cell_later ha9 (show W3.drew.cell? _ = some _ from k22))
  replace k23 := cell_later hb9 (cell_later ha9 (show W3.drew.cell? _ = some _ from k23))
  replace k30 := cell_later hb9 (cell_later ha9 (show W3.drew.cell? _ = some _ from k30))
  replace k31 := cell_later hb9 (cell_later ha9 (show W3.drew.cell? _ = some _ from k31))
  replace k32 := cell_later hb9 (cell_later ha9 (show W3.drew.cell? _ = some _ from k32))
  replace k33 := cell_later hb9 (cell_later ha9 (show W3.drew.cell? _ = some _ from k33))
  replace k40 := cell_later hb9 (cell_later ha9 (show W3.drew.cell? _ = some _ from k40))
  replace k41 := cell_later hb9 (cell_later ha9 (show W3.drew.cell? _ = some _ from k41))
  replace k42 := cell_later hb9 (cell_later ha9 (show W3.drew.cell? _ = some _ from k42))
  replace k43 := cell_later hb9 (cell_later ha9 (show W3.drew.cell? _ = some _ from k43))
  replace hB0 : Below w.heap.size w wb := below_trans (below_trans (show Below w.heap.size w W3.drew by go_grown) ha9) hb9
  clear ha9 hb9
  go_wp2_with (first | (go_at_call 13; refine (right_any _ _ _ _ _).mono ?_; rintro e w5 ⟨rfl, hb⟩; replace k00 := cell_later hb k00; replace k01 := cell_later hb k01; replace k10 := cell_later hb k10; replace k11 := cell_later hb k11; replace k12 := cell_later hb k12; replace k13 := cell_later hb k13; replace k20 := cell_later hb k20; replace k21 := cell_later hb k21; replace k22 := cell_later hb k22; replace k23 := cell_later hb k23; replace k30 := cell_later hb k30; replace k31 := cell_later hb k31; replace k32 := cell_later hb k32; replace k33 := cell_later hb k33; replace k40 := cell_later hb k40; replace k41 := cell_later hb k41; replace k42 := cell_later hb k42; replace k43 := cell_later hb k43; replace hB0 := below_trans hB0 hb; clear hb) | (go_at_call 15; refine (has_any _ _ _ _ _ _ _).mono ?_; rintro e w5 ⟨rfl, hb⟩; replace k00 := cell_later hb k00; replace k01 := cell_later hb k01; replace k10 := cell_later hb k10; replace k11 := cell_later hb k11; replace k12 := cell_later hb k12; replace k13 := cell_later hb k13; replace k20 := cell_later hb k20; replace k21 := cell_later hb k21; replace k22 := cell_later hb k22; replace k23 := cell_later hb k23; replace k30 := cell_later hb k30; replace k31 := cell_later hb k31; replace k32 := cell_later hb k32; replace k33 := cell_later hb k33; replace k40 := cell_later hb k40; replace k41 := cell_later hb k41; replace k42 := cell_later hb k42; replace k43 := cell_later hb k43; replace hB0 := below_trans hB0 hb; clear hb) | (go_at_call 17; refine (in_any _ _ _ _ _ _ _ _ _).mono ?_; rintro e w5 ⟨rfl, hb⟩; replace k00 := cell_later hb k00; replace k01 := cell_later hb k01; replace k10 := cell_later hb k10; replace k11 := cell_later hb k11; replace k12 := cell_later hb k12; replace k13 := cell_later hb k13; replace k20 := cell_later hb k20; replace k21 := cell_later hb k21; replace k22 := cell_later hb k22; replace k23 := cell_later hb k23; replace k30 := cell_later hb k30; replace k31 := cell_later hb k31; replace k32 := cell_later hb k32; replace k33 := cell_later hb k33; replace k40 := cell_later hb k40; replace k41 := cell_later hb k41; replace k42 := cell_later hb k42; replace k43 := cell_later hb k43; replace hB0 := below_trans hB0 hb; clear hb) | (go_at_call 21; refine (known_any _).mono ?_; rintro e w5 ⟨rfl, hb⟩; replace k00 := cell_later hb k00; replace k01 := cell_later hb k01; replace k10 := cell_later hb k10; replace k11 := cell_later hb k11; replace k12 := cell_later hb k12; replace k13 := cell_later hb k13; replace k20 := cell_later hb k20; replace k21 := cell_later hb k21; replace k22 := cell_later hb k22; replace k23 := cell_later hb k23; replace k30 := cell_later hb k30; replace k31 := cell_later hb k31; replace k32 := cell_later hb k32; replace k33 := cell_later hb k33; replace k40 := cell_later hb k40; replace k41 := cell_later hb k41; replace k42 := cell_later hb k42; replace k43 := cell_later hb k43; replace hB0 := below_trans hB0 hb; clear hb))
  all_goals
    go_ret
    exact ⟨rfl, hB0⟩
set_option maxHeartbeats 4000000 in
theorem walk_3fft (x y a b c d a1 b1 c1 d1 : Int) (w : World)  (g1 : rightB a b c d = true)(g2 : rightB a1 b1 c1 d1 = true)(g3 : hasB a b c d x y = false)(g4 : hasB a1 b1 c1 d1 x y = true)(g5 : okM a b c d a1 b1 c1 d1 = false)(g7 : hasB (hu0 a b c d a1 b1 c1 d1) (hu1 a b c d a1 b1 c1 d1) (hu2 a b c d a1 b1 c1 d1) (hu3 a b c d a1 b1 c1 d1) x y = true)(i1 : insB a b c d (hu0 a b c d a1 b1 c1 d1) (hu1 a b c d a1 b1 c1 d1) (hu2 a b c d a1 b1 c1 d1) (hu3 a b c d a1 b1 c1 d1) = true) (i2 : insB a1 b1 c1 d1 (hu0 a b c d a1 b1 c1 d1) (hu1 a b c d a1 b1 c1 d1) (hu2 a b c d a1 b1 c1 d1) (hu3 a b c d a1 b1 c1 d1) = true) :
    Calls Try.prog 6 #[.agg #[.int .i64 x, .int .i64 y], .agg #[.int .i64 a, .int .i64 b, .int .i64 c, .int .i64 d], .agg #[.int .i64 a1, .int .i64 b1, .int .i64 c1, .int .i64 d1]] w fun e w' => e = .returned (.bool true) ∧ Below w.heap.size w w' := by
  go_enter Try.func6, Try.ntmps6
  go_wp2_with fail
  have hB0 : Below w.heap.size w (((w.alloc (.cells #[.int .i64 x, .int .i64 y] 23)).alloc (.cells #[.int .i64 a, .int .i64 b, .int .i64 c, .int .i64 d] 25)).alloc (.cells #[.int .i64 a1, .int .i64 b1, .int .i64 c1, .int .i64 d1] 25)) := by go_grown
  have K := blk_three w 23 25 25 #[.int .i64 x, .int .i64 y] #[.int .i64 a, .int .i64 b, .int .i64 c, .int .i64 d] #[.int .i64 a1, .int .i64 b1, .int .i64 c1, .int .i64 d1]
  generalize (((w.alloc (.cells #[.int .i64 x, .int .i64 y] 23)).alloc (.cells #[.int .i64 a, .int .i64 b, .int .i64 c, .int .i64 d] 25)).alloc (.cells #[.int .i64 a1, .int .i64 b1, .int .i64 c1, .int .i64 d1] 25)) = W at hB0 K ⊢
  have k00 := K.1.cell 0
  have k01 := K.1.cell 1
  have k10 := K.2.1.cell 0
  have k11 := K.2.1.cell 1
  have k12 := K.2.1.cell 2
  have k13 := K.2.1.cell 3
  have k20 := K.2.2.cell 0
  have k21 := K.2.2.cell 1
  have k22 := K.2.2.cell 2
  have k23 := K.2.2.cell 3
  simp only [List.getElem?_toArray, List.getElem?_cons_zero, List.getElem?_cons_succ] at k00 k01 k10 k11 k12 k13 k20 k21 k22 k23
  clear K
  refine (meet_u _ _ _ _ _ _ _ _ _).mono ?_
  rintro e w1 ⟨rfl, hb⟩
  replace k00 := cell_later hb k00
  replace k01 := cell_later hb k01
  replace k10 := cell_later hb k10
  replace k11 := cell_later hb k11
  replace k12 := cell_later hb k12
  replace k13 := cell_later hb k13
  replace k20 := cell_later hb k20
  replace k21 := cell_later hb k21
  replace k22 := cell_later hb k22
  replace k23 := cell_later hb k23
  replace hB0 := below_trans hB0 hb
  clear hb
  have zk00 := block_lt_of_cell k00
  have zk10 := block_lt_of_cell k10
  have zk20 := block_lt_of_cell k20
  go_wp2_with fail
  have hz := hB0.size
  clear zk00 zk10 zk20
  have LN : Blk (w1.alloc (.cells #[.int .i64 (m0 a b c d a1 b1 c1 d1), .int .i64 (m1 a b c d a1 b1 c1 d1), .int .i64 (m2 a b c d a1 b1 c1 d1), .int .i64 (m3 a b c d a1 b1 c1 d1)] 25)) w1.heap.size 25 #[.int .i64 (m0 a b c d a1 b1 c1 d1), .int .i64 (m1 a b c d a1 b1 c1 d1), .int .i64 (m2 a b c d a1 b1 c1 d1), .int .i64 (m3 a b c d a1 b1 c1 d1)] := Blk.new _ _ _
  have hal : Below w1.heap.size w1 (w1.alloc (.cells #[.int .i64 (m0 a b c d a1 b1 c1 d1), .int .i64 (m1 a b c d a1 b1 c1 d1), .int .i64 (m2 a b c d a1 b1 c1 d1), .int .i64 (m3 a b c d a1 b1 c1 d1)] 25)) := (Below.refl _ _).alloc (Nat.le_refl _) _
  replace k00 := cell_later hal k00
  replace k01 := cell_later hal k01
  replace k10 := cell_later hal k10
  replace k11 := cell_later hal k11
  replace k12 := cell_later hal k12
  replace k13 := cell_later hal k13
  replace k20 := cell_later hal k20
  replace k21 := cell_later hal k21
  replace k22 := cell_later hal k22
  replace k23 := cell_later hal k23
  replace hB0 := below_trans hB0 hal
  clear hz
  generalize (w1.alloc (.cells #[.int .i64 (m0 a b c d a1 b1 c1 d1), .int .i64 (m1 a b c d a1 b1 c1 d1), .int .i64 (m2 a b c d a1 b1 c1 d1), .int .i64 (m3 a b c d a1 b1 c1 d1)] 25)) = W2 at *
  have k30 := LN.cell 0
  have k31 := LN.cell 1
  have k32 := LN.cell 2
  have k33 := LN.cell 3
  simp only [List.getElem?_toArray, List.getElem?_cons_zero, List.getElem?_cons_succ] at k30 k31 k32 k33
  clear LN hal
  refine (hull_u _ _ _ _ _ _ _ _ _).mono ?_
  rintro e w2 ⟨rfl, hb⟩
  replace k00 := cell_later hb k00
  replace k01 := cell_later hb k01
  replace k10 := cell_later hb k10
  replace k11 := cell_later hb k11
  replace k12 := cell_later hb k12
  replace k13 := cell_later hb k13
  replace k20 := cell_later hb k20
  replace k21 := cell_later hb k21
  replace k22 := cell_later hb k22
  replace k23 := cell_later hb k23
  replace k30 := cell_later hb k30
  replace k31 := cell_later hb k31
  replace k32 := cell_later hb k32
  replace k33 := cell_later hb k33
  replace hB0 := below_trans hB0 hb
  clear hb
  have zk00 := block_lt_of_cell k00
  have zk10 := block_lt_of_cell k10
  have zk20 := block_lt_of_cell k20
  have zk30 := block_lt_of_cell k30
  go_wp2_with fail
  have hz := hB0.size
  clear zk00 zk10 zk20 zk30
  have LN : Blk (w2.alloc (.cells #[.int .i64 (hu0 a b c d a1 b1 c1 d1), .int .i64 (hu1 a b c d a1 b1 c1 d1), .int .i64 (hu2 a b c d a1 b1 c1 d1), .int .i64 (hu3 a b c d a1 b1 c1 d1)] 25)) w2.heap.size 25 #[.int .i64 (hu0 a b c d a1 b1 c1 d1), .int .i64 (hu1 a b c d a1 b1 c1 d1), .int .i64 (hu2 a b c d a1 b1 c1 d1), .int .i64 (hu3 a b c d a1 b1 c1 d1)] := Blk.new _ _ _
  have hal : Below w2.heap.size w2 (w2.alloc (.cells #[.int .i64 (hu0 a b c d a1 b1 c1 d1), .int .i64 (hu1 a b c d a1 b1 c1 d1), .int .i64 (hu2 a b c d a1 b1 c1 d1), .int .i64 (hu3 a b c d a1 b1 c1 d1)] 25)) := (Below.refl _ _).alloc (Nat.le_refl _) _
  replace k00 := cell_later hal k00
  replace k01 := cell_later hal k01
  replace k10 := cell_later hal k10
  replace k11 := cell_later hal k11
  replace k12 := cell_later hal k12
  replace k13 := cell_later hal k13
  replace k20 := cell_later hal k20
  replace k21 := cell_later hal k21
  replace k22 := cell_later hal k22
  replace k23 := cell_later hal k23
  replace k30 := cell_later hal k30
  replace k31 := cell_later hal k31
  replace k32 := cell_later hal k32
  replace k33 := cell_later hal k33
  replace hB0 := below_trans hB0 hal
  clear hz
  generalize (w2.alloc (.cells #[.int .i64 (hu0 a b c d a1 b1 c1 d1), .int .i64 (hu1 a b c d a1 b1 c1 d1), .int .i64 (hu2 a b c d a1 b1 c1 d1), .int .i64 (hu3 a b c d a1 b1 c1 d1)] 25)) = W3 at *
  have k40 := LN.cell 0
  have k41 := LN.cell 1
  have k42 := LN.cell 2
  have k43 := LN.cell 3
  simp only [List.getElem?_toArray, List.getElem?_cons_zero, List.getElem?_cons_succ] at k40 k41 k42 k43
  clear LN hal
  go_region_held3 (fun w' => (w'.cell? ⟨w.heap.size, 0, none⟩ = some (.int .i64 x)) ∧ (w'.cell? ⟨w.heap.size, 1, none⟩ = some (.int .i64 y)) ∧ (w'.cell? ⟨w.heap.size + 1, 0, none⟩ = some (.int .i64 a)) ∧ (w'.cell? ⟨w.heap.size + 1, 1, none⟩ = some (.int .i64 b)) ∧ (w'.cell? ⟨w.heap.size + 1, 2, none⟩ = some (.int .i64 c)) ∧ (w'.cell? ⟨w.heap.size + 1, 3, none⟩ = some (.int .i64 d)) ∧ (w'.cell? ⟨w.heap.size + 1 + 1, 0, none⟩ = some (.int .i64 a1)) ∧ (w'.cell? ⟨w.heap.size + 1 + 1, 1, none⟩ = some (.int .i64 b1)) ∧ (w'.cell? ⟨w.heap.size + 1 + 1, 2, none⟩ = some (.int .i64 c1)) ∧ (w'.cell? ⟨w.heap.size + 1 + 1, 3, none⟩ = some (.int .i64 d1)) ∧ (Below w.heap.size w w')) (first | (go_split_ands; refine ⟨?_, ?_, ?_, ?_, ?_, ?_, ?_, ?_, ?_, ?_, ?_⟩ <;> first | (exact cell_later (by assumption) (by assumption)) | (exact below_then (by assumption) (by assumption)) | (go_grown; done) | go_keep)) (first | (go_at_call_of 15 (Value.agg #[.int .i64 a, .int .i64 b, .int .i64 c, .int .i64 d]); refine (has_any a b c d x y _).mono ?_; rintro e wa ⟨rfl, ha9⟩) | (go_at_call_of 15 (Value.agg #[.int .i64 a1, .int .i64 b1, .int .i64 c1, .int .i64 d1]); refine (has_any a1 b1 c1 d1 x y _).mono ?_; rintro e wb ⟨rfl, hb9⟩))
  replace k00 := cell_later hb9 (cell_later ha9 (show W3.drew.cell? _ = some _ from k00))
  replace k01 := cell_later hb9 (cell_later ha9 (show W3.drew.cell? _ = some _ from k01))
  replace k10 := cell_later hb9 (cell_later ha9 (show W3.drew.cell? _ = some _ from k10))
  replace k11 := cell_later hb9 (cell_later ha9 (show W3.drew.cell? _ = some _ from k11))
  replace k12 := cell_later hb9 (cell_later ha9 (show W3.drew.cell? _ = some _ from k12))
  replace k13 := cell_later hb9 (cell_later ha9 (show W3.drew.cell? _ = some _ from k13))
  replace k20 := cell_later hb9 (cell_later ha9 (show W3.drew.cell? _ = some _ from k20))
  replace k21 := cell_later hb9 (cell_later ha9 (show W3.drew.cell? _ = some _ from k21))
  replace k22 := cell_later hb9 (cell_later ha9 (show W3.drew.cell? _ = some _ from k22))
  replace k23 := cell_later hb9 (cell_later ha9 (show W3.drew.cell? _ = some _ from k23))
  replace k30 := cell_later hb9 (cell_later ha9 (show W3.drew.cell? _ = some _ from k30))
  replace k31 := cell_later hb9 (cell_later ha9 (show W3.drew.cell? _ = some _ from k31))
  replace k32 := cell_later hb9 (cell_later ha9 (show W3.drew.cell? _ = some _ from k32))
  replace k33 := cell_later hb9 (cell_later ha9 (show W3.drew.cell? _ = some _ from k33))
  replace k40 := cell_later hb9 (cell_later ha9 (show W3.drew.cell? _ = some _ from k40))
  replace k41 := cell_later hb9 (cell_later ha9 (show W3.drew.cell? _ = some _ from k41))
  replace k42 := cell_later hb9 (cell_later ha9 (show W3.drew.cell? _ = some _ from k42))
  replace k43 := cell_later hb9 (cell_later ha9 (show W3.drew.cell? _ = some _ from k43))
  replace hB0 : Below w.heap.size w wb := below_trans (below_trans (show Below w.heap.size w W3.drew by go_grown) ha9) hb9
  clear ha9 hb9
  go_wp2_with (first | (go_at_call 13; refine (right_any _ _ _ _ _).mono ?_; rintro e w5 ⟨rfl, hb⟩; replace k00 := cell_later hb k00; replace k01 := cell_later hb k01; replace k10 := cell_later hb k10; replace k11 := cell_later hb k11; replace k12 := cell_later hb k12; replace k13 := cell_later hb k13; replace k20 := cell_later hb k20; replace k21 := cell_later hb k21; replace k22 := cell_later hb k22; replace k23 := cell_later hb k23; replace k30 := cell_later hb k30; replace k31 := cell_later hb k31; replace k32 := cell_later hb k32; replace k33 := cell_later hb k33; replace k40 := cell_later hb k40; replace k41 := cell_later hb k41; replace k42 := cell_later hb k42; replace k43 := cell_later hb k43; replace hB0 := below_trans hB0 hb; clear hb) | (go_at_call 15; refine (has_any _ _ _ _ _ _ _).mono ?_; rintro e w5 ⟨rfl, hb⟩; replace k00 := cell_later hb k00; replace k01 := cell_later hb k01; replace k10 := cell_later hb k10; replace k11 := cell_later hb k11; replace k12 := cell_later hb k12; replace k13 := cell_later hb k13; replace k20 := cell_later hb k20; replace k21 := cell_later hb k21; replace k22 := cell_later hb k22; replace k23 := cell_later hb k23; replace k30 := cell_later hb k30; replace k31 := cell_later hb k31; replace k32 := cell_later hb k32; replace k33 := cell_later hb k33; replace k40 := cell_later hb k40; replace k41 := cell_later hb k41; replace k42 := cell_later hb k42; replace k43 := cell_later hb k43; replace hB0 := below_trans hB0 hb; clear hb) | (go_at_call 17; refine (in_any _ _ _ _ _ _ _ _ _).mono ?_; rintro e w5 ⟨rfl, hb⟩; replace k00 := cell_later hb k00; replace k01 := cell_later hb k01; replace k10 := cell_later hb k10; replace k11 := cell_later hb k11; replace k12 := cell_later hb k12; replace k13 := cell_later hb k13; replace k20 := cell_later hb k20; replace k21 := cell_later hb k21; replace k22 := cell_later hb k22; replace k23 := cell_later hb k23; replace k30 := cell_later hb k30; replace k31 := cell_later hb k31; replace k32 := cell_later hb k32; replace k33 := cell_later hb k33; replace k40 := cell_later hb k40; replace k41 := cell_later hb k41; replace k42 := cell_later hb k42; replace k43 := cell_later hb k43; replace hB0 := below_trans hB0 hb; clear hb) | (go_at_call 21; refine (known_any _).mono ?_; rintro e w5 ⟨rfl, hb⟩; replace k00 := cell_later hb k00; replace k01 := cell_later hb k01; replace k10 := cell_later hb k10; replace k11 := cell_later hb k11; replace k12 := cell_later hb k12; replace k13 := cell_later hb k13; replace k20 := cell_later hb k20; replace k21 := cell_later hb k21; replace k22 := cell_later hb k22; replace k23 := cell_later hb k23; replace k30 := cell_later hb k30; replace k31 := cell_later hb k31; replace k32 := cell_later hb k32; replace k33 := cell_later hb k33; replace k40 := cell_later hb k40; replace k41 := cell_later hb k41; replace k42 := cell_later hb k42; replace k43 := cell_later hb k43; replace hB0 := below_trans hB0 hb; clear hb))
  all_goals
    go_ret
    exact ⟨rfl, hB0⟩
set_option maxHeartbeats 4000000 in
theorem walk_3fff (x y a b c d a1 b1 c1 d1 : Int) (w : World)  (g1 : rightB a b c d = true)(g2 : rightB a1 b1 c1 d1 = true)(g3 : hasB a b c d x y = false)(g4 : hasB a1 b1 c1 d1 x y = false)(g5 : okM a b c d a1 b1 c1 d1 = false)(i1 : insB a b c d (hu0 a b c d a1 b1 c1 d1) (hu1 a b c d a1 b1 c1 d1) (hu2 a b c d a1 b1 c1 d1) (hu3 a b c d a1 b1 c1 d1) = true) (i2 : insB a1 b1 c1 d1 (hu0 a b c d a1 b1 c1 d1) (hu1 a b c d a1 b1 c1 d1) (hu2 a b c d a1 b1 c1 d1) (hu3 a b c d a1 b1 c1 d1) = true) :
    Calls Try.prog 6 #[.agg #[.int .i64 x, .int .i64 y], .agg #[.int .i64 a, .int .i64 b, .int .i64 c, .int .i64 d], .agg #[.int .i64 a1, .int .i64 b1, .int .i64 c1, .int .i64 d1]] w fun e w' => e = .returned (.bool true) ∧ Below w.heap.size w w' := by
  go_enter Try.func6, Try.ntmps6
  go_wp2_with fail
  have hB0 : Below w.heap.size w (((w.alloc (.cells #[.int .i64 x, .int .i64 y] 23)).alloc (.cells #[.int .i64 a, .int .i64 b, .int .i64 c, .int .i64 d] 25)).alloc (.cells #[.int .i64 a1, .int .i64 b1, .int .i64 c1, .int .i64 d1] 25)) := by go_grown
  have K := blk_three w 23 25 25 #[.int .i64 x, .int .i64 y] #[.int .i64 a, .int .i64 b, .int .i64 c, .int .i64 d] #[.int .i64 a1, .int .i64 b1, .int .i64 c1, .int .i64 d1]
  generalize (((w.alloc (.cells #[.int .i64 x, .int .i64 y] 23)).alloc (.cells #[.int .i64 a, .int .i64 b, .int .i64 c, .int .i64 d] 25)).alloc (.cells #[.int .i64 a1, .int .i64 b1, .int .i64 c1, .int .i64 d1] 25)) = W at hB0 K ⊢
  have k00 := K.1.cell 0
  have k01 := K.1.cell 1
  have k10 := K.2.1.cell 0
  have k11 := K.2.1.cell 1
  have k12 := K.2.1.cell 2
  have k13 := K.2.1.cell 3
  have k20 := K.2.2.cell 0
  have k21 := K.2.2.cell 1
  have k22 := K.2.2.cell 2
  have k23 := K.2.2.cell 3
  simp only [List.getElem?_toArray, List.getElem?_cons_zero, List.getElem?_cons_succ] at k00 k01 k10 k11 k12 k13 k20 k21 k22 k23
  clear K
  refine (meet_u _ _ _ _ _ _ _ _ _).mono ?_
  rintro e w1 ⟨rfl, hb⟩
  replace k00 := cell_later hb k00
  replace k01 := cell_later hb k01
  replace k10 := cell_later hb k10
  replace k11 := cell_later hb k11
  replace k12 := cell_later hb k12
  replace k13 := cell_later hb k13
  replace k20 := cell_later hb k20
  replace k21 := cell_later hb k21
  replace k22 := cell_later hb k22
  replace k23 := cell_later hb k23
  replace hB0 := below_trans hB0 hb
  clear hb
  have zk00 := block_lt_of_cell k00
  have zk10 := block_lt_of_cell k10
  have zk20 := block_lt_of_cell k20
  go_wp2_with fail
  have hz := hB0.size
  clear zk00 zk10 zk20
  have LN : Blk (w1.alloc (.cells #[.int .i64 (m0 a b c d a1 b1 c1 d1), .int .i64 (m1 a b c d a1 b1 c1 d1), .int .i64 (m2 a b c d a1 b1 c1 d1), .int .i64 (m3 a b c d a1 b1 c1 d1)] 25)) w1.heap.size 25 #[.int .i64 (m0 a b c d a1 b1 c1 d1), .int .i64 (m1 a b c d a1 b1 c1 d1), .int .i64 (m2 a b c d a1 b1 c1 d1), .int .i64 (m3 a b c d a1 b1 c1 d1)] := Blk.new _ _ _
  have hal : Below w1.heap.size w1 (w1.alloc (.cells #[.int .i64 (m0 a b c d a1 b1 c1 d1), .int .i64 (m1 a b c d a1 b1 c1 d1), .int .i64 (m2 a b c d a1 b1 c1 d1), .int .i64 (m3 a b c d a1 b1 c1 d1)] 25)) := (Below.refl _ _).alloc (Nat.le_refl _) _
  replace k00 := cell_later hal k00
  replace k01 := cell_later hal k01
  replace k10 := cell_later hal k10
  replace k11 := cell_later hal k11
  replace k12 := cell_later hal k12
  replace k13 := cell_later hal k13
  replace k20 := cell_later hal k20
  replace k21 := cell_later hal k21
  replace k22 := cell_later hal k22
  replace k23 := cell_later hal k23
  replace hB0 := below_trans hB0 hal
  clear hz
  generalize (w1.alloc (.cells #[.int .i64 (m0 a b c d a1 b1 c1 d1), .int .i64 (m1 a b c d a1 b1 c1 d1), .int .i64 (m2 a b c d a1 b1 c1 d1), .int .i64 (m3 a b c d a1 b1 c1 d1)] 25)) = W2 at *
  have k30 := LN.cell 0
  have k31 := LN.cell 1
  have k32 := LN.cell 2
  have k33 := LN.cell 3
  simp only [List.getElem?_toArray, List.getElem?_cons_zero, List.getElem?_cons_succ] at k30 k31 k32 k33
  clear LN hal
  refine (hull_u _ _ _ _ _ _ _ _ _).mono ?_
  rintro e w2 ⟨rfl, hb⟩
  replace k00 := cell_later hb k00
  replace k01 := cell_later hb k01
  replace k10 := cell_later hb k10
  replace k11 := cell_later hb k11
  replace k12 := cell_later hb k12
  replace k13 := cell_later hb k13
  replace k20 := cell_later hb k20
  replace k21 := cell_later hb k21
  replace k22 := cell_later hb k22
  replace k23 := cell_later hb k23
  replace k30 := cell_later hb k30
  replace k31 := cell_later hb k31
  replace k32 := cell_later hb k32
  replace k33 := cell_later hb k33
  replace hB0 := below_trans hB0 hb
  clear hb
  have zk00 := block_lt_of_cell k00
  have zk10 := block_lt_of_cell k10
  have zk20 := block_lt_of_cell k20
  have zk30 := block_lt_of_cell k30
  go_wp2_with fail
  have hz := hB0.size
  clear zk00 zk10 zk20 zk30
  have LN : Blk (w2.alloc (.cells #[.int .i64 (hu0 a b c d a1 b1 c1 d1), .int .i64 (hu1 a b c d a1 b1 c1 d1), .int .i64 (hu2 a b c d a1 b1 c1 d1), .int .i64 (hu3 a b c d a1 b1 c1 d1)] 25)) w2.heap.size 25 #[.int .i64 (hu0 a b c d a1 b1 c1 d1), .int .i64 (hu1 a b c d a1 b1 c1 d1), .int .i64 (hu2 a b c d a1 b1 c1 d1), .int .i64 (hu3 a b c d a1 b1 c1 d1)] := Blk.new _ _ _
  have hal : Below w2.heap.size w2 (w2.alloc (.cells #[.int .i64 (hu0 a b c d a1 b1 c1 d1), .int .i64 (hu1 a b c d a1 b1 c1 d1), .int .i64 (hu2 a b c d a1 b1 c1 d1), .int .i64 (hu3 a b c d a1 b1 c1 d1)] 25)) := (Below.refl _ _).alloc (Nat.le_refl _) _
  replace k00 := cell_later hal k00
  replace k01 := cell_later hal k01
  replace k10 := cell_later hal k10
  replace k11 := cell_later hal k11
  replace k12 := cell_later hal k12
  replace k13 := cell_later hal k13
  replace k20 := cell_later hal k20
  replace k21 := cell_later hal k21
  replace k22 := cell_later hal k22
  replace k23 := cell_later hal k23
  replace k30 := cell_later hal k30
  replace k31 := cell_later hal k31
  replace k32 := cell_later hal k32
  replace k33 := cell_later hal k33
  replace hB0 := below_trans hB0 hal
  clear hz
  generalize (w2.alloc (.cells #[.int .i64 (hu0 a b c d a1 b1 c1 d1), .int .i64 (hu1 a b c d a1 b1 c1 d1), .int .i64 (hu2 a b c d a1 b1 c1 d1), .int .i64 (hu3 a b c d a1 b1 c1 d1)] 25)) = W3 at *
  have k40 := LN.cell 0
  have k41 := LN.cell 1
  have k42 := LN.cell 2
  have k43 := LN.cell 3
  simp only [List.getElem?_toArray, List.getElem?_cons_zero, List.getElem?_cons_succ] at k40 k41 k42 k43
  clear LN hal
  go_region_held3 (fun w' => (w'.cell? ⟨w.heap.size, 0, none⟩ = some (.int .i64 x)) ∧ (w'.cell? ⟨w.heap.size, 1, none⟩ = some (.int .i64 y)) ∧ (w'.cell? ⟨w.heap.size + 1, 0, none⟩ = some (.int .i64 a)) ∧ (w'.cell? ⟨w.heap.size + 1, 1, none⟩ = some (.int .i64 b)) ∧ (w'.cell? ⟨w.heap.size + 1, 2, none⟩ = some (.int .i64 c)) ∧ (w'.cell? ⟨w.heap.size + 1, 3, none⟩ = some (.int .i64 d)) ∧ (w'.cell? ⟨w.heap.size + 1 + 1, 0, none⟩ = some (.int .i64 a1)) ∧ (w'.cell? ⟨w.heap.size + 1 + 1, 1, none⟩ = some (.int .i64 b1)) ∧ (w'.cell? ⟨w.heap.size + 1 + 1, 2, none⟩ = some (.int .i64 c1)) ∧ (w'.cell? ⟨w.heap.size + 1 + 1, 3, none⟩ = some (.int .i64 d1)) ∧ (Below w.heap.size w w')) (first | (go_split_ands; refine ⟨?_, ?_, ?_, ?_, ?_, ?_, ?_, ?_, ?_, ?_, ?_⟩ <;> first | (exact cell_later (by assumption) (by assumption)) | (exact below_then (by assumption) (by assumption)) | (go_grown; done) | go_keep)) (first | (go_at_call_of 15 (Value.agg #[.int .i64 a, .int .i64 b, .int .i64 c, .int .i64 d]); refine (has_any a b c d x y _).mono ?_; rintro e wa ⟨rfl, ha9⟩) | (go_at_call_of 15 (Value.agg #[.int .i64 a1, .int .i64 b1, .int .i64 c1, .int .i64 d1]); refine (has_any a1 b1 c1 d1 x y _).mono ?_; rintro e wb ⟨rfl, hb9⟩))
  replace k00 := cell_later hb9 (cell_later ha9 (show W3.drew.cell? _ = some _ from k00))
  replace k01 := cell_later hb9 (cell_later ha9 (show W3.drew.cell? _ = some _ from k01))
  replace k10 := cell_later hb9 (cell_later ha9 (show W3.drew.cell? _ = some _ from k10))
  replace k11 := cell_later hb9 (cell_later ha9 (show W3.drew.cell? _ = some _ from k11))
  replace k12 := cell_later hb9 (cell_later ha9 (show W3.drew.cell? _ = some _ from k12))
  replace k13 := cell_later hb9 (cell_later ha9 (show W3.drew.cell? _ = some _ from k13))
  replace k20 := cell_later hb9 (cell_later ha9 (show W3.drew.cell? _ = some _ from k20))
  replace k21 := cell_later hb9 (cell_later ha9 (show W3.drew.cell? _ = some _ from k21))
  replace k22 := cell_later hb9 (cell_later ha9 (show W3.drew.cell? _ = some _ from k22))
  replace k23 := cell_later hb9 (cell_later ha9 (show W3.drew.cell? _ = some _ from k23))
  replace k30 := cell_later hb9 (cell_later ha9 (show W3.drew.cell? _ = some _ from k30))
  replace k31 := cell_later hb9 (cell_later ha9 (show W3.drew.cell? _ = some _ from k31))
  replace k32 := cell_later hb9 (cell_later ha9 (show W3.drew.cell? _ = some _ from k32))
  replace k33 := cell_later hb9 (cell_later ha9 (show W3.drew.cell? _ = some _ from k33))
  replace k40 := cell_later hb9 (cell_later ha9 (show W3.drew.cell? _ = some _ from k40))
  replace k41 := cell_later hb9 (cell_later ha9 (show W3.drew.cell? _ = some _ from k41))
  replace k42 := cell_later hb9 (cell_later ha9 (show W3.drew.cell? _ = some _ from k42))
  replace k43 := cell_later hb9 (cell_later ha9 (show W3.drew.cell? _ = some _ from k43))
  replace hB0 : Below w.heap.size w wb := below_trans (below_trans (show Below w.heap.size w W3.drew by go_grown) ha9) hb9
  clear ha9 hb9
  go_wp2_with (first | (go_at_call 13; refine (right_any _ _ _ _ _).mono ?_; rintro e w5 ⟨rfl, hb⟩; replace k00 := cell_later hb k00; replace k01 := cell_later hb k01; replace k10 := cell_later hb k10; replace k11 := cell_later hb k11; replace k12 := cell_later hb k12; replace k13 := cell_later hb k13; replace k20 := cell_later hb k20; replace k21 := cell_later hb k21; replace k22 := cell_later hb k22; replace k23 := cell_later hb k23; replace k30 := cell_later hb k30; replace k31 := cell_later hb k31; replace k32 := cell_later hb k32; replace k33 := cell_later hb k33; replace k40 := cell_later hb k40; replace k41 := cell_later hb k41; replace k42 := cell_later hb k42; replace k43 := cell_later hb k43; replace hB0 := below_trans hB0 hb; clear hb) | (go_at_call 15; refine (has_any _ _ _ _ _ _ _).mono ?_; rintro e w5 ⟨rfl, hb⟩; replace k00 := cell_later hb k00; replace k01 := cell_later hb k01; replace k10 := cell_later hb k10; replace k11 := cell_later hb k11; replace k12 := cell_later hb k12; replace k13 := cell_later hb k13; replace k20 := cell_later hb k20; replace k21 := cell_later hb k21; replace k22 := cell_later hb k22; replace k23 := cell_later hb k23; replace k30 := cell_later hb k30; replace k31 := cell_later hb k31; replace k32 := cell_later hb k32; replace k33 := cell_later hb k33; replace k40 := cell_later hb k40; replace k41 := cell_later hb k41; replace k42 := cell_later hb k42; replace k43 := cell_later hb k43; replace hB0 := below_trans hB0 hb; clear hb) | (go_at_call 17; refine (in_any _ _ _ _ _ _ _ _ _).mono ?_; rintro e w5 ⟨rfl, hb⟩; replace k00 := cell_later hb k00; replace k01 := cell_later hb k01; replace k10 := cell_later hb k10; replace k11 := cell_later hb k11; replace k12 := cell_later hb k12; replace k13 := cell_later hb k13; replace k20 := cell_later hb k20; replace k21 := cell_later hb k21; replace k22 := cell_later hb k22; replace k23 := cell_later hb k23; replace k30 := cell_later hb k30; replace k31 := cell_later hb k31; replace k32 := cell_later hb k32; replace k33 := cell_later hb k33; replace k40 := cell_later hb k40; replace k41 := cell_later hb k41; replace k42 := cell_later hb k42; replace k43 := cell_later hb k43; replace hB0 := below_trans hB0 hb; clear hb) | (go_at_call 21; refine (known_any _).mono ?_; rintro e w5 ⟨rfl, hb⟩; replace k00 := cell_later hb k00; replace k01 := cell_later hb k01; replace k10 := cell_later hb k10; replace k11 := cell_later hb k11; replace k12 := cell_later hb k12; replace k13 := cell_later hb k13; replace k20 := cell_later hb k20; replace k21 := cell_later hb k21; replace k22 := cell_later hb k22; replace k23 := cell_later hb k23; replace k30 := cell_later hb k30; replace k31 := cell_later hb k31; replace k32 := cell_later hb k32; replace k33 := cell_later hb k33; replace k40 := cell_later hb k40; replace k41 := cell_later hb k41; replace k42 := cell_later hb k42; replace k43 := cell_later hb k43; replace hB0 := below_trans hB0 hb; clear hb))
  all_goals
    go_ret
    exact ⟨rfl, hB0⟩
set_option maxHeartbeats 1000000 in
theorem walk (x y a b c d a1 b1 c1 d1 : Int) (w : World) (_hx : -9223372036854775808 ≤ x ∧ x ≤ 9223372036854775807) (_hy : -9223372036854775808 ≤ y ∧ y ≤ 9223372036854775807) (_ha : -9223372036854775808 ≤ a ∧ a ≤ 9223372036854775807) (_hb : -9223372036854775808 ≤ b ∧ b ≤ 9223372036854775807) (_hc : -9223372036854775808 ≤ c ∧ c ≤ 9223372036854775807) (_hd : -9223372036854775808 ≤ d ∧ d ≤ 9223372036854775807) (_ha1 : -9223372036854775808 ≤ a1 ∧ a1 ≤ 9223372036854775807) (_hb1 : -9223372036854775808 ≤ b1 ∧ b1 ≤ 9223372036854775807) (_hc1 : -9223372036854775808 ≤ c1 ∧ c1 ≤ 9223372036854775807) (_hd1 : -9223372036854775808 ≤ d1 ∧ d1 ≤ 9223372036854775807)  :
    Calls Try.prog 6 #[.agg #[.int .i64 x, .int .i64 y], .agg #[.int .i64 a, .int .i64 b, .int .i64 c, .int .i64 d], .agg #[.int .i64 a1, .int .i64 b1, .int .i64 c1, .int .i64 d1]] w fun e w' => e = .returned (.bool true) ∧ Below w.heap.size w w' := by
  rcases bcase (rightB a b c d) with g1 | g1
  · rcases bcase (rightB a1 b1 c1 d1) with g2 | g2
    · obtain ⟨i1, i2⟩ := ins_h a b c d a1 b1 c1 d1 g1 g2
      rcases bcase (hasB a b c d x y) with g3 | g3 <;> rcases bcase (hasB a1 b1 c1 d1 x y) with g4 | g4
      · rcases bcase (okM a b c d a1 b1 c1 d1) with g5 | g5
        · exact walk_3ttt x y a b c d a1 b1 c1 d1 w g1 g2 g3 g4 g5 (by rw [has_m a b c d a1 b1 c1 d1 x y g5, g3, g4]; rfl) (has_h a b c d a1 b1 c1 d1 x y g1 g2 (by simp [g3, g4])) i1 i2
        · exact (no_m a b c d a1 b1 c1 d1 x y g1 g2 g5 g3 g4).elim
      · rcases bcase (okM a b c d a1 b1 c1 d1) with g5 | g5
        · exact walk_3ttf x y a b c d a1 b1 c1 d1 w g1 g2 g3 g4 g5 (by rw [has_m a b c d a1 b1 c1 d1 x y g5, g3, g4]; rfl) (has_h a b c d a1 b1 c1 d1 x y g1 g2 (by simp [g3, g4])) i1 i2
        · exact walk_3ftf x y a b c d a1 b1 c1 d1 w g1 g2 g3 g4 g5 (has_h a b c d a1 b1 c1 d1 x y g1 g2 (by simp [g3, g4])) i1 i2
      · rcases bcase (okM a b c d a1 b1 c1 d1) with g5 | g5
        · exact walk_3tft x y a b c d a1 b1 c1 d1 w g1 g2 g3 g4 g5 (by rw [has_m a b c d a1 b1 c1 d1 x y g5, g3, g4]; rfl) (has_h a b c d a1 b1 c1 d1 x y g1 g2 (by simp [g3, g4])) i1 i2
        · exact walk_3fft x y a b c d a1 b1 c1 d1 w g1 g2 g3 g4 g5 (has_h a b c d a1 b1 c1 d1 x y g1 g2 (by simp [g3, g4])) i1 i2
      · rcases bcase (okM a b c d a1 b1 c1 d1) with g5 | g5
        · exact walk_3tff x y a b c d a1 b1 c1 d1 w g1 g2 g3 g4 g5 (by rw [has_m a b c d a1 b1 c1 d1 x y g5, g3, g4]; rfl) i1 i2
        · exact walk_3fff x y a b c d a1 b1 c1 d1 w g1 g2 g3 g4 g5 i1 i2
    · have g5 : okM a b c d a1 b1 c1 d1 = false := by simp [okM, g2]
      obtain ⟨z0, z1, z2, z3⟩ := zero_h a b c d a1 b1 c1 d1 (by simp [okH, g2])
      have g4 := has_right a1 b1 c1 d1 x y g2
      rcases bcase (hasB a b c d x y) with g3 | g3
      · exact walk_2true x y a b c d a1 b1 c1 d1 w g1 g2 g3 g4 g5 z0 z1 z2 z3
      · exact walk_2false x y a b c d a1 b1 c1 d1 w g1 g2 g3 g4 g5 z0 z1 z2 z3
  · have g5 : okM a b c d a1 b1 c1 d1 = false := by simp [okM, g1]
    obtain ⟨z0, z1, z2, z3⟩ := zero_h a b c d a1 b1 c1 d1 (by simp [okH, g1])
    exact walk_1 x y a b c d a1 b1 c1 d1 w g1 (has_right a b c d x y g1) g5 z0 z1 z2 z3

theorem own : ownKnob Try.prog.godebug = none := by kernel_rfl
theorem laidOut : laidOutB Try.prog = true := by kernel_rfl
set_option maxRecDepth 100000 in
theorem lifted (os : Os) (started : os.Started) (H : Type) (enc : TypeId × Value → H) :
    ReturnsInHanded {} Try.checked os 6 .any (Rows.geomPointsSpec.pre6 enc Try.prog Try.f6 Rows.geomPointsRow.domain false) (Rows.geomPointsSpec.post enc Try.prog Try.f6 false true false false) := by
  refine returnsInHanded_of_change (C := Try.checked) own started (by kernel_rfl) Try.func6
    (ChangeSpec.witness6 (enc := enc) (C := Try.checked) false ⟨#[], #[.agg #[.int .i64 0, .int .i64 0], .agg #[.int .i64 0, .int .i64 0, .int .i64 0, .int .i64 0], .agg #[.int .i64 0, .int .i64 0, .int .i64 0, .int .i64 0]], []⟩ 8 (by kernel_rfl) (by kernel_rfl) (by kernel_rfl) (by kernel_rfl)) ?_
  intro W base args ds gs before hval0 hW hcnd _
  have hval : ∀ (j : Nat) t v, Try.f6.params[j]? = some t → args[j]? = some v → Value.okWide Try.prog W .any base t v := hval0
  have hW' := hW
  obtain ⟨p, q, hA0, hV, rfl, hfz, hnd⟩ := hW
  have hA : DataW.TrodAll enc Try.prog W 0 (fun _ => true) true Try.f6.params.toList args.toList ds p := hA0
  rw [Try.params6] at hA hval
  obtain ⟨v0, vs0, d0, ds0, p0, q0, hargs, rfl, rfl, h0, r0⟩ := trodAll_cons hA
  obtain ⟨v1, vs1, d1, ds1, p1, q1, rfl, rfl, rfl, h1, r1⟩ := trodAll_cons r0
  obtain ⟨v2, vs2, d2, ds2, p2, q2, rfl, rfl, rfl, h2, r2⟩ := trodAll_cons r1
  obtain ⟨rfl, rfl, rfl⟩ := trodAll_nil r2
  obtain rfl : args = #[v0, v1, v2] := by cases args; simp_all
  obtain ⟨rfl, rfl⟩ := trodVars_none hV
  have k0 := h0
  have lt0 : ∀ x ∈ p0, x.block < W.heap.size := by obtain ⟨m, hm⟩ := k0; exact DataW.trod_lt m _ _ _ hm
  obtain ⟨c0_0, c0_1, y0_0, y0_1, m0, rfl, rfl, rfl, hy0_0, hy0_1⟩ := Joins.open_agg2 Try.underlying23 (by kernel_rfl) (by kernel_rfl) (hval 0 23 v0 rfl rfl) h0
  obtain ⟨a0_0, e0_0, rfl, w0_0⟩ := DataW.trod_int Try.underlying3 hy0_0
  simp only [List.cons.injEq, and_true] at e0_0
  subst e0_0
  obtain ⟨a0_1, e0_1, rfl, w0_1⟩ := DataW.trod_int Try.underlying3 hy0_1
  simp only [List.cons.injEq, and_true] at e0_1
  subst e0_1
  have k1 := h1
  have lt1 : ∀ x ∈ p1, x.block < W.heap.size := by obtain ⟨m, hm⟩ := k1; exact DataW.trod_lt m _ _ _ hm
  obtain ⟨c1_0, c1_1, c1_2, c1_3, y1_0, y1_1, y1_2, y1_3, m1, rfl, rfl, rfl, hy1_0, hy1_1, hy1_2, hy1_3⟩ := Joins.open_agg4 Try.underlying25 (by kernel_rfl) (by kernel_rfl) (hval 1 25 v1 rfl rfl) h1
  obtain ⟨a1_0, e1_0, rfl, w1_0⟩ := DataW.trod_int Try.underlying3 hy1_0
  simp only [List.cons.injEq, and_true] at e1_0
  subst e1_0
  obtain ⟨a1_1, e1_1, rfl, w1_1⟩ := DataW.trod_int Try.underlying3 hy1_1
  simp only [List.cons.injEq, and_true] at e1_1
  subst e1_1
  obtain ⟨a1_2, e1_2, rfl, w1_2⟩ := DataW.trod_int Try.underlying3 hy1_2
  simp only [List.cons.injEq, and_true] at e1_2
  subst e1_2
  obtain ⟨a1_3, e1_3, rfl, w1_3⟩ := DataW.trod_int Try.underlying3 hy1_3
  simp only [List.cons.injEq, and_true] at e1_3
  subst e1_3
  have k2 := h2
  have lt2 : ∀ x ∈ p2, x.block < W.heap.size := by obtain ⟨m, hm⟩ := k2; exact DataW.trod_lt m _ _ _ hm
  obtain ⟨c2_0, c2_1, c2_2, c2_3, y2_0, y2_1, y2_2, y2_3, m2, rfl, rfl, rfl, hy2_0, hy2_1, hy2_2, hy2_3⟩ := Joins.open_agg4 Try.underlying25 (by kernel_rfl) (by kernel_rfl) (hval 2 25 v2 rfl rfl) h2
  obtain ⟨a2_0, e2_0, rfl, w2_0⟩ := DataW.trod_int Try.underlying3 hy2_0
  simp only [List.cons.injEq, and_true] at e2_0
  subst e2_0
  obtain ⟨a2_1, e2_1, rfl, w2_1⟩ := DataW.trod_int Try.underlying3 hy2_1
  simp only [List.cons.injEq, and_true] at e2_1
  subst e2_1
  obtain ⟨a2_2, e2_2, rfl, w2_2⟩ := DataW.trod_int Try.underlying3 hy2_2
  simp only [List.cons.injEq, and_true] at e2_2
  subst e2_2
  obtain ⟨a2_3, e2_3, rfl, w2_3⟩ := DataW.trod_int Try.underlying3 hy2_3
  simp only [List.cons.injEq, and_true] at e2_3
  subst e2_3
  clear hA0 hval0
  refine (walk a0_0 a0_1 a1_0 a1_1 a1_2 a1_3 a2_0 a2_1 a2_2 a2_3 W (bounds_i64 w0_0) (bounds_i64 w0_1) (bounds_i64 w1_0) (bounds_i64 w1_1) (bounds_i64 w1_2) (bounds_i64 w1_3) (bounds_i64 w2_0) (bounds_i64 w2_1) (bounds_i64 w2_2) (bounds_i64 w2_3)).mono fun e W' ⟨he, bel⟩ => ?_
  subst he
  exact ⟨_, rfl, _, _, _, [], _, [], hW', trodAll_mk1 (shut_bool Try.underlying4 _), (trodAll_cons_mk (Below.trod laidOut (by kernel_rfl) (of_decide_eq_true (by kernel_rfl)) k0 bel lt0) (trodAll_cons_mk (Below.trod laidOut (by kernel_rfl) (of_decide_eq_true (by kernel_rfl)) k1 bel lt1) (trodAll_cons_mk (Below.trod laidOut (by kernel_rfl) (of_decide_eq_true (by kernel_rfl)) k2 bel lt2) trodAll_mk0))), rfl, bel.frame _, fun h => by cases h⟩
theorem over : Rows.geomPointsRow.holds Try.pinned (OpenSpec.ofChange Rows.geomPointsSpec) :=
  OpenClaim.holds_of_wide 6 Try.f6 rfl rfl rfl rfl rfl rfl rfl ⟨rfl, rfl, rfl, rfl, rfl⟩ rfl rfl rfl rfl rfl (by kernel_rfl) Try.func6 (by kernel_rfl)
    (of_decide_eq_true (by kernel_rfl)) (by unfold Func.isWrapper; first | (rw [if_pos (by decide +kernel)]; kernel_rfl) | (rw [if_neg (by decide +kernel)]; exact ⟨rfl, rfl⟩))
    (fun os started H enc _ => lifted os started H enc)
/-- The statement. -/
theorem proved : Rows.GeomPointsSaid := over
#print axioms proved
end Go.Proofs.Ytichfgpmcamhmaa.geomPoints
