/- GeomCuts: (P2.5) a rectangle that is cut in two has the area of both, which have no point in common and of which it is the hull. Conditions: none. -/
import Derived.Test.YtichfgpmcamhmaaGeomU
import Derived.Test.YtichfgpmcamhmaaGeomCorn
import Derived.Test.YtichfgpmcamhmaaFrame
import Derived.Lib.SmallJoins
import Derived.RegionTactic
namespace Go.Proofs.Ytichfgpmcamhmaa.geomCuts
set_option linter.unusedVariables false
set_option linter.unusedSimpArgs false
open Go.ChangeShapes Go.WideShapes Go.ChangeAt Go.RowKit
open Go.ChangeMaps (open_string shut_string)
theorem below_then {a b c : World} (k : Below b.heap.size b c) (h : Below a.heap.size a b) : Below a.heap.size a c := below_trans h k
set_option maxHeartbeats 2000000 in
theorem walk_no (a b c d t : Int) (w : World) (dn : Bool) (h1 : rightB a b c d = false) :
    Calls Try.prog 8 #[.agg #[.int .i64 a, .int .i64 b, .int .i64 c, .int .i64 d], .int .i64 t, .bool dn] w fun e w' => e = .returned (.bool true) ∧ Below w.heap.size w w' := by
  go_enter Try.func8, Try.ntmps8
  go_wp2_with fail
  have hB0 : Below w.heap.size w (w.alloc (.cells #[.int .i64 a, .int .i64 b, .int .i64 c, .int .i64 d] 25)) := by go_grown
  have K := Blk.new w 25 #[.int .i64 a, .int .i64 b, .int .i64 c, .int .i64 d]
  generalize (w.alloc (.cells #[.int .i64 a, .int .i64 b, .int .i64 c, .int .i64 d] 25)) = W at hB0 K ⊢
  have k00 := K.cell 0
  have k01 := K.cell 1
  have k02 := K.cell 2
  have k03 := K.cell 3
  simp only [List.getElem?_toArray, List.getElem?_cons_zero, List.getElem?_cons_succ] at k00 k01 k02 k03
  clear K
  refine (right_any _ _ _ _ _).mono ?_
  rintro e w1 ⟨rfl, hb⟩
  replace k00 := cell_later hb k00
  replace k01 := cell_later hb k01
  replace k02 := cell_later hb k02
  replace k03 := cell_later hb k03
  replace hB0 := below_trans hB0 hb
  clear hb
  go_wp2_with fail
  refine (area_no _ _ _ _ h1 _).mono ?_
  rintro e w2 ⟨rfl, hb⟩
  replace k00 := cell_later hb k00
  replace k01 := cell_later hb k01
  replace k02 := cell_later hb k02
  replace k03 := cell_later hb k03
  replace hB0 := below_trans hB0 hb
  clear hb
  go_wp2_with fail
  refine (known_any _).mono ?_
  rintro e w3 ⟨rfl, hb⟩
  replace k00 := cell_later hb k00
  replace k01 := cell_later hb k01
  replace k02 := cell_later hb k02
  replace k03 := cell_later hb k03
  replace hB0 := below_trans hB0 hb
  clear hb
  go_wp2
  go_ret
  exact ⟨rfl, hB0⟩
set_option maxHeartbeats 2000000 in
theorem walk_t1 (a b c d t : Int) (w : World) (h1 : rightB a b c d = true) (h2 : t < b) :
    Calls Try.prog 8 #[.agg #[.int .i64 a, .int .i64 b, .int .i64 c, .int .i64 d], .int .i64 t, .bool true] w fun e w' => e = .returned (.bool true) ∧ Below w.heap.size w w' := by
  go_enter Try.func8, Try.ntmps8
  go_wp2_with fail
  have hB0 : Below w.heap.size w (w.alloc (.cells #[.int .i64 a, .int .i64 b, .int .i64 c, .int .i64 d] 25)) := by go_grown
  have K := Blk.new w 25 #[.int .i64 a, .int .i64 b, .int .i64 c, .int .i64 d]
  generalize (w.alloc (.cells #[.int .i64 a, .int .i64 b, .int .i64 c, .int .i64 d] 25)) = W at hB0 K ⊢
  have k00 := K.cell 0
  have k01 := K.cell 1
  have k02 := K.cell 2
  have k03 := K.cell 3
  simp only [List.getElem?_toArray, List.getElem?_cons_zero, List.getElem?_cons_succ] at k00 k01 k02 k03
  clear K
  refine (right_any _ _ _ _ _).mono ?_
  rintro e w1 ⟨rfl, hb⟩
  replace k00 := cell_later hb k00
  replace k01 := cell_later hb k01
  replace k02 := cell_later hb k02
  replace k03 := cell_later hb k03
  replace hB0 := below_trans hB0 hb
  clear hb
  have hz := block_lt_of_cell k00
  go_wp2_with fail
  go_region
  all_goals
    go_wp2_with (go_at_call 21; refine (known_any _).mono ?_; rintro e w9 ⟨rfl, hb9⟩)
    go_ret
    refine ⟨rfl, ?_⟩
    exact below_then hb9 (by go_grown)
set_option maxHeartbeats 2000000 in
theorem walk_t2 (a b c d t : Int) (w : World) (h1 : rightB a b c d = true) (h2 : ¬ t < b) (h3 : d ≤ t) :
    Calls Try.prog 8 #[.agg #[.int .i64 a, .int .i64 b, .int .i64 c, .int .i64 d], .int .i64 t, .bool true] w fun e w' => e = .returned (.bool true) ∧ Below w.heap.size w w' := by
  go_enter Try.func8, Try.ntmps8
  go_wp2_with fail
  have hB0 : Below w.heap.size w (w.alloc (.cells #[.int .i64 a, .int .i64 b, .int .i64 c, .int .i64 d] 25)) := by go_grown
  have K := Blk.new w 25 #[.int .i64 a, .int .i64 b, .int .i64 c, .int .i64 d]
  generalize (w.alloc (.cells #[.int .i64 a, .int .i64 b, .int .i64 c, .int .i64 d] 25)) = W at hB0 K ⊢
  have k00 := K.cell 0
  have k01 := K.cell 1
  have k02 := K.cell 2
  have k03 := K.cell 3
  simp only [List.getElem?_toArray, List.getElem?_cons_zero, List.getElem?_cons_succ] at k00 k01 k02 k03
  clear K
  refine (right_any _ _ _ _ _).mono ?_
  rintro e w1 ⟨rfl, hb⟩
  replace k00 := cell_later hb k00
  replace k01 := cell_later hb k01
  replace k02 := cell_later hb k02
  replace k03 := cell_later hb k03
  replace hB0 := below_trans hB0 hb
  clear hb
  have hz := block_lt_of_cell k00
  go_wp2_with fail
  go_region
  all_goals
    go_wp2_with (go_at_call 21; refine (known_any _).mono ?_; rintro e w9 ⟨rfl, hb9⟩)
    go_ret
    refine ⟨rfl, ?_⟩
    exact below_then hb9 (by go_grown)
set_option maxHeartbeats 2000000 in
theorem walk_f1 (a b c d t : Int) (w : World) (h1 : rightB a b c d = true) (h2 : t < a) :
    Calls Try.prog 8 #[.agg #[.int .i64 a, .int .i64 b, .int .i64 c, .int .i64 d], .int .i64 t, .bool false] w fun e w' => e = .returned (.bool true) ∧ Below w.heap.size w w' := by
  go_enter Try.func8, Try.ntmps8
  go_wp2_with fail
  have hB0 : Below w.heap.size w (w.alloc (.cells #[.int .i64 a, .int .i64 b, .int .i64 c, .int .i64 d] 25)) := by go_grown
  have K := Blk.new w 25 #[.int .i64 a, .int .i64 b, .int .i64 c, .int .i64 d]
  generalize (w.alloc (.cells #[.int .i64 a, .int .i64 b, .int .i64 c, .int .i64 d] 25)) = W at hB0 K ⊢
  have k00 := K.cell 0
  have k01 := K.cell 1
  have k02 := K.cell 2
  have k03 := K.cell 3
  simp only [List.getElem?_toArray, List.getElem?_cons_zero, List.getElem?_cons_succ] at k00 k01 k02 k03
  clear K
  refine (right_any _ _ _ _ _).mono ?_
  rintro e w1 ⟨rfl, hb⟩
  replace k00 := cell_later hb k00
  replace k01 := cell_later hb k01
  replace k02 := cell_later hb k02
  replace k03 := cell_later hb k03
  replace hB0 := below_trans hB0 hb
  clear hb
  have hz := block_lt_of_cell k00
  go_wp2_with fail
  go_region
  all_goals
    go_wp2_with (go_at_call 21; refine (known_any _).mono ?_; rintro e w9 ⟨rfl, hb9⟩)
    go_ret
    refine ⟨rfl, ?_⟩
    exact below_then hb9 (by go_grown)
set_option maxHeartbeats 2000000 in
theorem walk_f2 (a b c d t : Int) (w : World) (h1 : rightB a b c d = true) (h2 : ¬ t < a) (h3 : c ≤ t) :
    Calls Try.prog 8 #[.agg #[.int .i64 a, .int .i64 b, .int .i64 c, .int .i64 d], .int .i64 t, .bool false] w fun e w' => e = .returned (.bool true) ∧ Below w.heap.size w w' := by
  go_enter Try.func8, Try.ntmps8
  go_wp2_with fail
  have hB0 : Below w.heap.size w (w.alloc (.cells #[.int .i64 a, .int .i64 b, .int .i64 c, .int .i64 d] 25)) := by go_grown
  have K := Blk.new w 25 #[.int .i64 a, .int .i64 b, .int .i64 c, .int .i64 d]
  generalize (w.alloc (.cells #[.int .i64 a, .int .i64 b, .int .i64 c, .int .i64 d] 25)) = W at hB0 K ⊢
  have k00 := K.cell 0
  have k01 := K.cell 1
  have k02 := K.cell 2
  have k03 := K.cell 3
  simp only [List.getElem?_toArray, List.getElem?_cons_zero, List.getElem?_cons_succ] at k00 k01 k02 k03
  clear K
  refine (right_any _ _ _ _ _).mono ?_
  rintro e w1 ⟨rfl, hb⟩
  replace k00 := cell_later hb k00
  replace k01 := cell_later hb k01
  replace k02 := cell_later hb k02
  replace k03 := cell_later hb k03
  replace hB0 := below_trans hB0 hb
  clear hb
  have hz := block_lt_of_cell k00
  go_wp2_with fail
  go_region
  all_goals
    go_wp2_with (go_at_call 21; refine (known_any _).mono ?_; rintro e w9 ⟨rfl, hb9⟩)
    go_ret
    refine ⟨rfl, ?_⟩
    exact below_then hb9 (by go_grown)
set_option maxHeartbeats 4000000 in
theorem walk_t (a b c d t : Int) (w : World) (h1 : rightB a b c d = true) (h2 : ¬ t < b) (h3 : ¬ d ≤ t) (h4 : t ≤ 65535) (h5 : 0 ≤ t) (s1 : (areaU (a) (b) (c) (t) + areaU (a) ((t + 1)) (c) (d) == areaU a b c d) = true) (s2 : IntKind.u64.wrap (areaU (a) (b) (c) (t) + areaU (a) ((t + 1)) (c) (d)) = areaU (a) (b) (c) (t) + areaU (a) ((t + 1)) (c) (d)) (s3 : okM (a) (b) (c) (t) (a) ((t + 1)) (c) (d) = false) (s4 : hu0 (a) (b) (c) (t) (a) ((t + 1)) (c) (d) = a) (s5 : hu1 (a) (b) (c) (t) (a) ((t + 1)) (c) (d) = b) (s6 : hu2 (a) (b) (c) (t) (a) ((t + 1)) (c) (d) = c) (s7 : hu3 (a) (b) (c) (t) (a) ((t + 1)) (c) (d) = d) :
    Calls Try.prog 8 #[.agg #[.int .i64 a, .int .i64 b, .int .i64 c, .int .i64 d], .int .i64 t, .bool true] w fun e w' => e = .returned (.bool true) ∧ Below w.heap.size w w' := by
  go_enter Try.func8, Try.ntmps8
  go_wp2_with fail
  have hB0 : Below w.heap.size w (w.alloc (.cells #[.int .i64 a, .int .i64 b, .int .i64 c, .int .i64 d] 25)) := by go_grown
  have K := Blk.new w 25 #[.int .i64 a, .int .i64 b, .int .i64 c, .int .i64 d]
  generalize (w.alloc (.cells #[.int .i64 a, .int .i64 b, .int .i64 c, .int .i64 d] 25)) = W at hB0 K ⊢
  have k00 := K.cell 0
  have k01 := K.cell 1
  have k02 := K.cell 2
  have k03 := K.cell 3
  simp only [List.getElem?_toArray, List.getElem?_cons_zero, List.getElem?_cons_succ] at k00 k01 k02 k03
  clear K
  refine (right_any _ _ _ _ _).mono ?_
  rintro e w1 ⟨rfl, hb⟩
  replace k00 := cell_later hb k00
  replace k01 := cell_later hb k01
  replace k02 := cell_later hb k02
  replace k03 := cell_later hb k03
  replace hB0 := below_trans hB0 hb
  clear hb
  have hz := block_lt_of_cell k00
  go_wp2_with fail
  go_region
  all_goals
    go_wp2_with fail
    first
      | (have K := blk_two w1 25 25 #[.int .i64 a, .int .i64 b, .int .i64 c, .int .i64 t] #[.int .i64 a, .int .i64 (t + 1), .int .i64 c, .int .i64 d]; have hal : Below w1.heap.size w1 ((w1.alloc (.cells #[.int .i64 a, .int .i64 b, .int .i64 c, .int .i64 t] 25)).alloc (.cells #[.int .i64 a, .int .i64 (t + 1), .int .i64 c, .int .i64 d] 25)) := ((Below.refl _ _).alloc (Nat.le_refl _) _).alloc (by simp) _; replace k00 := cell_later hal k00; replace k01 := cell_later hal k01; replace k02 := cell_later hal k02; replace k03 := cell_later hal k03; replace hB0 := below_trans hB0 hal; clear hz hal; generalize ((w1.alloc (.cells #[.int .i64 a, .int .i64 b, .int .i64 c, .int .i64 t] 25)).alloc (.cells #[.int .i64 a, .int .i64 (t + 1), .int .i64 c, .int .i64 d] 25)) = W2 at *; have p0 := K.1.cell 0; have q0 := K.2.cell 0; have p1 := K.1.cell 1; have q1 := K.2.cell 1; have p2 := K.1.cell 2; have q2 := K.2.cell 2; have p3 := K.1.cell 3; have q3 := K.2.cell 3; simp only [List.getElem?_toArray, List.getElem?_cons_zero, List.getElem?_cons_succ] at p0 q0 p1 q1 p2 q2 p3 q3; clear K; go_region_held3 (fun w' => (w'.cell? ⟨w.heap.size, 0, none⟩ = some (.int .i64 a)) ∧ (w'.cell? ⟨w.heap.size, 1, none⟩ = some (.int .i64 b)) ∧ (w'.cell? ⟨w.heap.size, 2, none⟩ = some (.int .i64 c)) ∧ (w'.cell? ⟨w.heap.size, 3, none⟩ = some (.int .i64 d)) ∧ (w'.cell? ⟨w1.heap.size, 0, none⟩ = some (.int .i64 a)) ∧ (w'.cell? ⟨w1.heap.size, 1, none⟩ = some (.int .i64 b)) ∧ (w'.cell? ⟨w1.heap.size, 2, none⟩ = some (.int .i64 c)) ∧ (w'.cell? ⟨w1.heap.size, 3, none⟩ = some (.int .i64 t)) ∧ (w'.cell? ⟨w1.heap.size + 1, 0, none⟩ = some (.int .i64 a)) ∧ (w'.cell? ⟨w1.heap.size + 1, 1, none⟩ = some (.int .i64 (t + 1))) ∧ (w'.cell? ⟨w1.heap.size + 1, 2, none⟩ = some (.int .i64 c)) ∧ (w'.cell? ⟨w1.heap.size + 1, 3, none⟩ = some (.int .i64 d)) ∧ (Below w.heap.size w w')) (first | (go_split_ands; refine ⟨?_, ?_, ?_, ?_, ?_, ?_, ?_, ?_, ?_, ?_, ?_, ?_, ?_⟩ <;> first | (exact cell_later (by assumption) (by assumption)) | (exact below_then (by assumption) (by assumption)) | (go_grown; done) | go_keep)) (first | (go_at_call 27; refine (area_u _ _ _ _ _).mono ?_; rintro e w9 ⟨rfl, hb9⟩) | (go_at_call 24; refine (meets_u _ _ _ _ _ _ _ _ _).mono ?_; rintro e w9 ⟨rfl, hb9⟩) | (go_at_call 25; refine (hull_u _ _ _ _ _ _ _ _ _).mono ?_; rintro e w9 ⟨rfl, hb9⟩) | (go_at_call 21; refine (known_any _).mono ?_; rintro e w9 ⟨rfl, hb9⟩)); all_goals (go_wp2; go_ret; refine ⟨rfl, ?_⟩; (repeat' (first | (with_reducible assumption) | (go_grown; done) | (refine below_trans ?_ (by assumption))))))
      | (have K := blk_two w1 25 25 #[.int .i64 a, .int .i64 (t + 1), .int .i64 c, .int .i64 d] #[.int .i64 a, .int .i64 b, .int .i64 c, .int .i64 t]; have hal : Below w1.heap.size w1 ((w1.alloc (.cells #[.int .i64 a, .int .i64 (t + 1), .int .i64 c, .int .i64 d] 25)).alloc (.cells #[.int .i64 a, .int .i64 b, .int .i64 c, .int .i64 t] 25)) := ((Below.refl _ _).alloc (Nat.le_refl _) _).alloc (by simp) _; replace k00 := cell_later hal k00; replace k01 := cell_later hal k01; replace k02 := cell_later hal k02; replace k03 := cell_later hal k03; replace hB0 := below_trans hB0 hal; clear hz hal; generalize ((w1.alloc (.cells #[.int .i64 a, .int .i64 (t + 1), .int .i64 c, .int .i64 d] 25)).alloc (.cells #[.int .i64 a, .int .i64 b, .int .i64 c, .int .i64 t] 25)) = W2 at *; have p0 := K.2.cell 0; have q0 := K.1.cell 0; have p1 := K.2.cell 1; have q1 := K.1.cell 1; have p2 := K.2.cell 2; have q2 := K.1.cell 2; have p3 := K.2.cell 3; have q3 := K.1.cell 3; simp only [List.getElem?_toArray, List.getElem?_cons_zero, List.getElem?_cons_succ] at p0 q0 p1 q1 p2 q2 p3 q3; clear K; go_region_held3 (fun w' => (w'.cell? ⟨w.heap.size, 0, none⟩ = some (.int .i64 a)) ∧ (w'.cell? ⟨w.heap.size, 1, none⟩ = some (.int .i64 b)) ∧ (w'.cell? ⟨w.heap.size, 2, none⟩ = some (.int .i64 c)) ∧ (w'.cell? ⟨w.heap.size, 3, none⟩ = some (.int .i64 d)) ∧ (w'.cell? ⟨w1.heap.size + 1, 0, none⟩ = some (.int .i64 a)) ∧ (w'.cell? ⟨w1.heap.size + 1, 1, none⟩ = some (.int .i64 b)) ∧ (w'.cell? ⟨w1.heap.size + 1, 2, none⟩ = some (.int .i64 c)) ∧ (w'.cell? ⟨w1.heap.size + 1, 3, none⟩ = some (.int .i64 t)) ∧ (w'.cell? ⟨w1.heap.size, 0, none⟩ = some (.int .i64 a)) ∧ (w'.cell? ⟨w1.heap.size, 1, none⟩ = some (.int .i64 (t + 1))) ∧ (w'.cell? ⟨w1.heap.size, 2, none⟩ = some (.int .i64 c)) ∧ (w'.cell? ⟨w1.heap.size, 3, none⟩ = some (.int .i64 d)) ∧ (Below w.heap.size w w')) (first | (go_split_ands; refine ⟨?_, ?_, ?_, ?_, ?_, ?_, ?_, ?_, ?_, ?_, ?_, ?_, ?_⟩ <;> first | (exact cell_later (by assumption) (by assumption)) | (exact below_then (by assumption) (by assumption)) | (go_grown; done) | go_keep)) (first | (go_at_call 27; refine (area_u _ _ _ _ _).mono ?_; rintro e w9 ⟨rfl, hb9⟩) | (go_at_call 24; refine (meets_u _ _ _ _ _ _ _ _ _).mono ?_; rintro e w9 ⟨rfl, hb9⟩) | (go_at_call 25; refine (hull_u _ _ _ _ _ _ _ _ _).mono ?_; rintro e w9 ⟨rfl, hb9⟩) | (go_at_call 21; refine (known_any _).mono ?_; rintro e w9 ⟨rfl, hb9⟩)); all_goals (go_wp2; go_ret; refine ⟨rfl, ?_⟩; (repeat' (first | (with_reducible assumption) | (go_grown; done) | (refine below_trans ?_ (by assumption))))))
set_option maxHeartbeats 4000000 in
theorem walk_f (a b c d t : Int) (w : World) (h1 : rightB a b c d = true) (h2 : ¬ t < a) (h3 : ¬ c ≤ t) (h4 : t ≤ 65535) (h5 : 0 ≤ t) (s1 : (areaU (a) (b) (t) (d) + areaU ((t + 1)) (b) (c) (d) == areaU a b c d) = true) (s2 : IntKind.u64.wrap (areaU (a) (b) (t) (d) + areaU ((t + 1)) (b) (c) (d)) = areaU (a) (b) (t) (d) + areaU ((t + 1)) (b) (c) (d)) (s3 : okM (a) (b) (t) (d) ((t + 1)) (b) (c) (d) = false) (s4 : hu0 (a) (b) (t) (d) ((t + 1)) (b) (c) (d) = a) (s5 : hu1 (a) (b) (t) (d) ((t + 1)) (b) (c) (d) = b) (s6 : hu2 (a) (b) (t) (d) ((t + 1)) (b) (c) (d) = c) (s7 : hu3 (a) (b) (t) (d) ((t + 1)) (b) (c) (d) = d) :
    Calls Try.prog 8 #[.agg #[.int .i64 a, .int .i64 b, .int .i64 c, .int .i64 d], .int .i64 t, .bool false] w fun e w' => e = .returned (.bool true) ∧ Below w.heap.size w w' := by
  go_enter Try.func8, Try.ntmps8
  go_wp2_with fail
  have hB0 : Below w.heap.size w (w.alloc (.cells #[.int .i64 a, .int .i64 b, .int .i64 c, .int .i64 d] 25)) := by go_grown
  have K := Blk.new w 25 #[.int .i64 a, .int .i64 b, .int .i64 c, .int .i64 d]
  generalize (w.alloc (.cells #[.int .i64 a, .int .i64 b, .int .i64 c, .int .i64 d] 25)) = W at hB0 K ⊢
  have k00 := K.cell 0
  have k01 := K.cell 1
  have k02 := K.cell 2
  have k03 := K.cell 3
  simp only [List.getElem?_toArray, List.getElem?_cons_zero, List.getElem?_cons_succ] at k00 k01 k02 k03
  clear K
  refine (right_any _ _ _ _ _).mono ?_
  rintro e w1 ⟨rfl, hb⟩
  replace k00 := cell_later hb k00
  replace k01 := cell_later hb k01
  replace k02 := cell_later hb k02
  replace k03 := cell_later hb k03
  replace hB0 := below_trans hB0 hb
  clear hb
  have hz := block_lt_of_cell k00
  go_wp2_with fail
  go_region
  all_goals
    go_wp2_with fail
    first
      | (have K := blk_two w1 25 25 #[.int .i64 a, .int .i64 b, .int .i64 t, .int .i64 d] #[.int .i64 (t + 1), .int .i64 b, .int .i64 c, .int .i64 d]; have hal : Below w1.heap.size w1 ((w1.alloc (.cells #[.int .i64 a, .int .i64 b, .int .i64 t, .int .i64 d] 25)).alloc (.cells #[.int .i64 (t + 1), .int .i64 b, .int .i64 c, .int .i64 d] 25)) := ((Below.refl _ _).alloc (Nat.le_refl _) _).alloc (by simp) _; replace k00 := cell_later hal k00; replace k01 := cell_later hal k01; replace k02 := cell_later hal k02; replace k03 := cell_later hal k03; replace hB0 := below_trans hB0 hal; clear hz hal; generalize ((w1.alloc (.cells #[.int .i64 a, .int .i64 b, .int .i64 t, .int .i64 d] 25)).alloc (.cells #[.int .i64 (t + 1), .int .i64 b, .int .i64 c, .int .i64 d] 25)) = W2 at *; have p0 := K.1.cell 0; have q0 := K.2.cell 0; have p1 := K.1.cell 1; have q1 := K.2.cell 1; have p2 := K.1.cell 2; have q2 := K.2.cell 2; have p3 := K.1.cell 3; have q3 := K.2.cell 3; simp only [List.getElem?_toArray, List.getElem?_cons_zero, List.getElem?_cons_succ] at p0 q0 p1 q1 p2 q2 p3 q3; clear K; go_region_held3 (fun w' => (w'.cell? ⟨w.heap.size, 0, none⟩ = some (.int .i64 a)) ∧ (w'.cell? ⟨w.heap.size, 1, none⟩ = some (.int .i64 b)) ∧ (w'.cell? ⟨w.heap.size, 2, none⟩ = some (.int .i64 c)) ∧ (w'.cell? ⟨w.heap.size, 3, none⟩ = some (.int .i64 d)) ∧ (w'.cell? ⟨w1.heap.size, 0, none⟩ = some (.int .i64 a)) ∧ (w'.cell? ⟨w1.heap.size, 1, none⟩ = some (.int .i64 b)) ∧ (w'.cell? ⟨w1.heap.size, 2, none⟩ = some (.int .i64 t)) ∧ (w'.cell? ⟨w1.heap.size, 3, none⟩ = some (.int .i64 d)) ∧ (w'.cell? ⟨w1.heap.size + 1, 0, none⟩ = some (.int .i64 (t + 1))) ∧ (w'.cell? ⟨w1.heap.size + 1, 1, none⟩ = some (.int .i64 b)) ∧ (w'.cell? ⟨w1.heap.size + 1, 2, none⟩ = some (.int .i64 c)) ∧ (w'.cell? ⟨w1.heap.size + 1, 3, none⟩ = some (.int .i64 d)) ∧ (Below w.heap.size w w')) (first | (go_split_ands; refine ⟨?_, ?_, ?_, ?_, ?_, ?_, ?_, ?_, ?_, ?_, ?_, ?_, ?_⟩ <;> first | (exact cell_later (by assumption) (by assumption)) | (exact below_then (by assumption) (by assumption)) | (go_grown; done) | go_keep)) (first | (go_at_call 27; refine (area_u _ _ _ _ _).mono ?_; rintro e w9 ⟨rfl, hb9⟩) | (go_at_call 24; refine (meets_u _ _ _ _ _ _ _ _ _).mono ?_; rintro e w9 ⟨rfl, hb9⟩) | (go_at_call 25; refine (hull_u _ _ _ _ _ _ _ _ _).mono ?_; rintro e w9 ⟨rfl, hb9⟩) | (go_at_call 21; refine (known_any _).mono ?_; rintro e w9 ⟨rfl, hb9⟩)); all_goals (go_wp2; go_ret; refine ⟨rfl, ?_⟩; (repeat' (first | (with_reducible assumption) | (go_grown; done) | (refine below_trans ?_ (by assumption))))))
      | (have K := blk_two w1 25 25 #[.int .i64 (t + 1), .int .i64 b, .int .i64 c, .int .i64 d] #[.int .i64 a, .int .i64 b, .int .i64 t, .int .i64 d]; have hal : Below w1.heap.size w1 ((w1.alloc (.cells #[.int .i64 (t + 1), .int .i64 b, .int .i64 c, .int .i64 d] 25)).alloc (.cells #[.int .i64 a, .int .i64 b, .int .i64 t, .int .i64 d] 25)) := ((Below.refl _ _).alloc (Nat.le_refl _) _).alloc (by simp) _; replace k00 := cell_later hal k00; replace k01 := cell_later hal k01; replace k02 := cell_later hal k02; replace k03 := cell_later hal k03; replace hB0 := below_trans hB0 hal; clear hz hal; generalize ((w1.alloc (.cells #[.int .i64 (t + 1), .int .i64 b, .int .i64 c, .int .i64 d] 25)).alloc (.cells #[.int .i64 a, .int .i64 b, .int .i64 t, .int .i64 d] 25)) = W2 at *; have p0 := K.2.cell 0; have q0 := K.1.cell 0; have p1 := K.2.cell 1; have q1 := K.1.cell 1; have p2 := K.2.cell 2; have q2 := K.1.cell 2; have p3 := K.2.cell 3; have q3 := K.1.cell 3; simp only [List.getElem?_toArray, List.getElem?_cons_zero, List.getElem?_cons_succ] at p0 q0 p1 q1 p2 q2 p3 q3; clear K; go_region_held3 (fun w' => (w'.cell? ⟨w.heap.size, 0, none⟩ = some (.int .i64 a)) ∧ (w'.cell? ⟨w.heap.size, 1, none⟩ = some (.int .i64 b)) ∧ (w'.cell? ⟨w.heap.size, 2, none⟩ = some (.int .i64 c)) ∧ (w'.cell? ⟨w.heap.size, 3, none⟩ = some (.int .i64 d)) ∧ (w'.cell? ⟨w1.heap.size + 1, 0, none⟩ = some (.int .i64 a)) ∧ (w'.cell? ⟨w1.heap.size + 1, 1, none⟩ = some (.int .i64 b)) ∧ (w'.cell? ⟨w1.heap.size + 1, 2, none⟩ = some (.int .i64 t)) ∧ (w'.cell? ⟨w1.heap.size + 1, 3, none⟩ = some (.int .i64 d)) ∧ (w'.cell? ⟨w1.heap.size, 0, none⟩ = some (.int .i64 (t + 1))) ∧ (w'.cell? ⟨w1.heap.size, 1, none⟩ = some (.int .i64 b)) ∧ (w'.cell? ⟨w1.heap.size, 2, none⟩ = some (.int .i64 c)) ∧ (w'.cell? ⟨w1.heap.size, 3, none⟩ = some (.int .i64 d)) ∧ (Below w.heap.size w w')) (first | (go_split_ands; refine ⟨?_, ?_, ?_, ?_, ?_, ?_, ?_, ?_, ?_, ?_, ?_, ?_, ?_⟩ <;> first | (exact cell_later (by assumption) (by assumption)) | (exact below_then (by assumption) (by assumption)) | (go_grown; done) | go_keep)) (first | (go_at_call 27; refine (area_u _ _ _ _ _).mono ?_; rintro e w9 ⟨rfl, hb9⟩) | (go_at_call 24; refine (meets_u _ _ _ _ _ _ _ _ _).mono ?_; rintro e w9 ⟨rfl, hb9⟩) | (go_at_call 25; refine (hull_u _ _ _ _ _ _ _ _ _).mono ?_; rintro e w9 ⟨rfl, hb9⟩) | (go_at_call 21; refine (known_any _).mono ?_; rintro e w9 ⟨rfl, hb9⟩)); all_goals (go_wp2; go_ret; refine ⟨rfl, ?_⟩; (repeat' (first | (with_reducible assumption) | (go_grown; done) | (refine below_trans ?_ (by assumption))))))
theorem cut_t (a b c d t : Int) (h1 : rightB a b c d = true) (h2 : ¬ t < b) (h3 : ¬ d ≤ t) :
    (areaU (a) (b) (c) (t) + areaU (a) ((t + 1)) (c) (d) == areaU a b c d) = true ∧ IntKind.u64.wrap (areaU (a) (b) (c) (t) + areaU (a) ((t + 1)) (c) (d)) = areaU (a) (b) (c) (t) + areaU (a) ((t + 1)) (c) (d) ∧ okM (a) (b) (c) (t) (a) ((t + 1)) (c) (d) = false ∧ hu0 (a) (b) (c) (t) (a) ((t + 1)) (c) (d) = a ∧ hu1 (a) (b) (c) (t) (a) ((t + 1)) (c) (d) = b ∧ hu2 (a) (b) (c) (t) (a) ((t + 1)) (c) (d) = c ∧ hu3 (a) (b) (c) (t) (a) ((t + 1)) (c) (d) = d := by
  have r := (rightB_iff a b c d).1 h1
  have rA : rightB (a) (b) (c) (t) = true := by rw [rightB_iff]; omega
  have rB : rightB (a) ((t + 1)) (c) (d) = true := by rw [rightB_iff]; omega
  have ok : okH (a) (b) (c) (t) (a) ((t + 1)) (c) (d) = true := by simp [okH, rA, rB]
  have e1 : areaU (a) (b) (c) (t) + areaU (a) ((t + 1)) (c) (d) = areaU a b c d := by
    simp only [areaU, rA, rB, h1, if_true]
    rw [← Int.mul_add]; congr 1; omega
  obtain ⟨m1, m2⟩ := mul_bd (c - a + 1) (d - b + 1) (by omega) (by omega) (by omega) (by omega)
  have e2 : areaU a b c d = (c - a + 1) * (d - b + 1) := by simp only [areaU, h1, if_true]
  refine ⟨beq_iff_eq.2 e1, IntWalk.u64_in _ (by rw [e1, e2]; omega), ?_, ?_, ?_, ?_, ?_⟩
  · rw [Bool.eq_false_iff]
    intro h
    simp only [okM, Bool.and_eq_true] at h
    have := (rightB_iff _ _ _ _).1 h.2.2
    omega
  · simp only [hu0, ok, if_true]; omega
  · simp only [hu1, ok, if_true]; omega
  · simp only [hu2, ok, if_true]; omega
  · simp only [hu3, ok, if_true]; omega
theorem cut_f (a b c d t : Int) (h1 : rightB a b c d = true) (h2 : ¬ t < a) (h3 : ¬ c ≤ t) :
    (areaU (a) (b) (t) (d) + areaU ((t + 1)) (b) (c) (d) == areaU a b c d) = true ∧ IntKind.u64.wrap (areaU (a) (b) (t) (d) + areaU ((t + 1)) (b) (c) (d)) = areaU (a) (b) (t) (d) + areaU ((t + 1)) (b) (c) (d) ∧ okM (a) (b) (t) (d) ((t + 1)) (b) (c) (d) = false ∧ hu0 (a) (b) (t) (d) ((t + 1)) (b) (c) (d) = a ∧ hu1 (a) (b) (t) (d) ((t + 1)) (b) (c) (d) = b ∧ hu2 (a) (b) (t) (d) ((t + 1)) (b) (c) (d) = c ∧ hu3 (a) (b) (t) (d) ((t + 1)) (b) (c) (d) = d := by
  have r := (rightB_iff a b c d).1 h1
  have rA : rightB (a) (b) (t) (d) = true := by rw [rightB_iff]; omega
  have rB : rightB ((t + 1)) (b) (c) (d) = true := by rw [rightB_iff]; omega
  have ok : okH (a) (b) (t) (d) ((t + 1)) (b) (c) (d) = true := by simp [okH, rA, rB]
  have e1 : areaU (a) (b) (t) (d) + areaU ((t + 1)) (b) (c) (d) = areaU a b c d := by
    simp only [areaU, rA, rB, h1, if_true]
    rw [← Int.add_mul]; congr 1; omega
  obtain ⟨m1, m2⟩ := mul_bd (c - a + 1) (d - b + 1) (by omega) (by omega) (by omega) (by omega)
  have e2 : areaU a b c d = (c - a + 1) * (d - b + 1) := by simp only [areaU, h1, if_true]
  refine ⟨beq_iff_eq.2 e1, IntWalk.u64_in _ (by rw [e1, e2]; omega), ?_, ?_, ?_, ?_, ?_⟩
  · rw [Bool.eq_false_iff]
    intro h
    simp only [okM, Bool.and_eq_true] at h
    have := (rightB_iff _ _ _ _).1 h.2.2
    omega
  · simp only [hu0, ok, if_true]; omega
  · simp only [hu1, ok, if_true]; omega
  · simp only [hu2, ok, if_true]; omega
  · simp only [hu3, ok, if_true]; omega
theorem walk (a b c d t : Int) (dn : Bool) (w : World) (_ha : -9223372036854775808 ≤ a ∧ a ≤ 9223372036854775807) (_hb : -9223372036854775808 ≤ b ∧ b ≤ 9223372036854775807) (_hc : -9223372036854775808 ≤ c ∧ c ≤ 9223372036854775807) (_hd : -9223372036854775808 ≤ d ∧ d ≤ 9223372036854775807) (_ht : -9223372036854775808 ≤ t ∧ t ≤ 9223372036854775807) :
    Calls Try.prog 8 #[.agg #[.int .i64 a, .int .i64 b, .int .i64 c, .int .i64 d], .int .i64 t, .bool dn] w fun e w' => e = .returned (.bool true) ∧ Below w.heap.size w w' := by
  rcases bcase (rightB a b c d) with h | h
  · have r := (rightB_iff a b c d).1 h
    cases dn with
    | true =>
      by_cases h2 : t < b
      · exact walk_t1 a b c d t w h h2
      · by_cases h3 : d ≤ t
        · exact walk_t2 a b c d t w h h2 h3
        · obtain ⟨s1, s2, s3, s4, s5, s6, s7⟩ := cut_t a b c d t h h2 h3
          exact walk_t a b c d t w h h2 h3 (by omega) (by omega) s1 s2 s3 s4 s5 s6 s7
    | false =>
      by_cases h2 : t < a
      · exact walk_f1 a b c d t w h h2
      · by_cases h3 : c ≤ t
        · exact walk_f2 a b c d t w h h2 h3
        · obtain ⟨s1, s2, s3, s4, s5, s6, s7⟩ := cut_f a b c d t h h2 h3
          exact walk_f a b c d t w h h2 h3 (by omega) (by omega) s1 s2 s3 s4 s5 s6 s7
  · exact walk_no a b c d t w dn h

theorem own : ownKnob Try.prog.godebug = none := by kernel_rfl
theorem laidOut : laidOutB Try.prog = true := by kernel_rfl
set_option maxRecDepth 100000 in
theorem lifted (os : Os) (started : os.Started) (H : Type) (enc : TypeId × Value → H) :
    ReturnsInHanded {} Try.checked os 8 .any (Rows.geomCutsSpec.pre6 enc Try.prog Try.f8 Rows.geomCutsRow.domain false) (Rows.geomCutsSpec.post enc Try.prog Try.f8 false true false false) := by
  refine returnsInHanded_of_change (C := Try.checked) own started (by kernel_rfl) Try.func8
    (ChangeSpec.witness6 (enc := enc) (C := Try.checked) false ⟨#[], #[.agg #[.int .i64 0, .int .i64 0, .int .i64 0, .int .i64 0], .int .i64 0, .bool false], []⟩ 8 (by kernel_rfl) (by kernel_rfl) (by kernel_rfl) (by kernel_rfl)) ?_
  intro W base args ds gs before hval0 hW hcnd _
  have hval : ∀ (j : Nat) t v, Try.f8.params[j]? = some t → args[j]? = some v → Value.okWide Try.prog W .any base t v := hval0
  have hW' := hW
  obtain ⟨p, q, hA0, hV, rfl, hfz, hnd⟩ := hW
  have hA : DataW.TrodAll enc Try.prog W 0 (fun _ => true) true Try.f8.params.toList args.toList ds p := hA0
  rw [Try.params8] at hA hval
  obtain ⟨v0, vs0, d0, ds0, p0, q0, hargs, rfl, rfl, h0, r0⟩ := trodAll_cons hA
  obtain ⟨v1, vs1, d1, ds1, p1, q1, rfl, rfl, rfl, h1, r1⟩ := trodAll_cons r0
  obtain ⟨v2, vs2, d2, ds2, p2, q2, rfl, rfl, rfl, h2, r2⟩ := trodAll_cons r1
  obtain ⟨rfl, rfl, rfl⟩ := trodAll_nil r2
  obtain rfl : args = #[v0, v1, v2] := by cases args; simp_all
  obtain ⟨rfl, rfl⟩ := trodVars_none hV
  have k0 := h0
  have lt0 : ∀ x ∈ p0, x.block < W.heap.size := by obtain ⟨m, hm⟩ := k0; exact DataW.trod_lt m _ _ _ hm
  obtain ⟨c0_0, c0_1, c0_2, c0_3, y0_0, y0_1, y0_2, y0_3, m0, rfl, rfl, rfl, hy0_0, hy0_1, hy0_2, hy0_3⟩ := Joins.open_agg4 Try.underlying25 (by kernel_rfl) (by kernel_rfl) (hval 0 25 v0 rfl rfl) h0
  obtain ⟨a0_0, e0_0, rfl, w0_0⟩ := DataW.trod_int Try.underlying3 hy0_0
  simp only [List.cons.injEq, and_true] at e0_0
  subst e0_0
  obtain ⟨a0_1, e0_1, rfl, w0_1⟩ := DataW.trod_int Try.underlying3 hy0_1
  simp only [List.cons.injEq, and_true] at e0_1
  subst e0_1
  obtain ⟨a0_2, e0_2, rfl, w0_2⟩ := DataW.trod_int Try.underlying3 hy0_2
  simp only [List.cons.injEq, and_true] at e0_2
  subst e0_2
  obtain ⟨a0_3, e0_3, rfl, w0_3⟩ := DataW.trod_int Try.underlying3 hy0_3
  simp only [List.cons.injEq, and_true] at e0_3
  subst e0_3
  have k1 := h1
  have lt1 : ∀ x ∈ p1, x.block < W.heap.size := by obtain ⟨m, hm⟩ := k1; exact DataW.trod_lt m _ _ _ hm
  obtain ⟨a1, rfl, rfl, rfl, w1⟩ := open_int Try.underlying3 (hval 1 3 v1 rfl rfl) h1
  have k2 := h2
  have lt2 : ∀ x ∈ p2, x.block < W.heap.size := by obtain ⟨m, hm⟩ := k2; exact DataW.trod_lt m _ _ _ hm
  obtain ⟨a2, rfl, rfl, rfl⟩ := open_bool Try.underlying4 (hval 2 4 v2 rfl rfl) h2
  clear hA0 hval0
  refine (walk a0_0 a0_1 a0_2 a0_3 a1 a2 W (bounds_i64 w0_0) (bounds_i64 w0_1) (bounds_i64 w0_2) (bounds_i64 w0_3) (bounds_i64 w1)).mono fun e W' ⟨he, bel⟩ => ?_
  subst he
  exact ⟨_, rfl, _, _, _, [], _, [], hW', trodAll_mk1 (shut_bool Try.underlying4 _), (trodAll_cons_mk (Below.trod laidOut (by kernel_rfl) (of_decide_eq_true (by kernel_rfl)) k0 bel lt0) (trodAll_cons_mk (Below.trod laidOut (by kernel_rfl) (of_decide_eq_true (by kernel_rfl)) k1 bel lt1) (trodAll_cons_mk (Below.trod laidOut (by kernel_rfl) (of_decide_eq_true (by kernel_rfl)) k2 bel lt2) trodAll_mk0))), rfl, bel.frame _, fun h => by cases h⟩
theorem over : Rows.geomCutsRow.holds Try.pinned (OpenSpec.ofChange Rows.geomCutsSpec) :=
  OpenClaim.holds_of_wide 8 Try.f8 rfl rfl rfl rfl rfl rfl rfl ⟨rfl, rfl, rfl, rfl, rfl⟩ rfl rfl rfl rfl rfl (by kernel_rfl) Try.func8 (by kernel_rfl)
    (of_decide_eq_true (by kernel_rfl)) (by unfold Func.isWrapper; first | (rw [if_pos (by decide +kernel)]; kernel_rfl) | (rw [if_neg (by decide +kernel)]; exact ⟨rfl, rfl⟩))
    (fun os started H enc _ => lifted os started H enc)
/-- The statement. -/
theorem proved : Rows.GeomCutsSaid := over
#print axioms proved
end Go.Proofs.Ytichfgpmcamhmaa.geomCuts
