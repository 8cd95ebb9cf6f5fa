/- token: Narrower of any two grants, the document's Right, by contract. -/
import Derived.Test.YtjpjkoipmmcigaaTo25
import Derived.Test.YtjpjkoipmmcigaaTo15
import Derived.Test.YtjpjkoipmmcigaaToH
import Derived.Deep.RegionHeld3
namespace Go.Proofs.Ytjpjkoipmmcigaa
set_option linter.unusedVariables false
set_option linter.unusedSimpArgs false
open Go.RowKit
def narB (a b : Gt) : Bool := rightG a && rightG b && decide (meetC a b = a)
theorem nar_of {a b : Gt} (ha : Rt a) (hb : Rt b) (h : meetG a b = a) : narB a b = true := by
  rw [narB, (rt_iff a).2 ha, (rt_iff b).2 hb, meetC_rt ha hb, h]; simp
set_option maxHeartbeats 2000000 in
theorem rrightT_any (g : Gt) (w : World) :
    Calls Try.prog 26 #[g.V] w fun e w' => e = .returned (.bool (rightG g)) ∧ Below w.heap.size w w' := by
  obtain ⟨ops, zoom, x0, y0, x1, y1, void, til⟩ := g
  simp only [Gt.V]
  cases void with
  | true =>
    go_enter Try.func26, Try.ntmps26
    go_wp2
    all_goals
      go_ret
      refine ⟨ret_bool ?_, by go_grown⟩
      rw [Bool.eq_iff_iff]
      simp [rightG, numsB] at *
      omega
  | false =>
    go_enter Try.func26, Try.ntmps26
    go_wp2_with (go_at_call 44; refine (ref_right _ _ _ _ _).mono ?_; rintro e w1 ⟨rfl, hb⟩)
    all_goals
      go_ret
      refine ⟨ret_bool ?_, by first | (go_grown; done) | exact below_trans (by go_grown) hb⟩
      rw [Bool.eq_iff_iff]
      simp [rightG, numsB] at *
      omega
theorem rrightT_lit (g : Gt) (b : Bool) (h : rightG g = b) : Hid (∀ w, Calls Try.prog 26 #[g.V] w fun e w' => e = .returned (.bool b) ∧ Below w.heap.size w w') := by
  subst h; exact fun w => rrightT_any g w
set_option maxRecDepth 100000 in
set_option maxHeartbeats 8000000 in
theorem nar_self (a0 a1 a2 a3 a4 a5 : Int) (a6 : Bool) (a7 : Int) (b0 b1 b2 b3 b4 b5 : Int) (b6 : Bool) (b7 : Int) (HA : Hid (∀ w, Calls Try.prog 25 #[.agg #[.int .i64 a0, .int .i64 a1, .int .i64 a2, .int .i64 a3, .int .i64 a4, .int .i64 a5, .bool a6, .int .i64 a7]] w fun e w' => e = .returned (.bool true) ∧ Below w.heap.size w w')) (HB : Hid (∀ w, Calls Try.prog 25 #[.agg #[.int .i64 b0, .int .i64 b1, .int .i64 b2, .int .i64 b3, .int .i64 b4, .int .i64 b5, .bool b6, .int .i64 b7]] w fun e w' => e = .returned (.bool true) ∧ Below w.heap.size w w')) (HM : Hid (∀ w, Calls Try.prog 24 #[.agg #[.int .i64 a0, .int .i64 a1, .int .i64 a2, .int .i64 a3, .int .i64 a4, .int .i64 a5, .bool a6, .int .i64 a7], .agg #[.int .i64 b0, .int .i64 b1, .int .i64 b2, .int .i64 b3, .int .i64 b4, .int .i64 b5, .bool b6, .int .i64 b7]] w fun e w' => e = .returned (.agg #[.int .i64 a0, .int .i64 a1, .int .i64 a2, .int .i64 a3, .int .i64 a4, .int .i64 a5, .bool a6, .int .i64 a7]) ∧ Below w.heap.size w w')) (w : World) :
    Calls Try.prog 27 #[.agg #[.int .i64 a0, .int .i64 a1, .int .i64 a2, .int .i64 a3, .int .i64 a4, .int .i64 a5, .bool a6, .int .i64 a7], .agg #[.int .i64 b0, .int .i64 b1, .int .i64 b2, .int .i64 b3, .int .i64 b4, .int .i64 b5, .bool b6, .int .i64 b7]] w fun e w' => e = .returned (.bool true) ∧ Below w.heap.size w w' := by
  go_enter Try.func27, Try.ntmps27
  go_upto_region 1 with fail
  have A0 : Blk ((w.alloc (.cells #[.int .i64 a0, .int .i64 a1, .int .i64 a2, .int .i64 a3, .int .i64 a4, .int .i64 a5, .bool a6, .int .i64 a7] 30)).alloc (.cells #[.int .i64 b0, .int .i64 b1, .int .i64 b2, .int .i64 b3, .int .i64 b4, .int .i64 b5, .bool b6, .int .i64 b7] 30)) w.heap.size 30 #[.int .i64 a0, .int .i64 a1, .int .i64 a2, .int .i64 a3, .int .i64 a4, .int .i64 a5, .bool a6, .int .i64 a7] := (Blk.newAt rfl).alloc _
  have B0 : Blk ((w.alloc (.cells #[.int .i64 a0, .int .i64 a1, .int .i64 a2, .int .i64 a3, .int .i64 a4, .int .i64 a5, .bool a6, .int .i64 a7] 30)).alloc (.cells #[.int .i64 b0, .int .i64 b1, .int .i64 b2, .int .i64 b3, .int .i64 b4, .int .i64 b5, .bool b6, .int .i64 b7] 30)) (w.heap.size + 1) 30 #[.int .i64 b0, .int .i64 b1, .int .i64 b2, .int .i64 b3, .int .i64 b4, .int .i64 b5, .bool b6, .int .i64 b7] := Blk.newAt (by simp)
  have hB0 : Below w.heap.size w ((w.alloc (.cells #[.int .i64 a0, .int .i64 a1, .int .i64 a2, .int .i64 a3, .int .i64 a4, .int .i64 a5, .bool a6, .int .i64 a7] 30)).alloc (.cells #[.int .i64 b0, .int .i64 b1, .int .i64 b2, .int .i64 b3, .int .i64 b4, .int .i64 b5, .bool b6, .int .i64 b7] 30)) := by go_grown
  generalize ((w.alloc (.cells #[.int .i64 a0, .int .i64 a1, .int .i64 a2, .int .i64 a3, .int .i64 a4, .int .i64 a5, .bool a6, .int .i64 a7] 30)).alloc (.cells #[.int .i64 b0, .int .i64 b1, .int .i64 b2, .int .i64 b3, .int .i64 b4, .int .i64 b5, .bool b6, .int .i64 b7] 30)) = w0 at *
  have x0 := A0.cell 0
  have x1 := A0.cell 1
  have x2 := A0.cell 2
  have x3 := A0.cell 3
  have x4 := A0.cell 4
  have x5 := A0.cell 5
  have x6 := A0.cell 6
  have x7 := A0.cell 7
  simp only [List.getElem?_toArray, List.getElem?_cons_zero, List.getElem?_cons_succ] at x0 x1 x2 x3 x4 x5 x6 x7
  have y0 := B0.cell 0
  have y1 := B0.cell 1
  have y2 := B0.cell 2
  have y3 := B0.cell 3
  have y4 := B0.cell 4
  have y5 := B0.cell 5
  have y6 := B0.cell 6
  have y7 := B0.cell 7
  simp only [List.getElem?_toArray, List.getElem?_cons_zero, List.getElem?_cons_succ] at y0 y1 y2 y3 y4 y5 y6 y7
  have zA := A0.lt
  have zB := B0.lt
  have e0 : (a0 == a0) = true := by simp
  have e1 : (a1 == a1) = true := by simp
  have e2 : (a2 == a2) = true := by simp
  have e3 : (a3 == a3) = true := by simp
  have e4 : (a4 == a4) = true := by simp
  have e5 : (a5 == a5) = true := by simp
  have e6 : (a6 == a6) = true := by simp
  have e7 : (a7 == a7) = true := by simp
  go_region_held3 (fun w' => (w'.cell? ⟨w.heap.size, 0, none⟩ = some (.int .i64 a0)) ∧ (w'.cell? ⟨w.heap.size, 1, none⟩ = some (.int .i64 a1)) ∧ (w'.cell? ⟨w.heap.size, 2, none⟩ = some (.int .i64 a2)) ∧ (w'.cell? ⟨w.heap.size, 3, none⟩ = some (.int .i64 a3)) ∧ (w'.cell? ⟨w.heap.size, 4, none⟩ = some (.int .i64 a4)) ∧ (w'.cell? ⟨w.heap.size, 5, none⟩ = some (.int .i64 a5)) ∧ (w'.cell? ⟨w.heap.size, 6, none⟩ = some (.bool a6)) ∧ (w'.cell? ⟨w.heap.size, 7, none⟩ = some (.int .i64 a7)) ∧ (w'.cell? ⟨w.heap.size + 1, 0, none⟩ = some (.int .i64 b0)) ∧ (w'.cell? ⟨w.heap.size + 1, 1, none⟩ = some (.int .i64 b1)) ∧ (w'.cell? ⟨w.heap.size + 1, 2, none⟩ = some (.int .i64 b2)) ∧ (w'.cell? ⟨w.heap.size + 1, 3, none⟩ = some (.int .i64 b3)) ∧ (w'.cell? ⟨w.heap.size + 1, 4, none⟩ = some (.int .i64 b4)) ∧ (w'.cell? ⟨w.heap.size + 1, 5, none⟩ = some (.int .i64 b5)) ∧ (w'.cell? ⟨w.heap.size + 1, 6, none⟩ = some (.bool b6)) ∧ (w'.cell? ⟨w.heap.size + 1, 7, none⟩ = some (.int .i64 b7)) ∧ (Below w.heap.size w w')) (first | (go_split_ands; refine ⟨?_, ?_, ?_, ?_, ?_, ?_, ?_, ?_, ?_, ?_, ?_, ?_, ?_, ?_, ?_, ?_, ?_⟩ <;> first | (exact cell_later (by assumption) (by assumption)) | (exact below_then (by assumption) (by assumption)) | (go_grown; done) | go_keep)) (first | (go_at_call 24; refine (HM.out _).mono ?_; rintro e w9 ⟨rfl, hb9⟩) | (go_at_call 25; first | (with_reducible refine (HA.out _).mono ?_; rintro e w9 ⟨rfl, hb9⟩) | (with_reducible refine (HB.out _).mono ?_; rintro e w9 ⟨rfl, hb9⟩)))
  all_goals
    go_split_ands
    go_wp2
    go_ret
    exact ⟨rfl, by assumption⟩
theorem nar_yes (a b : Gt) (ha : Rt a) (hb : Rt b) (h : narB a b = true) (w : World) :
    Calls Try.prog 27 #[a.V, b.V] w fun e w' => e = .returned (.bool true) ∧ Below w.heap.size w w' := by
  have m : meetC a b = a := by
    rw [narB, Bool.and_eq_true] at h
    exact of_decide_eq_true h.2
  have HM : Hid (∀ w, Calls Try.prog 24 #[a.V, b.V] w fun e w' => e = .returned a.V ∧ Below w.heap.size w w') := fun w => by
    have h9 := tmeet_any a b w
    rw [m] at h9
    exact h9
  have HA := rightT_lit a true ((rt_iff a).2 ha)
  have HB := rightT_lit b true ((rt_iff b).2 hb)
  clear h m ha hb
  obtain ⟨a0, a1, a2, a3, a4, a5, a6, a7⟩ := a
  obtain ⟨b0, b1, b2, b3, b4, b5, b6, b7⟩ := b
  exact nar_self _ _ _ _ _ _ _ _ _ _ _ _ _ _ _ _ HA HB HM w
theorem bdrewN {w w' : World} (h : Below w.drew.heap.size w.drew w') : Below w.heap.size w w' := ⟨h.os, h.tape, h.output, h.size, h.block⟩
set_option maxRecDepth 100000 in
set_option maxHeartbeats 8000000 in
theorem nar_no1 (a0 a1 a2 a3 a4 a5 : Int) (a6 : Bool) (a7 : Int) (b0 b1 b2 b3 b4 b5 : Int) (b6 : Bool) (b7 : Int) (HA : Hid (∀ w, Calls Try.prog 25 #[.agg #[.int .i64 a0, .int .i64 a1, .int .i64 a2, .int .i64 a3, .int .i64 a4, .int .i64 a5, .bool a6, .int .i64 a7]] w fun e w' => e = .returned (.bool false) ∧ Below w.heap.size w w')) (w : World) :
    Calls Try.prog 27 #[.agg #[.int .i64 a0, .int .i64 a1, .int .i64 a2, .int .i64 a3, .int .i64 a4, .int .i64 a5, .bool a6, .int .i64 a7], .agg #[.int .i64 b0, .int .i64 b1, .int .i64 b2, .int .i64 b3, .int .i64 b4, .int .i64 b5, .bool b6, .int .i64 b7]] w fun e w' => e = .returned (.bool false) ∧ Below w.heap.size w w' := by
  go_enter Try.func27, Try.ntmps27
  go_upto_region 1 with fail
  have A0 : Blk ((w.alloc (.cells #[.int .i64 a0, .int .i64 a1, .int .i64 a2, .int .i64 a3, .int .i64 a4, .int .i64 a5, .bool a6, .int .i64 a7] 30)).alloc (.cells #[.int .i64 b0, .int .i64 b1, .int .i64 b2, .int .i64 b3, .int .i64 b4, .int .i64 b5, .bool b6, .int .i64 b7] 30)) w.heap.size 30 #[.int .i64 a0, .int .i64 a1, .int .i64 a2, .int .i64 a3, .int .i64 a4, .int .i64 a5, .bool a6, .int .i64 a7] := (Blk.newAt rfl).alloc _
  have B0 : Blk ((w.alloc (.cells #[.int .i64 a0, .int .i64 a1, .int .i64 a2, .int .i64 a3, .int .i64 a4, .int .i64 a5, .bool a6, .int .i64 a7] 30)).alloc (.cells #[.int .i64 b0, .int .i64 b1, .int .i64 b2, .int .i64 b3, .int .i64 b4, .int .i64 b5, .bool b6, .int .i64 b7] 30)) (w.heap.size + 1) 30 #[.int .i64 b0, .int .i64 b1, .int .i64 b2, .int .i64 b3, .int .i64 b4, .int .i64 b5, .bool b6, .int .i64 b7] := Blk.newAt (by simp)
  have hB0 : Below w.heap.size w ((w.alloc (.cells #[.int .i64 a0, .int .i64 a1, .int .i64 a2, .int .i64 a3, .int .i64 a4, .int .i64 a5, .bool a6, .int .i64 a7] 30)).alloc (.cells #[.int .i64 b0, .int .i64 b1, .int .i64 b2, .int .i64 b3, .int .i64 b4, .int .i64 b5, .bool b6, .int .i64 b7] 30)) := by go_grown
  generalize ((w.alloc (.cells #[.int .i64 a0, .int .i64 a1, .int .i64 a2, .int .i64 a3, .int .i64 a4, .int .i64 a5, .bool a6, .int .i64 a7] 30)).alloc (.cells #[.int .i64 b0, .int .i64 b1, .int .i64 b2, .int .i64 b3, .int .i64 b4, .int .i64 b5, .bool b6, .int .i64 b7] 30)) = w0 at *
  have x0 := A0.cell 0
  have x1 := A0.cell 1
  have x2 := A0.cell 2
  have x3 := A0.cell 3
  have x4 := A0.cell 4
  have x5 := A0.cell 5
  have x6 := A0.cell 6
  have x7 := A0.cell 7
  simp only [List.getElem?_toArray, List.getElem?_cons_zero, List.getElem?_cons_succ] at x0 x1 x2 x3 x4 x5 x6 x7
  have y0 := B0.cell 0
  have y1 := B0.cell 1
  have y2 := B0.cell 2
  have y3 := B0.cell 3
  have y4 := B0.cell 4
  have y5 := B0.cell 5
  have y6 := B0.cell 6
  have y7 := B0.cell 7
  simp only [List.getElem?_toArray, List.getElem?_cons_zero, List.getElem?_cons_succ] at y0 y1 y2 y3 y4 y5 y6 y7
  have zA := A0.lt
  have zB := B0.lt
  go_region_with (go_at_call 25; refine (HA.out _).mono ?_; rintro e w1 ⟨rfl, hb1⟩; have A1 := Blk.thru0 (by first | exact A0 | exact A0.drew) hb1; have B1 := Blk.thru0 (by first | exact B0 | exact B0.drew) hb1; have x10 := A1.cell 0; have x11 := A1.cell 1; have x12 := A1.cell 2; have x13 := A1.cell 3; have x14 := A1.cell 4; have x15 := A1.cell 5; have x16 := A1.cell 6; have x17 := A1.cell 7; simp only [List.getElem?_toArray, List.getElem?_cons_zero, List.getElem?_cons_succ] at x10 x11 x12 x13 x14 x15 x16 x17; have y10 := B1.cell 0; have y11 := B1.cell 1; have y12 := B1.cell 2; have y13 := B1.cell 3; have y14 := B1.cell 4; have y15 := B1.cell 5; have y16 := B1.cell 6; have y17 := B1.cell 7; simp only [List.getElem?_toArray, List.getElem?_cons_zero, List.getElem?_cons_succ] at y10 y11 y12 y13 y14 y15 y16 y17)
  all_goals
    go_wp2
    go_ret
    exact ⟨rfl, by first | exact below_trans hB0 hb1 | exact below_trans hB0 (bdrewN hb1)⟩
set_option maxRecDepth 100000 in
set_option maxHeartbeats 8000000 in
theorem nar_no2 (a0 a1 a2 a3 a4 a5 : Int) (a6 : Bool) (a7 : Int) (b0 b1 b2 b3 b4 b5 : Int) (b6 : Bool) (b7 : Int) (HA : Hid (∀ w, Calls Try.prog 25 #[.agg #[.int .i64 a0, .int .i64 a1, .int .i64 a2, .int .i64 a3, .int .i64 a4, .int .i64 a5, .bool a6, .int .i64 a7]] w fun e w' => e = .returned (.bool true) ∧ Below w.heap.size w w')) (HB : Hid (∀ w, Calls Try.prog 25 #[.agg #[.int .i64 b0, .int .i64 b1, .int .i64 b2, .int .i64 b3, .int .i64 b4, .int .i64 b5, .bool b6, .int .i64 b7]] w fun e w' => e = .returned (.bool false) ∧ Below w.heap.size w w')) (w : World) :
    Calls Try.prog 27 #[.agg #[.int .i64 a0, .int .i64 a1, .int .i64 a2, .int .i64 a3, .int .i64 a4, .int .i64 a5, .bool a6, .int .i64 a7], .agg #[.int .i64 b0, .int .i64 b1, .int .i64 b2, .int .i64 b3, .int .i64 b4, .int .i64 b5, .bool b6, .int .i64 b7]] w fun e w' => e = .returned (.bool false) ∧ Below w.heap.size w w' := by
  go_enter Try.func27, Try.ntmps27
  go_upto_region 1 with fail
  have A0 : Blk ((w.alloc (.cells #[.int .i64 a0, .int .i64 a1, .int .i64 a2, .int .i64 a3, .int .i64 a4, .int .i64 a5, .bool a6, .int .i64 a7] 30)).alloc (.cells #[.int .i64 b0, .int .i64 b1, .int .i64 b2, .int .i64 b3, .int .i64 b4, .int .i64 b5, .bool b6, .int .i64 b7] 30)) w.heap.size 30 #[.int .i64 a0, .int .i64 a1, .int .i64 a2, .int .i64 a3, .int .i64 a4, .int .i64 a5, .bool a6, .int .i64 a7] := (Blk.newAt rfl).alloc _
  have B0 : Blk ((w.alloc (.cells #[.int .i64 a0, .int .i64 a1, .int .i64 a2, .int .i64 a3, .int .i64 a4, .int .i64 a5, .bool a6, .int .i64 a7] 30)).alloc (.cells #[.int .i64 b0, .int .i64 b1, .int .i64 b2, .int .i64 b3, .int .i64 b4, .int .i64 b5, .bool b6, .int .i64 b7] 30)) (w.heap.size + 1) 30 #[.int .i64 b0, .int .i64 b1, .int .i64 b2, .int .i64 b3, .int .i64 b4, .int .i64 b5, .bool b6, .int .i64 b7] := Blk.newAt (by simp)
  have hB0 : Below w.heap.size w ((w.alloc (.cells #[.int .i64 a0, .int .i64 a1, .int .i64 a2, .int .i64 a3, .int .i64 a4, .int .i64 a5, .bool a6, .int .i64 a7] 30)).alloc (.cells #[.int .i64 b0, .int .i64 b1, .int .i64 b2, .int .i64 b3, .int .i64 b4, .int .i64 b5, .bool b6, .int .i64 b7] 30)) := by go_grown
  generalize ((w.alloc (.cells #[.int .i64 a0, .int .i64 a1, .int .i64 a2, .int .i64 a3, .int .i64 a4, .int .i64 a5, .bool a6, .int .i64 a7] 30)).alloc (.cells #[.int .i64 b0, .int .i64 b1, .int .i64 b2, .int .i64 b3, .int .i64 b4, .int .i64 b5, .bool b6, .int .i64 b7] 30)) = w0 at *
  have x0 := A0.cell 0
  have x1 := A0.cell 1
  have x2 := A0.cell 2
  have x3 := A0.cell 3
  have x4 := A0.cell 4
  have x5 := A0.cell 5
  have x6 := A0.cell 6
  have x7 := A0.cell 7
  simp only [List.getElem?_toArray, List.getElem?_cons_zero, List.getElem?_cons_succ] at x0 x1 x2 x3 x4 x5 x6 x7
  have y0 := B0.cell 0
  have y1 := B0.cell 1
  have y2 := B0.cell 2
  have y3 := B0.cell 3
  have y4 := B0.cell 4
  have y5 := B0.cell 5
  have y6 := B0.cell 6
  have y7 := B0.cell 7
  simp only [List.getElem?_toArray, List.getElem?_cons_zero, List.getElem?_cons_succ] at y0 y1 y2 y3 y4 y5 y6 y7
  have zA := A0.lt
  have zB := B0.lt
  go_region_with (first | (go_at_call 25; with_reducible refine (HA.out _).mono ?_; rintro e w1 ⟨rfl, hb1⟩; have A1 := Blk.thru0 (by first | exact A0 | exact A0.drew) hb1; have B1 := Blk.thru0 (by first | exact B0 | exact B0.drew) hb1; have x10 := A1.cell 0; have x11 := A1.cell 1; have x12 := A1.cell 2; have x13 := A1.cell 3; have x14 := A1.cell 4; have x15 := A1.cell 5; have x16 := A1.cell 6; have x17 := A1.cell 7; simp only [List.getElem?_toArray, List.getElem?_cons_zero, List.getElem?_cons_succ] at x10 x11 x12 x13 x14 x15 x16 x17; have y10 := B1.cell 0; have y11 := B1.cell 1; have y12 := B1.cell 2; have y13 := B1.cell 3; have y14 := B1.cell 4; have y15 := B1.cell 5; have y16 := B1.cell 6; have y17 := B1.cell 7; simp only [List.getElem?_toArray, List.getElem?_cons_zero, List.getElem?_cons_succ] at y10 y11 y12 y13 y14 y15 y16 y17) | (go_at_call 25; with_reducible refine (HB.out _).mono ?_; rintro e w2 ⟨rfl, hb2⟩))
  all_goals
    go_wp2
    go_ret
    exact ⟨rfl, by first | exact below_trans hB0 (below_trans hb1 hb2) | exact below_trans hB0 (below_trans (bdrewN hb1) hb2) | exact below_trans hB0 (below_trans (bdrewN hb1) (bdrewN hb2)) | exact below_trans hB0 (below_trans hb1 (bdrewN hb2))⟩
set_option maxRecDepth 100000 in
set_option maxHeartbeats 8000000 in
theorem nar_d0 (a0 a1 a2 a3 a4 a5 : Int) (a6 : Bool) (a7 : Int) (b0 b1 b2 b3 b4 b5 : Int) (b6 : Bool) (b7 : Int) (m0 : Int) (m1 : Int) (m2 : Int) (m3 : Int) (m4 : Int) (m5 : Int) (m6 : Bool) (m7 : Int) (HA : Hid (∀ w, Calls Try.prog 25 #[.agg #[.int .i64 a0, .int .i64 a1, .int .i64 a2, .int .i64 a3, .int .i64 a4, .int .i64 a5, .bool a6, .int .i64 a7]] w fun e w' => e = .returned (.bool true) ∧ Below w.heap.size w w')) (HB : Hid (∀ w, Calls Try.prog 25 #[.agg #[.int .i64 b0, .int .i64 b1, .int .i64 b2, .int .i64 b3, .int .i64 b4, .int .i64 b5, .bool b6, .int .i64 b7]] w fun e w' => e = .returned (.bool true) ∧ Below w.heap.size w w')) (HM : Hid (∀ w, Calls Try.prog 24 #[.agg #[.int .i64 a0, .int .i64 a1, .int .i64 a2, .int .i64 a3, .int .i64 a4, .int .i64 a5, .bool a6, .int .i64 a7], .agg #[.int .i64 b0, .int .i64 b1, .int .i64 b2, .int .i64 b3, .int .i64 b4, .int .i64 b5, .bool b6, .int .i64 b7]] w fun e w' => e = .returned (.agg #[.int .i64 m0, .int .i64 m1, .int .i64 m2, .int .i64 m3, .int .i64 m4, .int .i64 m5, .bool m6, .int .i64 m7]) ∧ Below w.heap.size w w')) (hk : (m0 == a0) = false) (w : World) :
    Calls Try.prog 27 #[.agg #[.int .i64 a0, .int .i64 a1, .int .i64 a2, .int .i64 a3, .int .i64 a4, .int .i64 a5, .bool a6, .int .i64 a7], .agg #[.int .i64 b0, .int .i64 b1, .int .i64 b2, .int .i64 b3, .int .i64 b4, .int .i64 b5, .bool b6, .int .i64 b7]] w fun e w' => e = .returned (.bool false) ∧ Below w.heap.size w w' := by
  go_enter Try.func27, Try.ntmps27
  go_upto_region 1 with fail
  have A0 : Blk ((w.alloc (.cells #[.int .i64 a0, .int .i64 a1, .int .i64 a2, .int .i64 a3, .int .i64 a4, .int .i64 a5, .bool a6, .int .i64 a7] 30)).alloc (.cells #[.int .i64 b0, .int .i64 b1, .int .i64 b2, .int .i64 b3, .int .i64 b4, .int .i64 b5, .bool b6, .int .i64 b7] 30)) w.heap.size 30 #[.int .i64 a0, .int .i64 a1, .int .i64 a2, .int .i64 a3, .int .i64 a4, .int .i64 a5, .bool a6, .int .i64 a7] := (Blk.newAt rfl).alloc _
  have B0 : Blk ((w.alloc (.cells #[.int .i64 a0, .int .i64 a1, .int .i64 a2, .int .i64 a3, .int .i64 a4, .int .i64 a5, .bool a6, .int .i64 a7] 30)).alloc (.cells #[.int .i64 b0, .int .i64 b1, .int .i64 b2, .int .i64 b3, .int .i64 b4, .int .i64 b5, .bool b6, .int .i64 b7] 30)) (w.heap.size + 1) 30 #[.int .i64 b0, .int .i64 b1, .int .i64 b2, .int .i64 b3, .int .i64 b4, .int .i64 b5, .bool b6, .int .i64 b7] := Blk.newAt (by simp)
  have hB0 : Below w.heap.size w ((w.alloc (.cells #[.int .i64 a0, .int .i64 a1, .int .i64 a2, .int .i64 a3, .int .i64 a4, .int .i64 a5, .bool a6, .int .i64 a7] 30)).alloc (.cells #[.int .i64 b0, .int .i64 b1, .int .i64 b2, .int .i64 b3, .int .i64 b4, .int .i64 b5, .bool b6, .int .i64 b7] 30)) := by go_grown
  generalize ((w.alloc (.cells #[.int .i64 a0, .int .i64 a1, .int .i64 a2, .int .i64 a3, .int .i64 a4, .int .i64 a5, .bool a6, .int .i64 a7] 30)).alloc (.cells #[.int .i64 b0, .int .i64 b1, .int .i64 b2, .int .i64 b3, .int .i64 b4, .int .i64 b5, .bool b6, .int .i64 b7] 30)) = w0 at *
  have x0 := A0.cell 0
  have x1 := A0.cell 1
  have x2 := A0.cell 2
  have x3 := A0.cell 3
  have x4 := A0.cell 4
  have x5 := A0.cell 5
  have x6 := A0.cell 6
  have x7 := A0.cell 7
  simp only [List.getElem?_toArray, List.getElem?_cons_zero, List.getElem?_cons_succ] at x0 x1 x2 x3 x4 x5 x6 x7
  have y0 := B0.cell 0
  have y1 := B0.cell 1
  have y2 := B0.cell 2
  have y3 := B0.cell 3
  have y4 := B0.cell 4
  have y5 := B0.cell 5
  have y6 := B0.cell 6
  have y7 := B0.cell 7
  simp only [List.getElem?_toArray, List.getElem?_cons_zero, List.getElem?_cons_succ] at y0 y1 y2 y3 y4 y5 y6 y7
  have zA := A0.lt
  have zB := B0.lt
  go_region_held3 (fun w' => (w'.cell? ⟨w.heap.size, 0, none⟩ = some (.int .i64 a0)) ∧ (w'.cell? ⟨w.heap.size, 1, none⟩ = some (.int .i64 a1)) ∧ (w'.cell? ⟨w.heap.size, 2, none⟩ = some (.int .i64 a2)) ∧ (w'.cell? ⟨w.heap.size, 3, none⟩ = some (.int .i64 a3)) ∧ (w'.cell? ⟨w.heap.size, 4, none⟩ = some (.int .i64 a4)) ∧ (w'.cell? ⟨w.heap.size, 5, none⟩ = some (.int .i64 a5)) ∧ (w'.cell? ⟨w.heap.size, 6, none⟩ = some (.bool a6)) ∧ (w'.cell? ⟨w.heap.size, 7, none⟩ = some (.int .i64 a7)) ∧ (w'.cell? ⟨w.heap.size + 1, 0, none⟩ = some (.int .i64 b0)) ∧ (w'.cell? ⟨w.heap.size + 1, 1, none⟩ = some (.int .i64 b1)) ∧ (w'.cell? ⟨w.heap.size + 1, 2, none⟩ = some (.int .i64 b2)) ∧ (w'.cell? ⟨w.heap.size + 1, 3, none⟩ = some (.int .i64 b3)) ∧ (w'.cell? ⟨w.heap.size + 1, 4, none⟩ = some (.int .i64 b4)) ∧ (w'.cell? ⟨w.heap.size + 1, 5, none⟩ = some (.int .i64 b5)) ∧ (w'.cell? ⟨w.heap.size + 1, 6, none⟩ = some (.bool b6)) ∧ (w'.cell? ⟨w.heap.size + 1, 7, none⟩ = some (.int .i64 b7)) ∧ (Below w.heap.size w w')) (first | (go_split_ands; refine ⟨?_, ?_, ?_, ?_, ?_, ?_, ?_, ?_, ?_, ?_, ?_, ?_, ?_, ?_, ?_, ?_, ?_⟩ <;> first | (exact cell_later (by assumption) (by assumption)) | (exact below_then (by assumption) (by assumption)) | (go_grown; done) | go_keep)) (first | (go_at_call 24; refine (HM.out _).mono ?_; rintro e w9 ⟨rfl, hb9⟩) | (go_at_call 25; first | (with_reducible refine (HA.out _).mono ?_; rintro e w9 ⟨rfl, hb9⟩) | (with_reducible refine (HB.out _).mono ?_; rintro e w9 ⟨rfl, hb9⟩)))
  all_goals
    go_split_ands
    go_wp2
    go_ret
    exact ⟨rfl, by assumption⟩
set_option maxRecDepth 100000 in
set_option maxHeartbeats 8000000 in
theorem nar_d1 (a0 a1 a2 a3 a4 a5 : Int) (a6 : Bool) (a7 : Int) (b0 b1 b2 b3 b4 b5 : Int) (b6 : Bool) (b7 : Int) (m1 : Int) (m2 : Int) (m3 : Int) (m4 : Int) (m5 : Int) (m6 : Bool) (m7 : Int) (HA : Hid (∀ w, Calls Try.prog 25 #[.agg #[.int .i64 a0, .int .i64 a1, .int .i64 a2, .int .i64 a3, .int .i64 a4, .int .i64 a5, .bool a6, .int .i64 a7]] w fun e w' => e = .returned (.bool true) ∧ Below w.heap.size w w')) (HB : Hid (∀ w, Calls Try.prog 25 #[.agg #[.int .i64 b0, .int .i64 b1, .int .i64 b2, .int .i64 b3, .int .i64 b4, .int .i64 b5, .bool b6, .int .i64 b7]] w fun e w' => e = .returned (.bool true) ∧ Below w.heap.size w w')) (HM : Hid (∀ w, Calls Try.prog 24 #[.agg #[.int .i64 a0, .int .i64 a1, .int .i64 a2, .int .i64 a3, .int .i64 a4, .int .i64 a5, .bool a6, .int .i64 a7], .agg #[.int .i64 b0, .int .i64 b1, .int .i64 b2, .int .i64 b3, .int .i64 b4, .int .i64 b5, .bool b6, .int .i64 b7]] w fun e w' => e = .returned (.agg #[.int .i64 a0, .int .i64 m1, .int .i64 m2, .int .i64 m3, .int .i64 m4, .int .i64 m5, .bool m6, .int .i64 m7]) ∧ Below w.heap.size w w')) (hk : (m1 == a1) = false) (w : World) :
    Calls Try.prog 27 #[.agg #[.int .i64 a0, .int .i64 a1, .int .i64 a2, .int .i64 a3, .int .i64 a4, .int .i64 a5, .bool a6, .int .i64 a7], .agg #[.int .i64 b0, .int .i64 b1, .int .i64 b2, .int .i64 b3, .int .i64 b4, .int .i64 b5, .bool b6, .int .i64 b7]] w fun e w' => e = .returned (.bool false) ∧ Below w.heap.size w w' := by
  go_enter Try.func27, Try.ntmps27
  go_upto_region 1 with fail
  have A0 : Blk ((w.alloc (.cells #[.int .i64 a0, .int .i64 a1, .int .i64 a2, .int .i64 a3, .int .i64 a4, .int .i64 a5, .bool a6, .int .i64 a7] 30)).alloc (.cells #[.int .i64 b0, .int .i64 b1, .int .i64 b2, .int .i64 b3, .int .i64 b4, .int .i64 b5, .bool b6, .int .i64 b7] 30)) w.heap.size 30 #[.int .i64 a0, .int .i64 a1, .int .i64 a2, .int .i64 a3, .int .i64 a4, .int .i64 a5, .bool a6, .int .i64 a7] := (Blk.newAt rfl).alloc _
  have B0 : Blk ((w.alloc (.cells #[.int .i64 a0, .int .i64 a1, .int .i64 a2, .int .i64 a3, .int .i64 a4, .int .i64 a5, .bool a6, .int .i64 a7] 30)).alloc (.cells #[.int .i64 b0, .int .i64 b1, .int .i64 b2, .int .i64 b3, .int .i64 b4, .int .i64 b5, .bool b6, .int .i64 b7] 30)) (w.heap.size + 1) 30 #[.int .i64 b0, .int .i64 b1, .int .i64 b2, .int .i64 b3, .int .i64 b4, .int .i64 b5, .bool b6, .int .i64 b7] := Blk.newAt (by simp)
  have hB0 : Below w.heap.size w ((w.alloc (.cells #[.int .i64 a0, .int .i64 a1, .int .i64 a2, .int .i64 a3, .int .i64 a4, .int .i64 a5, .bool a6, .int .i64 a7] 30)).alloc (.cells #[.int .i64 b0, .int .i64 b1, .int .i64 b2, .int .i64 b3, .int .i64 b4, .int .i64 b5, .bool b6, .int .i64 b7] 30)) := by go_grown
  generalize ((w.alloc (.cells #[.int .i64 a0, .int .i64 a1, .int .i64 a2, .int .i64 a3, .int .i64 a4, .int .i64 a5, .bool a6, .int .i64 a7] 30)).alloc (.cells #[.int .i64 b0, .int .i64 b1, .int .i64 b2, .int .i64 b3, .int .i64 b4, .int .i64 b5, .bool b6, .int .i64 b7] 30)) = w0 at *
  have x0 := A0.cell 0
  have x1 := A0.cell 1
  have x2 := A0.cell 2
  have x3 := A0.cell 3
  have x4 := A0.cell 4
  have x5 := A0.cell 5
  have x6 := A0.cell 6
  have x7 := A0.cell 7
  simp only [List.getElem?_toArray, List.getElem?_cons_zero, List.getElem?_cons_succ] at x0 x1 x2 x3 x4 x5 x6 x7
  have y0 := B0.cell 0
  have y1 := B0.cell 1
  have y2 := B0.cell 2
  have y3 := B0.cell 3
  have y4 := B0.cell 4
  have y5 := B0.cell 5
  have y6 := B0.cell 6
  have y7 := B0.cell 7
  simp only [List.getElem?_toArray, List.getElem?_cons_zero, List.getElem?_cons_succ] at y0 y1 y2 y3 y4 y5 y6 y7
  have zA := A0.lt
  have zB := B0.lt
  have e0 : (a0 == a0) = true := by simp
  go_region_held3 (fun w' => (w'.cell? ⟨w.heap.size, 0, none⟩ = some (.int .i64 a0)) ∧ (w'.cell? ⟨w.heap.size, 1, none⟩ = some (.int .i64 a1)) ∧ (w'.cell? ⟨w.heap.size, 2, none⟩ = some (.int .i64 a2)) ∧ (w'.cell? ⟨w.heap.size, 3, none⟩ = some (.int .i64 a3)) ∧ (w'.cell? ⟨w.heap.size, 4, none⟩ = some (.int .i64 a4)) ∧ (w'.cell? ⟨w.heap.size, 5, none⟩ = some (.int .i64 a5)) ∧ (w'.cell? ⟨w.heap.size, 6, none⟩ = some (.bool a6)) ∧ (w'.cell? ⟨w.heap.size, 7, none⟩ = some (.int .i64 a7)) ∧ (w'.cell? ⟨w.heap.size + 1, 0, none⟩ = some (.int .i64 b0)) ∧ (w'.cell? ⟨w.heap.size + 1, 1, none⟩ = some (.int .i64 b1)) ∧ (w'.cell? ⟨w.heap.size + 1, 2, none⟩ = some (.int .i64 b2)) ∧ (w'.cell? ⟨w.heap.size + 1, 3, none⟩ = some (.int .i64 b3)) ∧ (w'.cell? ⟨w.heap.size + 1, 4, none⟩ = some (.int .i64 b4)) ∧ (w'.cell? ⟨w.heap.size + 1, 5, none⟩ = some (.int .i64 b5)) ∧ (w'.cell? ⟨w.heap.size + 1, 6, none⟩ = some (.bool b6)) ∧ (w'.cell? ⟨w.heap.size + 1, 7, none⟩ = some (.int .i64 b7)) ∧ (Below w.heap.size w w')) (first | (go_split_ands; refine ⟨?_, ?_, ?_, ?_, ?_, ?_, ?_, ?_, ?_, ?_, ?_, ?_, ?_, ?_, ?_, ?_, ?_⟩ <;> first | (exact cell_later (by assumption) (by assumption)) | (exact below_then (by assumption) (by assumption)) | (go_grown; done) | go_keep)) (first | (go_at_call 24; refine (HM.out _).mono ?_; rintro e w9 ⟨rfl, hb9⟩) | (go_at_call 25; first | (with_reducible refine (HA.out _).mono ?_; rintro e w9 ⟨rfl, hb9⟩) | (with_reducible refine (HB.out _).mono ?_; rintro e w9 ⟨rfl, hb9⟩)))
  all_goals
    go_split_ands
    go_wp2
    go_ret
    exact ⟨rfl, by assumption⟩
set_option maxRecDepth 100000 in
set_option maxHeartbeats 8000000 in
theorem nar_d2 (a0 a1 a2 a3 a4 a5 : Int) (a6 : Bool) (a7 : Int) (b0 b1 b2 b3 b4 b5 : Int) (b6 : Bool) (b7 : Int) (m2 : Int) (m3 : Int) (m4 : Int) (m5 : Int) (m6 : Bool) (m7 : Int) (HA : Hid (∀ w, Calls Try.prog 25 #[.agg #[.int .i64 a0, .int .i64 a1, .int .i64 a2, .int .i64 a3, .int .i64 a4, .int .i64 a5, .bool a6, .int .i64 a7]] w fun e w' => e = .returned (.bool true) ∧ Below w.heap.size w w')) (HB : Hid (∀ w, Calls Try.prog 25 #[.agg #[.int .i64 b0, .int .i64 b1, .int .i64 b2, .int .i64 b3, .int .i64 b4, .int .i64 b5, .bool b6, .int .i64 b7]] w fun e w' => e = .returned (.bool true) ∧ Below w.heap.size w w')) (HM : Hid (∀ w, Calls Try.prog 24 #[.agg #[.int .i64 a0, .int .i64 a1, .int .i64 a2, .int .i64 a3, .int .i64 a4, .int .i64 a5, .bool a6, .int .i64 a7], .agg #[.int .i64 b0, .int .i64 b1, .int .i64 b2, .int .i64 b3, .int .i64 b4, .int .i64 b5, .bool b6, .int .i64 b7]] w fun e w' => e = .returned (.agg #[.int .i64 a0, .int .i64 a1, .int .i64 m2, .int .i64 m3, .int .i64 m4, .int .i64 m5, .bool m6, .int .i64 m7]) ∧ Below w.heap.size w w')) (hk : (m2 == a2) = false) (w : World) :
    Calls Try.prog 27 #[.agg #[.int .i64 a0, .int .i64 a1, .int .i64 a2, .int .i64 a3, .int .i64 a4, .int .i64 a5, .bool a6, .int .i64 a7], .agg #[.int .i64 b0, .int .i64 b1, .int .i64 b2, .int .i64 b3, .int .i64 b4, .int .i64 b5, .bool b6, .int .i64 b7]] w fun e w' => e = .returned (.bool false) ∧ Below w.heap.size w w' := by
  go_enter Try.func27, Try.ntmps27
  go_upto_region 1 with fail
  have A0 : Blk ((w.alloc (.cells #[.int .i64 a0, .int .i64 a1, .int .i64 a2, .int .i64 a3, .int .i64 a4, .int .i64 a5, .bool a6, .int .i64 a7] 30)).alloc (.cells #[.int .i64 b0, .int .i64 b1, .int .i64 b2, .int .i64 b3, .int .i64 b4, .int .i64 b5, .bool b6, .int .i64 b7] 30)) w.heap.size 30 #[.int .i64 a0, .int .i64 a1, .int .i64 a2, .int .i64 a3, .int .i64 a4, .int .i64 a5, .bool a6, .int .i64 a7] := (Blk.newAt rfl).alloc _
  have B0 : Blk ((w.alloc (.cells #[.int .i64 a0, .int .i64 a1, .int .i64 a2, .int .i64 a3, .int .i64 a4, .int .i64 a5, .bool a6, .int .i64 a7] 30)).alloc (.cells #[.int .i64 b0, .int .i64 b1, .int .i64 b2, .int .i64 b3, .int .i64 b4, .int .i64 b5, .bool b6, .int .i64 b7] 30)) (w.heap.size + 1) 30 #[.int .i64 b0, .int .i64 b1, .int .i64 b2, .int .i64 b3, .int .i64 b4, .int .i64 b5, .bool b6, .int .i64 b7] := Blk.newAt (by simp)
  have hB0 : Below w.heap.size w ((w.alloc (.cells #[.int .i64 a0, .int .i64 a1, .int .i64 a2, .int .i64 a3, .int .i64 a4, .int .i64 a5, .bool a6, .int .i64 a7] 30)).alloc (.cells #[.int .i64 b0, .int .i64 b1, .int .i64 b2, .int .i64 b3, .int .i64 b4, .int .i64 b5, .bool b6, .int .i64 b7] 30)) := by go_grown
  generalize ((w.alloc (.cells #[.int .i64 a0, .int .i64 a1, .int .i64 a2, .int .i64 a3, .int .i64 a4, .int .i64 a5, .bool a6, .int .i64 a7] 30)).alloc (.cells #[.int .i64 b0, .int .i64 b1, .int .i64 b2, .int .i64 b3, .int .i64 b4, .int .i64 b5, .bool b6, .int .i64 b7] 30)) = w0 at *
  have x0 := A0.cell 0
  have x1 := A0.cell 1
  have x2 := A0.cell 2
  have x3 := A0.cell 3
  have x4 := A0.cell 4
  have x5 := A0.cell 5
  have x6 := A0.cell 6
  have x7 := A0.cell 7
  simp only [List.getElem?_toArray, List.getElem?_cons_zero, List.getElem?_cons_succ] at x0 x1 x2 x3 x4 x5 x6 x7
  have y0 := B0.cell 0
  have y1 := B0.cell 1
  have y2 := B0.cell 2
  have y3 := B0.cell 3
  have y4 := B0.cell 4
  have y5 := B0.cell 5
  have y6 := B0.cell 6
  have y7 := B0.cell 7
  simp only [List.getElem?_toArray, List.getElem?_cons_zero, List.getElem?_cons_succ] at y0 y1 y2 y3 y4 y5 y6 y7
  have zA := A0.lt
  have zB := B0.lt
  have e0 : (a0 == a0) = true := by simp
  have e1 : (a1 == a1) = true := by simp
  go_region_held3 (fun w' => (w'.cell? ⟨w.heap.size, 0, none⟩ = some (.int .i64 a0)) ∧ (w'.cell? ⟨w.heap.size, 1, none⟩ = some (.int .i64 a1)) ∧ (w'.cell? ⟨w.heap.size, 2, none⟩ = some (.int .i64 a2)) ∧ (w'.cell? ⟨w.heap.size, 3, none⟩ = some (.int .i64 a3)) ∧ (w'.cell? ⟨w.heap.size, 4, none⟩ = some (.int .i64 a4)) ∧ (w'.cell? ⟨w.heap.size, 5, none⟩ = some (.int .i64 a5)) ∧ (w'.cell? ⟨w.heap.size, 6, none⟩ = some (.bool a6)) ∧ (w'.cell? ⟨w.heap.size, 7, none⟩ = some (.int .i64 a7)) ∧ (w'.cell? ⟨w.heap.size + 1, 0, none⟩ = some (.int .i64 b0)) ∧ (w'.cell? ⟨w.heap.size + 1, 1, none⟩ = some (.int .i64 b1)) ∧ (w'.cell? ⟨w.heap.size + 1, 2, none⟩ = some (.int .i64 b2)) ∧ (w'.cell? ⟨w.heap.size + 1, 3, none⟩ = some (.int .i64 b3)) ∧ (w'.cell? ⟨w.heap.size + 1, 4, none⟩ = some (.int .i64 b4)) ∧ (w'.cell? ⟨w.heap.size + 1, 5, none⟩ = some (.int .i64 b5)) ∧ (w'.cell? ⟨w.heap.size + 1, 6, none⟩ = some (.bool b6)) ∧ (w'.cell? ⟨w.heap.size + 1, 7, none⟩ = some (.int .i64 b7)) ∧ (Below w.heap.size w w')) (first | (go_split_ands; refine ⟨?_, ?_, ?_, ?_, ?_, ?_, ?_, ?_, ?_, ?_, ?_, ?_, ?_, ?_, ?_, ?_, ?_⟩ <;> first | (exact cell_later (by assumption) (by assumption)) | (exact below_then (by assumption) (by assumption)) | (go_grown; done) | go_keep)) (first | (go_at_call 24; refine (HM.out _).mono ?_; rintro e w9 ⟨rfl, hb9⟩) | (go_at_call 25; first | (with_reducible refine (HA.out _).mono ?_; rintro e w9 ⟨rfl, hb9⟩) | (with_reducible refine (HB.out _).mono ?_; rintro e w9 ⟨rfl, hb9⟩)))
  all_goals
    go_split_ands
    go_wp2
    go_ret
    exact ⟨rfl, by assumption⟩
set_option maxRecDepth 100000 in
set_option maxHeartbeats 8000000 in
theorem nar_d3 (a0 a1 a2 a3 a4 a5 : Int) (a6 : Bool) (a7 : Int) (b0 b1 b2 b3 b4 b5 : Int) (b6 : Bool) (b7 : Int) (m3 : Int) (m4 : Int) (m5 : Int) (m6 : Bool) (m7 : Int) (HA : Hid (∀ w, Calls Try.prog 25 #[.agg #[.int .i64 a0, .int .i64 a1, .int .i64 a2, .int .i64 a3, .int .i64 a4, .int .i64 a5, .bool a6, .int .i64 a7]] w fun e w' => e = .returned (.bool true) ∧ Below w.heap.size w w')) (HB : Hid (∀ w, Calls Try.prog 25 #[.agg #[.int .i64 b0, .int .i64 b1, .int .i64 b2, .int .i64 b3, .int .i64 b4, .int .i64 b5, .bool b6, .int .i64 b7]] w fun e w' => e = .returned (.bool true) ∧ Below w.heap.size w w')) (HM : Hid (∀ w, Calls Try.prog 24 #[.agg #[.int .i64 a0, .int .i64 a1, .int .i64 a2, .int .i64 a3, .int .i64 a4, .int .i64 a5, .bool a6, .int .i64 a7], .agg #[.int .i64 b0, .int .i64 b1, .int .i64 b2, .int .i64 b3, .int .i64 b4, .int .i64 b5, .bool b6, .int .i64 b7]] w fun e w' => e = .returned (.agg #[.int .i64 a0, .int .i64 a1, .int .i64 a2, .int .i64 m3, .int .i64 m4, .int .i64 m5, .bool m6, .int .i64 m7]) ∧ Below w.heap.size w w')) (hk : (m3 == a3) = false) (w : World) :
    Calls Try.prog 27 #[.agg #[.int .i64 a0, .int .i64 a1, .int .i64 a2, .int .i64 a3, .int .i64 a4, .int .i64 a5, .bool a6, .int .i64 a7], .agg #[.int .i64 b0, .int .i64 b1, .int .i64 b2, .int .i64 b3, .int .i64 b4, .int .i64 b5, .bool b6, .int .i64 b7]] w fun e w' => e = .returned (.bool false) ∧ Below w.heap.size w w' := by
  go_enter Try.func27, Try.ntmps27
  go_upto_region 1 with fail
  have A0 : Blk ((w.alloc (.cells #[.int .i64 a0, .int .i64 a1, .int .i64 a2, .int .i64 a3, .int .i64 a4, .int .i64 a5, .bool a6, .int .i64 a7] 30)).alloc (.cells #[.int .i64 b0, .int .i64 b1, .int .i64 b2, .int .i64 b3, .int .i64 b4, .int .i64 b5, .bool b6, .int .i64 b7] 30)) w.heap.size 30 #[.int .i64 a0, .int .i64 a1, .int .i64 a2, .int .i64 a3, .int .i64 a4, .int .i64 a5, .bool a6, .int .i64 a7] := (Blk.newAt rfl).alloc _
  have B0 : Blk ((w.alloc (.cells #[.int .i64 a0, .int .i64 a1, .int .i64 a2, .int .i64 a3, .int .i64 a4, .int .i64 a5, .bool a6, .int .i64 a7] 30)).alloc (.cells #[.int .i64 b0, .int .i64 b1, .int .i64 b2, .int .i64 b3, .int .i64 b4, .int .i64 b5, .bool b6, .int .i64 b7] 30)) (w.heap.size + 1) 30 #[.int .i64 b0, .int .i64 b1, .int .i64 b2, .int .i64 b3, .int .i64 b4, .int .i64 b5, .bool b6, .int .i64 b7] := Blk.newAt (by simp)
  have hB0 : Below w.heap.size w ((w.alloc (.cells #[.int .i64 a0, .int .i64 a1, .int .i64 a2, .int .i64 a3, .int .i64 a4, .int .i64 a5, .bool a6, .int .i64 a7] 30)).alloc (.cells #[.int .i64 b0, .int .i64 b1, .int .i64 b2, .int .i64 b3, .int .i64 b4, .int .i64 b5, .bool b6, .int .i64 b7] 30)) := by go_grown
  generalize ((w.alloc (.cells #[.int .i64 a0, .int .i64 a1, .int .i64 a2, .int .i64 a3, .int .i64 a4, .int .i64 a5, .bool a6, .int .i64 a7] 30)).alloc (.cells #[.int .i64 b0, .int .i64 b1, .int .i64 b2, .int .i64 b3, .int .i64 b4, .int .i64 b5, .bool b6, .int .i64 b7] 30)) = w0 at *
  have x0 := A0.cell 0
  have x1 := A0.cell 1
  have x2 := A0.cell 2
  have x3 := A0.cell 3
  have x4 := A0.cell 4
  have x5 := A0.cell 5
  have x6 := A0.cell 6
  have x7 := A0.cell 7
  simp only [List.getElem?_toArray, List.getElem?_cons_zero, List.getElem?_cons_succ] at x0 x1 x2 x3 x4 x5 x6 x7
  have y0 := B0.cell 0
  have y1 := B0.cell 1
  have y2 := B0.cell 2
  have y3 := B0.cell 3
  have y4 := B0.cell 4
  have y5 := B0.cell 5
  have y6 := B0.cell 6
  have y7 := B0.cell 7
  simp only [List.getElem?_toArray, List.getElem?_cons_zero, List.getElem?_cons_succ] at y0 y1 y2 y3 y4 y5 y6 y7
  have zA := A0.lt
  have zB := B0.lt
  have e0 : (a0 == a0) = true := by simp
  have e1 : (a1 == a1) = true := by simp
  have e2 : (a2 == a2) = true := by simp
  go_region_held3 (fun w' => (w'.cell? ⟨w.heap.size, 0, none⟩ = some (.int .i64 a0)) ∧ (w'.cell? ⟨w.heap.size, 1, none⟩ = some (.int .i64 a1)) ∧ (w'.cell? ⟨w.heap.size, 2, none⟩ = some (.int .i64 a2)) ∧ (w'.cell? ⟨w.heap.size, 3, none⟩ = some (.int .i64 a3)) ∧ (w'.cell? ⟨w.heap.size, 4, none⟩ = some (.int .i64 a4)) ∧ (w'.cell? ⟨w.heap.size, 5, none⟩ = some (.int .i64 a5)) ∧ (w'.cell? ⟨w.heap.size, 6, none⟩ = some (.bool a6)) ∧ (w'.cell? ⟨w.heap.size, 7, none⟩ = some (.int .i64 a7)) ∧ (w'.cell? ⟨w.heap.size + 1, 0, none⟩ = some (.int .i64 b0)) ∧ (w'.cell? ⟨w.heap.size + 1, 1, none⟩ = some (.int .i64 b1)) ∧ (w'.cell? ⟨w.heap.size + 1, 2, none⟩ = some (.int .i64 b2)) ∧ (w'.cell? ⟨w.heap.size + 1, 3, none⟩ = some (.int .i64 b3)) ∧ (w'.cell? ⟨w.heap.size + 1, 4, none⟩ = some (.int .i64 b4)) ∧ (w'.cell? ⟨w.heap.size + 1, 5, none⟩ = some (.int .i64 b5)) ∧ (w'.cell? ⟨w.heap.size + 1, 6, none⟩ = some (.bool b6)) ∧ (w'.cell? ⟨w.heap.size + 1, 7, none⟩ = some (.int .i64 b7)) ∧ (Below w.heap.size w w')) (first | (go_split_ands; refine ⟨?_, ?_, ?_, ?_, ?_, ?_, ?_, ?_, ?_, ?_, ?_, ?_, ?_, ?_, ?_, ?_, ?_⟩ <;> first | (exact cell_later (by assumption) (by assumption)) | (exact below_then (by assumption) (by assumption)) | (go_grown; done) | go_keep)) (first | (go_at_call 24; refine (HM.out _).mono ?_; rintro e w9 ⟨rfl, hb9⟩) | (go_at_call 25; first | (with_reducible refine (HA.out _).mono ?_; rintro e w9 ⟨rfl, hb9⟩) | (with_reducible refine (HB.out _).mono ?_; rintro e w9 ⟨rfl, hb9⟩)))
  all_goals
    go_split_ands
    go_wp2
    go_ret
    exact ⟨rfl, by assumption⟩
set_option maxRecDepth 100000 in
set_option maxHeartbeats 8000000 in
theorem nar_d4 (a0 a1 a2 a3 a4 a5 : Int) (a6 : Bool) (a7 : Int) (b0 b1 b2 b3 b4 b5 : Int) (b6 : Bool) (b7 : Int) (m4 : Int) (m5 : Int) (m6 : Bool) (m7 : Int) (HA : Hid (∀ w, Calls Try.prog 25 #[.agg #[.int .i64 a0, .int .i64 a1, .int .i64 a2, .int .i64 a3, .int .i64 a4, .int .i64 a5, .bool a6, .int .i64 a7]] w fun e w' => e = .returned (.bool true) ∧ Below w.heap.size w w')) (HB : Hid (∀ w, Calls Try.prog 25 #[.agg #[.int .i64 b0, .int .i64 b1, .int .i64 b2, .int .i64 b3, .int .i64 b4, .int .i64 b5, .bool b6, .int .i64 b7]] w fun e w' => e = .returned (.bool true) ∧ Below w.heap.size w w')) (HM : Hid (∀ w, Calls Try.prog 24 #[.agg #[.int .i64 a0, .int .i64 a1, .int .i64 a2, .int .i64 a3, .int .i64 a4, .int .i64 a5, .bool a6, .int .i64 a7], .agg #[.int .i64 b0, .int .i64 b1, .int .i64 b2, .int .i64 b3, .int .i64 b4, .int .i64 b5, .bool b6, .int .i64 b7]] w fun e w' => e = .returned (.agg #[.int .i64 a0, .int .i64 a1, .int .i64 a2, .int .i64 a3, .int .i64 m4, .int .i64 m5, .bool m6, .int .i64 m7]) ∧ Below w.heap.size w w')) (hk : (m4 == a4) = false) (w : World) :
    Calls Try.prog 27 #[.agg #[.int .i64 a0, .int .i64 a1, .int .i64 a2, .int .i64 a3, .int .i64 a4, .int .i64 a5, .bool a6, .int .i64 a7], .agg #[.int .i64 b0, .int .i64 b1, .int .i64 b2, .int .i64 b3, .int .i64 b4, .int .i64 b5, .bool b6, .int .i64 b7]] w fun e w' => e = .returned (.bool false) ∧ Below w.heap.size w w' := by
  go_enter Try.func27, Try.ntmps27
  go_upto_region 1 with fail
  have A0 : Blk ((w.alloc (.cells #[.int .i64 a0, .int .i64 a1, .int .i64 a2, .int .i64 a3, .int .i64 a4, .int .i64 a5, .bool a6, .int .i64 a7] 30)).alloc (.cells #[.int .i64 b0, .int .i64 b1, .int .i64 b2, .int .i64 b3, .int .i64 b4, .int .i64 b5, .bool b6, .int .i64 b7] 30)) w.heap.size 30 #[.int .i64 a0, .int .i64 a1, .int .i64 a2, .int .i64 a3, .int .i64 a4, .int .i64 a5, .bool a6, .int .i64 a7] := (Blk.newAt rfl).alloc _
  have B0 : Blk ((w.alloc (.cells #[.int .i64 a0, .int .i64 a1, .int .i64 a2, .int .i64 a3, .int .i64 a4, .int .i64 a5, .bool a6, .int .i64 a7] 30)).alloc (.cells #[.int .i64 b0, .int .i64 b1, .int .i64 b2, .int .i64 b3, .int .i64 b4, .int .i64 b5, .bool b6, .int .i64 b7] 30)) (w.heap.size + 1) 30 #[.int .i64 b0, .int .i64 b1, .int .i64 b2, .int .i64 b3, .int .i64 b4, .int .i64 b5, .bool b6, .int .i64 b7] := Blk.newAt (by simp)
  have hB0 : Below w.heap.size w ((w.alloc (.cells #[.int .i64 a0, .int .i64 a1, .int .i64 a2, .int .i64 a3, .int .i64 a4, .int .i64 a5, .bool a6, .int .i64 a7] 30)).alloc (.cells #[.int .i64 b0, .int .i64 b1, .int .i64 b2, .int .i64 b3, .int .i64 b4, .int .i64 b5, .bool b6, .int .i64 b7] 30)) := by go_grown
  generalize ((w.alloc (.cells #[.int .i64 a0, .int .i64 a1, .int .i64 a2, .int .i64 a3, .int .i64 a4, .int .i64 a5, .bool a6, .int .i64 a7] 30)).alloc (.cells #[.int .i64 b0, .int .i64 b1, .int .i64 b2, .int .i64 b3, .int .i64 b4, .int .i64 b5, .bool b6, .int .i64 b7] 30)) = w0 at *
  have x0 := A0.cell 0
  have x1 := A0.cell 1
  have x2 := A0.cell 2
  have x3 := A0.cell 3
  have x4 := A0.cell 4
  have x5 := A0.cell 5
  have x6 := A0.cell 6
  have x7 := A0.cell 7
  simp only [List.getElem?_toArray, List.getElem?_cons_zero, List.getElem?_cons_succ] at x0 x1 x2 x3 x4 x5 x6 x7
  have y0 := B0.cell 0
  have y1 := B0.cell 1
  have y2 := B0.cell 2
  have y3 := B0.cell 3
  have y4 := B0.cell 4
  have y5 := B0.cell 5
  have y6 := B0.cell 6
  have y7 := B0.cell 7
  simp only [List.getElem?_toArray, List.getElem?_cons_zero, List.getElem?_cons_succ] at y0 y1 y2 y3 y4 y5 y6 y7
  have zA := A0.lt
  have zB := B0.lt
  have e0 : (a0 == a0) = true := by simp
  have e1 : (a1 == a1) = true := by simp
  have e2 : (a2 == a2) = true := by simp
  have e3 : (a3 == a3) = true := by simp
  go_region_held3 (fun w' => (w'.cell? ⟨w.heap.size, 0, none⟩ = some (.int .i64 a0)) ∧ (w'.cell? ⟨w.heap.size, 1, none⟩ = some (.int .i64 a1)) ∧ (w'.cell? ⟨w.heap.size, 2, none⟩ = some (.int .i64 a2)) ∧ (w'.cell? ⟨w.heap.size, 3, none⟩ = some (.int .i64 a3)) ∧ (w'.cell? ⟨w.heap.size, 4, none⟩ = some (.int .i64 a4)) ∧ (w'.cell? ⟨w.heap.size, 5, none⟩ = some (.int .i64 a5)) ∧ (w'.cell? ⟨w.heap.size, 6, none⟩ = some (.bool a6)) ∧ (w'.cell? ⟨w.heap.size, 7, none⟩ = some (.int .i64 a7)) ∧ (w'.cell? ⟨w.heap.size + 1, 0, none⟩ = some (.int .i64 b0)) ∧ (w'.cell? ⟨w.heap.size + 1, 1, none⟩ = some (.int .i64 b1)) ∧ (w'.cell? ⟨w.heap.size + 1, 2, none⟩ = some (.int .i64 b2)) ∧ (w'.cell? ⟨w.heap.size + 1, 3, none⟩ = some (.int .i64 b3)) ∧ (w'.cell? ⟨w.heap.size + 1, 4, none⟩ = some (.int .i64 b4)) ∧ (w'.cell? ⟨w.heap.size + 1, 5, none⟩ = some (.int .i64 b5)) ∧ (w'.cell? ⟨w.heap.size + 1, 6, none⟩ = some (.bool b6)) ∧ (w'.cell? ⟨w.heap.size + 1, 7, none⟩ = some (.int .i64 b7)) ∧ (Below w.heap.size w w')) (first | (go_split_ands; refine ⟨?_, ?_, ?_, ?_, ?_, ?_, ?_, ?_, ?_, ?_, ?_, ?_, ?_, ?_, ?_, ?_, ?_⟩ <;> first | (exact cell_later (by assumption) (by assumption)) | (exact below_then (by assumption) (by assumption)) | (go_grown; done) | go_keep)) (first | (go_at_call 24; refine (HM.out _).mono ?_; rintro e w9 ⟨rfl, hb9⟩) | (go_at_call 25; first | (with_reducible refine (HA.out _).mono ?_; rintro e w9 ⟨rfl, hb9⟩) | (with_reducible refine (HB.out _).mono ?_; rintro e w9 ⟨rfl, hb9⟩)))
  all_goals
    go_split_ands
    go_wp2
    go_ret
    exact ⟨rfl, by assumption⟩
set_option maxRecDepth 100000 in
set_option maxHeartbeats 8000000 in
theorem nar_d5 (a0 a1 a2 a3 a4 a5 : Int) (a6 : Bool) (a7 : Int) (b0 b1 b2 b3 b4 b5 : Int) (b6 : Bool) (b7 : Int) (m5 : Int) (m6 : Bool) (m7 : Int) (HA : Hid (∀ w, Calls Try.prog 25 #[.agg #[.int .i64 a0, .int .i64 a1, .int .i64 a2, .int .i64 a3, .int .i64 a4, .int .i64 a5, .bool a6, .int .i64 a7]] w fun e w' => e = .returned (.bool true) ∧ Below w.heap.size w w')) (HB : Hid (∀ w, Calls Try.prog 25 #[.agg #[.int .i64 b0, .int .i64 b1, .int .i64 b2, .int .i64 b3, .int .i64 b4, .int .i64 b5, .bool b6, .int .i64 b7]] w fun e w' => e = .returned (.bool true) ∧ Below w.heap.size w w')) (HM : Hid (∀ w, Calls Try.prog 24 #[.agg #[.int .i64 a0, .int .i64 a1, .int .i64 a2, .int .i64 a3, .int .i64 a4, .int .i64 a5, .bool a6, .int .i64 a7], .agg #[.int .i64 b0, .int .i64 b1, .int .i64 b2, .int .i64 b3, .int .i64 b4, .int .i64 b5, .bool b6, .int .i64 b7]] w fun e w' => e = .returned (.agg #[.int .i64 a0, .int .i64 a1, .int .i64 a2, .int .i64 a3, .int .i64 a4, .int .i64 m5, .bool m6, .int .i64 m7]) ∧ Below w.heap.size w w')) (hk : (m5 == a5) = false) (w : World) :
    Calls Try.prog 27 #[.agg #[.int .i64 a0, .int .i64 a1, .int .i64 a2, .int .i64 a3, .int .i64 a4, .int .i64 a5, .bool a6, .int .i64 a7], .agg #[.int .i64 b0, .int .i64 b1, .int .i64 b2, .int .i64 b3, .int .i64 b4, .int .i64 b5, .bool b6, .int .i64 b7]] w fun e w' => e = .returned (.bool false) ∧ Below w.heap.size w w' := by
  go_enter Try.func27, Try.ntmps27
  go_upto_region 1 with fail
  have A0 : Blk ((w.alloc (.cells #[.int .i64 a0, .int .i64 a1, .int .i64 a2, .int .i64 a3, .int .i64 a4, .int .i64 a5, .bool a6, .int .i64 a7] 30)).alloc (.cells #[.int .i64 b0, .int .i64 b1, .int .i64 b2, .int .i64 b3, .int .i64 b4, .int .i64 b5, .bool b6, .int .i64 b7] 30)) w.heap.size 30 #[.int .i64 a0, .int .i64 a1, .int .i64 a2, .int .i64 a3, .int .i64 a4, .int .i64 a5, .bool a6, .int .i64 a7] := (Blk.newAt rfl).alloc _
  have B0 : Blk ((w.alloc (.cells #[.int .i64 a0, .int .i64 a1, .int .i64 a2, .int .i64 a3, .int .i64 a4, .int .i64 a5, .bool a6, .int .i64 a7] 30)).alloc (.cells #[.int .i64 b0, .int .i64 b1, .int .i64 b2, .int .i64 b3, .int .i64 b4, .int .i64 b5, .bool b6, .int .i64 b7] 30)) (w.heap.size + 1) 30 #[.int .i64 b0, .int .i64 b1, .int .i64 b2, .int .i64 b3, .int .i64 b4, .int .i64 b5, .bool b6, .int .i64 b7] := Blk.newAt (by simp)
  have hB0 : Below w.heap.size w ((w.alloc (.cells #[.int .i64 a0, .int .i64 a1, .int .i64 a2, .int .i64 a3, .int .i64 a4, .int .i64 a5, .bool a6, .int .i64 a7] 30)).alloc (.cells #[.int .i64 b0, .int .i64 b1, .int .i64 b2, .int .i64 b3, .int .i64 b4, .int .i64 b5, .bool b6, .int .i64 b7] 30)) := by go_grown
  generalize ((w.alloc (.cells #[.int .i64 a0, .int .i64 a1, .int .i64 a2, .int .i64 a3, .int .i64 a4, .int .i64 a5, .bool a6, .int .i64 a7] 30)).alloc (.cells #[.int .i64 b0, .int .i64 b1, .int .i64 b2, .int .i64 b3, .int .i64 b4, .int .i64 b5, .bool b6, .int .i64 b7] 30)) = w0 at *
  have x0 := A0.cell 0
  have x1 := A0.cell 1
  have x2 := A0.cell 2
  have x3 := A0.cell 3
  have x4 := A0.cell 4
  have x5 := A0.cell 5
  have x6 := A0.cell 6
  have x7 := A0.cell 7
  simp only [List.getElem?_toArray, List.getElem?_cons_zero, List.getElem?_cons_succ] at x0 x1 x2 x3 x4 x5 x6 x7
  have y0 := B0.cell 0
  have y1 := B0.cell 1
  have y2 := B0.cell 2
  have y3 := B0.cell 3
  have y4 := B0.cell 4
  have y5 := B0.cell 5
  have y6 := B0.cell 6
  have y7 := B0.cell 7
  simp only [List.getElem?_toArray, List.getElem?_cons_zero, List.getElem?_cons_succ] at y0 y1 y2 y3 y4 y5 y6 y7
  have zA := A0.lt
  have zB := B0.lt
  have e0 : (a0 == a0) = true := by simp
  have e1 : (a1 == a1) = true := by simp
  have e2 : (a2 == a2) = true := by simp
  have e3 : (a3 == a3) = true := by simp
  have e4 : (a4 == a4) = true := by simp
  go_region_held3 (fun w' => (w'.cell? ⟨w.heap.size, 0, none⟩ = some (.int .i64 a0)) ∧ (w'.cell? ⟨w.heap.size, 1, none⟩ = some (.int .i64 a1)) ∧ (w'.cell? ⟨w.heap.size, 2, none⟩ = some (.int .i64 a2)) ∧ (w'.cell? ⟨w.heap.size, 3, none⟩ = some (.int .i64 a3)) ∧ (w'.cell? ⟨w.heap.size, 4, none⟩ = some (.int .i64 a4)) ∧ (w'.cell? ⟨w.heap.size, 5, none⟩ = some (.int .i64 a5)) ∧ (w'.cell? ⟨w.heap.size, 6, none⟩ = some (.bool a6)) ∧ (w'.cell? ⟨w.heap.size, 7, none⟩ = some (.int .i64 a7)) ∧ (w'.cell? ⟨w.heap.size + 1, 0, none⟩ = some (.int .i64 b0)) ∧ (w'.cell? ⟨w.heap.size + 1, 1, none⟩ = some (.int .i64 b1)) ∧ (w'.cell? ⟨w.heap.size + 1, 2, none⟩ = some (.int .i64 b2)) ∧ (w'.cell? ⟨w.heap.size + 1, 3, none⟩ = some (.int .i64 b3)) ∧ (w'.cell? ⟨w.heap.size + 1, 4, none⟩ = some (.int .i64 b4)) ∧ (w'.cell? ⟨w.heap.size + 1, 5, none⟩ = some (.int .i64 b5)) ∧ (w'.cell? ⟨w.heap.size + 1, 6, none⟩ = some (.bool b6)) ∧ (w'.cell? ⟨w.heap.size + 1, 7, none⟩ = some (.int .i64 b7)) ∧ (Below w.heap.size w w')) (first | (go_split_ands; refine ⟨?_, ?_, ?_, ?_, ?_, ?_, ?_, ?_, ?_, ?_, ?_, ?_, ?_, ?_, ?_, ?_, ?_⟩ <;> first | (exact cell_later (by assumption) (by assumption)) | (exact below_then (by assumption) (by assumption)) | (go_grown; done) | go_keep)) (first | (go_at_call 24; refine (HM.out _).mono ?_; rintro e w9 ⟨rfl, hb9⟩) | (go_at_call 25; first | (with_reducible refine (HA.out _).mono ?_; rintro e w9 ⟨rfl, hb9⟩) | (with_reducible refine (HB.out _).mono ?_; rintro e w9 ⟨rfl, hb9⟩)))
  all_goals
    go_split_ands
    go_wp2
    go_ret
    exact ⟨rfl, by assumption⟩
set_option maxRecDepth 100000 in
set_option maxHeartbeats 8000000 in
theorem nar_d6 (a0 a1 a2 a3 a4 a5 : Int) (a6 : Bool) (a7 : Int) (b0 b1 b2 b3 b4 b5 : Int) (b6 : Bool) (b7 : Int) (m6 : Bool) (m7 : Int) (HA : Hid (∀ w, Calls Try.prog 25 #[.agg #[.int .i64 a0, .int .i64 a1, .int .i64 a2, .int .i64 a3, .int .i64 a4, .int .i64 a5, .bool a6, .int .i64 a7]] w fun e w' => e = .returned (.bool true) ∧ Below w.heap.size w w')) (HB : Hid (∀ w, Calls Try.prog 25 #[.agg #[.int .i64 b0, .int .i64 b1, .int .i64 b2, .int .i64 b3, .int .i64 b4, .int .i64 b5, .bool b6, .int .i64 b7]] w fun e w' => e = .returned (.bool true) ∧ Below w.heap.size w w')) (HM : Hid (∀ w, Calls Try.prog 24 #[.agg #[.int .i64 a0, .int .i64 a1, .int .i64 a2, .int .i64 a3, .int .i64 a4, .int .i64 a5, .bool a6, .int .i64 a7], .agg #[.int .i64 b0, .int .i64 b1, .int .i64 b2, .int .i64 b3, .int .i64 b4, .int .i64 b5, .bool b6, .int .i64 b7]] w fun e w' => e = .returned (.agg #[.int .i64 a0, .int .i64 a1, .int .i64 a2, .int .i64 a3, .int .i64 a4, .int .i64 a5, .bool m6, .int .i64 m7]) ∧ Below w.heap.size w w')) (hk : (m6 == a6) = false) (w : World) :
    Calls Try.prog 27 #[.agg #[.int .i64 a0, .int .i64 a1, .int .i64 a2, .int .i64 a3, .int .i64 a4, .int .i64 a5, .bool a6, .int .i64 a7], .agg #[.int .i64 b0, .int .i64 b1, .int .i64 b2, .int .i64 b3, .int .i64 b4, .int .i64 b5, .bool b6, .int .i64 b7]] w fun e w' => e = .returned (.bool false) ∧ Below w.heap.size w w' := by
  go_enter Try.func27, Try.ntmps27
  go_upto_region 1 with fail
  have A0 : Blk ((w.alloc (.cells #[.int .i64 a0, .int .i64 a1, .int .i64 a2, .int .i64 a3, .int .i64 a4, .int .i64 a5, .bool a6, .int .i64 a7] 30)).alloc (.cells #[.int .i64 b0, .int .i64 b1, .int .i64 b2, .int .i64 b3, .int .i64 b4, .int .i64 b5, .bool b6, .int .i64 b7] 30)) w.heap.size 30 #[.int .i64 a0, .int .i64 a1, .int .i64 a2, .int .i64 a3, .int .i64 a4, .int .i64 a5, .bool a6, .int .i64 a7] := (Blk.newAt rfl).alloc _
  have B0 : Blk ((w.alloc (.cells #[.int .i64 a0, .int .i64 a1, .int .i64 a2, .int .i64 a3, .int .i64 a4, .int .i64 a5, .bool a6, .int .i64 a7] 30)).alloc (.cells #[.int .i64 b0, .int .i64 b1, .int .i64 b2, .int .i64 b3, .int .i64 b4, .int .i64 b5, .bool b6, .int .i64 b7] 30)) (w.heap.size + 1) 30 #[.int .i64 b0, .int .i64 b1, .int .i64 b2, .int .i64 b3, .int .i64 b4, .int .i64 b5, .bool b6, .int .i64 b7] := Blk.newAt (by simp)
  have hB0 : Below w.heap.size w ((w.alloc (.cells #[.int .i64 a0, .int .i64 a1, .int .i64 a2, .int .i64 a3, .int .i64 a4, .int .i64 a5, .bool a6, .int .i64 a7] 30)).alloc (.cells #[.int .i64 b0, .int .i64 b1, .int .i64 b2, .int .i64 b3, .int .i64 b4, .int .i64 b5, .bool b6, .int .i64 b7] 30)) := by go_grown
  generalize ((w.alloc (.cells #[.int .i64 a0, .int .i64 a1, .int .i64 a2, .int .i64 a3, .int .i64 a4, .int .i64 a5, .bool a6, .int .i64 a7] 30)).alloc (.cells #[.int .i64 b0, .int .i64 b1, .int .i64 b2, .int .i64 b3, .int .i64 b4, .int .i64 b5, .bool b6, .int .i64 b7] 30)) = w0 at *
  have x0 := A0.cell 0
  have x1 := A0.cell 1
  have x2 := A0.cell 2
  have x3 := A0.cell 3
  have x4 := A0.cell 4
  have x5 := A0.cell 5
  have x6 := A0.cell 6
  have x7 := A0.cell 7
  simp only [List.getElem?_toArray, List.getElem?_cons_zero, List.getElem?_cons_succ] at x0 x1 x2 x3 x4 x5 x6 x7
  have y0 := B0.cell 0
  have y1 := B0.cell 1
  have y2 := B0.cell 2
  have y3 := B0.cell 3
  have y4 := B0.cell 4
  have y5 := B0.cell 5
  have y6 := B0.cell 6
  have y7 := B0.cell 7
  simp only [List.getElem?_toArray, List.getElem?_cons_zero, List.getElem?_cons_succ] at y0 y1 y2 y3 y4 y5 y6 y7
  have zA := A0.lt
  have zB := B0.lt
  have e0 : (a0 == a0) = true := by simp
  have e1 : (a1 == a1) = true := by simp
  have e2 : (a2 == a2) = true := by simp
  have e3 : (a3 == a3) = true := by simp
  have e4 : (a4 == a4) = true := by simp
  have e5 : (a5 == a5) = true := by simp
  go_region_held3 (fun w' => (w'.cell? ⟨w.heap.size, 0, none⟩ = some (.int .i64 a0)) ∧ (w'.cell? ⟨w.heap.size, 1, none⟩ = some (.int .i64 a1)) ∧ (w'.cell? ⟨w.heap.size, 2, none⟩ = some (.int .i64 a2)) ∧ (w'.cell? ⟨w.heap.size, 3, none⟩ = some (.int .i64 a3)) ∧ (w'.cell? ⟨w.heap.size, 4, none⟩ = some (.int .i64 a4)) ∧ (w'.cell? ⟨w.heap.size, 5, none⟩ = some (.int .i64 a5)) ∧ (w'.cell? ⟨w.heap.size, 6, none⟩ = some (.bool a6)) ∧ (w'.cell? ⟨w.heap.size, 7, none⟩ = some (.int .i64 a7)) ∧ (w'.cell? ⟨w.heap.size + 1, 0, none⟩ = some (.int .i64 b0)) ∧ (w'.cell? ⟨w.heap.size + 1, 1, none⟩ = some (.int .i64 b1)) ∧ (w'.cell? ⟨w.heap.size + 1, 2, none⟩ = some (.int .i64 b2)) ∧ (w'.cell? ⟨w.heap.size + 1, 3, none⟩ = some (.int .i64 b3)) ∧ (w'.cell? ⟨w.heap.size + 1, 4, none⟩ = some (.int .i64 b4)) ∧ (w'.cell? ⟨w.heap.size + 1, 5, none⟩ = some (.int .i64 b5)) ∧ (w'.cell? ⟨w.heap.size + 1, 6, none⟩ = some (.bool b6)) ∧ (w'.cell? ⟨w.heap.size + 1, 7, none⟩ = some (.int .i64 b7)) ∧ (Below w.heap.size w w')) (first | (go_split_ands; refine ⟨?_, ?_, ?_, ?_, ?_, ?_, ?_, ?_, ?_, ?_, ?_, ?_, ?_, ?_, ?_, ?_, ?_⟩ <;> first | (exact cell_later (by assumption) (by assumption)) | (exact below_then (by assumption) (by assumption)) | (go_grown; done) | go_keep)) (first | (go_at_call 24; refine (HM.out _).mono ?_; rintro e w9 ⟨rfl, hb9⟩) | (go_at_call 25; first | (with_reducible refine (HA.out _).mono ?_; rintro e w9 ⟨rfl, hb9⟩) | (with_reducible refine (HB.out _).mono ?_; rintro e w9 ⟨rfl, hb9⟩)))
  all_goals
    go_split_ands
    go_wp2
    go_ret
    exact ⟨rfl, by assumption⟩
set_option maxRecDepth 100000 in
set_option maxHeartbeats 8000000 in
theorem nar_d7 (a0 a1 a2 a3 a4 a5 : Int) (a6 : Bool) (a7 : Int) (b0 b1 b2 b3 b4 b5 : Int) (b6 : Bool) (b7 : Int) (m7 : Int) (HA : Hid (∀ w, Calls Try.prog 25 #[.agg #[.int .i64 a0, .int .i64 a1, .int .i64 a2, .int .i64 a3, .int .i64 a4, .int .i64 a5, .bool a6, .int .i64 a7]] w fun e w' => e = .returned (.bool true) ∧ Below w.heap.size w w')) (HB : Hid (∀ w, Calls Try.prog 25 #[.agg #[.int .i64 b0, .int .i64 b1, .int .i64 b2, .int .i64 b3, .int .i64 b4, .int .i64 b5, .bool b6, .int .i64 b7]] w fun e w' => e = .returned (.bool true) ∧ Below w.heap.size w w')) (HM : Hid (∀ w, Calls Try.prog 24 #[.agg #[.int .i64 a0, .int .i64 a1, .int .i64 a2, .int .i64 a3, .int .i64 a4, .int .i64 a5, .bool a6, .int .i64 a7], .agg #[.int .i64 b0, .int .i64 b1, .int .i64 b2, .int .i64 b3, .int .i64 b4, .int .i64 b5, .bool b6, .int .i64 b7]] w fun e w' => e = .returned (.agg #[.int .i64 a0, .int .i64 a1, .int .i64 a2, .int .i64 a3, .int .i64 a4, .int .i64 a5, .bool a6, .int .i64 m7]) ∧ Below w.heap.size w w')) (hk : (m7 == a7) = false) (w : World) :
    Calls Try.prog 27 #[.agg #[.int .i64 a0, .int .i64 a1, .int .i64 a2, .int .i64 a3, .int .i64 a4, .int .i64 a5, .bool a6, .int .i64 a7], .agg #[.int .i64 b0, .int .i64 b1, .int .i64 b2, .int .i64 b3, .int .i64 b4, .int .i64 b5, .bool b6, .int .i64 b7]] w fun e w' => e = .returned (.bool false) ∧ Below w.heap.size w w' := by
  go_enter Try.func27, Try.ntmps27
  go_upto_region 1 with fail
  have A0 : Blk ((w.alloc (.cells #[.int .i64 a0, .int .i64 a1, .int .i64 a2, .int .i64 a3, .int .i64 a4, .int .i64 a5, .bool a6, .int .i64 a7] 30)).alloc (.cells #[.int .i64 b0, .int .i64 b1, .int .i64 b2, .int .i64 b3, .int .i64 b4, .int .i64 b5, .bool b6, .int .i64 b7] 30)) w.heap.size 30 #[.int .i64 a0, .int .i64 a1, .int .i64 a2, .int .i64 a3, .int .i64 a4, .int .i64 a5, .bool a6, .int .i64 a7] := (Blk.newAt rfl).alloc _
  have B0 : Blk ((w.alloc (.cells #[.int .i64 a0, .int .i64 a1, .int .i64 a2, .int .i64 a3, .int .i64 a4, .int .i64 a5, .bool a6, .int .i64 a7] 30)).alloc (.cells #[.int .i64 b0, .int .i64 b1, .int .i64 b2, .int .i64 b3, .int .i64 b4, .int .i64 b5, .bool b6, .int .i64 b7] 30)) (w.heap.size + 1) 30 #[.int .i64 b0, .int .i64 b1, .int .i64 b2, .int .i64 b3, .int .i64 b4, .int .i64 b5, .bool b6, .int .i64 b7] := Blk.newAt (by simp)
  have hB0 : Below w.heap.size w ((w.alloc (.cells #[.int .i64 a0, .int .i64 a1, .int .i64 a2, .int .i64 a3, .int .i64 a4, .int .i64 a5, .bool a6, .int .i64 a7] 30)).alloc (.cells #[.int .i64 b0, .int .i64 b1, .int .i64 b2, .int .i64 b3, .int .i64 b4, .int .i64 b5, .bool b6, .int .i64 b7] 30)) := by go_grown
  generalize ((w.alloc (.cells #[.int .i64 a0, .int .i64 a1, .int .i64 a2, .int .i64 a3, .int .i64 a4, .int .i64 a5, .bool a6, .int .i64 a7] 30)).alloc (.cells #[.int .i64 b0, .int .i64 b1, .int .i64 b2, .int .i64 b3, .int .i64 b4, .int .i64 b5, .bool b6, .int .i64 b7] 30)) = w0 at *
  have x0 := A0.cell 0
  have x1 := A0.cell 1
  have x2 := A0.cell 2
  have x3 := A0.cell 3
  have x4 := A0.cell 4
  have x5 := A0.cell 5
  have x6 := A0.cell 6
  have x7 := A0.cell 7
  simp only [List.getElem?_toArray, List.getElem?_cons_zero, List.getElem?_cons_succ] at x0 x1 x2 x3 x4 x5 x6 x7
  have y0 := B0.cell 0
  have y1 := B0.cell 1
  have y2 := B0.cell 2
  have y3 := B0.cell 3
  have y4 := B0.cell 4
  have y5 := B0.cell 5
  have y6 := B0.cell 6
  have y7 := B0.cell 7
  simp only [List.getElem?_toArray, List.getElem?_cons_zero, List.getElem?_cons_succ] at y0 y1 y2 y3 y4 y5 y6 y7
  have zA := A0.lt
  have zB := B0.lt
  have e0 : (a0 == a0) = true := by simp
  have e1 : (a1 == a1) = true := by simp
  have e2 : (a2 == a2) = true := by simp
  have e3 : (a3 == a3) = true := by simp
  have e4 : (a4 == a4) = true := by simp
  have e5 : (a5 == a5) = true := by simp
  have e6 : (a6 == a6) = true := by simp
  go_region_held3 (fun w' => (w'.cell? ⟨w.heap.size, 0, none⟩ = some (.int .i64 a0)) ∧ (w'.cell? ⟨w.heap.size, 1, none⟩ = some (.int .i64 a1)) ∧ (w'.cell? ⟨w.heap.size, 2, none⟩ = some (.int .i64 a2)) ∧ (w'.cell? ⟨w.heap.size, 3, none⟩ = some (.int .i64 a3)) ∧ (w'.cell? ⟨w.heap.size, 4, none⟩ = some (.int .i64 a4)) ∧ (w'.cell? ⟨w.heap.size, 5, none⟩ = some (.int .i64 a5)) ∧ (w'.cell? ⟨w.heap.size, 6, none⟩ = some (.bool a6)) ∧ (w'.cell? ⟨w.heap.size, 7, none⟩ = some (.int .i64 a7)) ∧ (w'.cell? ⟨w.heap.size + 1, 0, none⟩ = some (.int .i64 b0)) ∧ (w'.cell? ⟨w.heap.size + 1, 1, none⟩ = some (.int .i64 b1)) ∧ (w'.cell? ⟨w.heap.size + 1, 2, none⟩ = some (.int .i64 b2)) ∧ (w'.cell? ⟨w.heap.size + 1, 3, none⟩ = some (.int .i64 b3)) ∧ (w'.cell? ⟨w.heap.size + 1, 4, none⟩ = some (.int .i64 b4)) ∧ (w'.cell? ⟨w.heap.size + 1, 5, none⟩ = some (.int .i64 b5)) ∧ (w'.cell? ⟨w.heap.size + 1, 6, none⟩ = some (.bool b6)) ∧ (w'.cell? ⟨w.heap.size + 1, 7, none⟩ = some (.int .i64 b7)) ∧ (Below w.heap.size w w')) (first | (go_split_ands; refine ⟨?_, ?_, ?_, ?_, ?_, ?_, ?_, ?_, ?_, ?_, ?_, ?_, ?_, ?_, ?_, ?_, ?_⟩ <;> first | (exact cell_later (by assumption) (by assumption)) | (exact below_then (by assumption) (by assumption)) | (go_grown; done) | go_keep)) (first | (go_at_call 24; refine (HM.out _).mono ?_; rintro e w9 ⟨rfl, hb9⟩) | (go_at_call 25; first | (with_reducible refine (HA.out _).mono ?_; rintro e w9 ⟨rfl, hb9⟩) | (with_reducible refine (HB.out _).mono ?_; rintro e w9 ⟨rfl, hb9⟩)))
  all_goals
    go_split_ands
    go_wp2
    go_ret
    exact ⟨rfl, by assumption⟩
theorem nar_any (a b : Gt) (w : World) :
    Calls Try.prog 27 #[a.V, b.V] w fun e w' => e = .returned (.bool (narB a b)) ∧ Below w.heap.size w w' := by
  cases ha : rightG a with
  | false =>
    have e : narB a b = false := by rw [narB, ha]; rfl
    rw [e]
    have HA := rightT_lit a false ha
    clear e ha
    obtain ⟨a0, a1, a2, a3, a4, a5, a6, a7⟩ := a
    obtain ⟨b0, b1, b2, b3, b4, b5, b6, b7⟩ := b
    exact nar_no1 a0 a1 a2 a3 a4 a5 a6 a7 b0 b1 b2 b3 b4 b5 b6 b7 HA w
  | true =>
    cases hb : rightG b with
    | false =>
      have e : narB a b = false := by rw [narB, ha, hb]; rfl
      rw [e]
      have HA := rightT_lit a true ha
      have HB := rightT_lit b false hb
      clear e ha hb
      obtain ⟨a0, a1, a2, a3, a4, a5, a6, a7⟩ := a
      obtain ⟨b0, b1, b2, b3, b4, b5, b6, b7⟩ := b
      exact nar_no2 (HA := HA) (HB := HB) (w := w)
    | true =>
      by_cases hm : meetC a b = a
      · have e : narB a b = true := by rw [narB, ha, hb, hm]; simp
        rw [e]
        exact nar_yes a b ((rt_iff a).1 ha) ((rt_iff b).1 hb) e w
      · have e : narB a b = false := by rw [narB]; simp [hm]
        rw [e]
        have HA := rightT_lit a true ha
        have HB := rightT_lit b true hb
        have HM : Hid (∀ w, Calls Try.prog 24 #[a.V, b.V] w fun e w' => e = .returned (meetC a b).V ∧ Below w.heap.size w w') := fun w => tmeet_any a b w
        generalize meetC a b = m at hm HM
        clear e ha hb
        obtain ⟨a0, a1, a2, a3, a4, a5, a6, a7⟩ := a
        obtain ⟨b0, b1, b2, b3, b4, b5, b6, b7⟩ := b
        obtain ⟨m0, m1, m2, m3, m4, m5, m6, m7⟩ := m
        by_cases h0 : m0 = a0
        case neg => exact nar_d0 (HA := HA) (HB := HB) (HM := HM) (hk := by simpa using h0) (w := w)
        subst h0
        by_cases h1 : m1 = a1
        case neg => exact nar_d1 (HA := HA) (HB := HB) (HM := HM) (hk := by simpa using h1) (w := w)
        subst h1
        by_cases h2 : m2 = a2
        case neg => exact nar_d2 (HA := HA) (HB := HB) (HM := HM) (hk := by simpa using h2) (w := w)
        subst h2
        by_cases h3 : m3 = a3
        case neg => exact nar_d3 (HA := HA) (HB := HB) (HM := HM) (hk := by simpa using h3) (w := w)
        subst h3
        by_cases h4 : m4 = a4
        case neg => exact nar_d4 (HA := HA) (HB := HB) (HM := HM) (hk := by simpa using h4) (w := w)
        subst h4
        by_cases h5 : m5 = a5
        case neg => exact nar_d5 (HA := HA) (HB := HB) (HM := HM) (hk := by simpa using h5) (w := w)
        subst h5
        by_cases h6 : m6 = a6
        case neg => exact nar_d6 (HA := HA) (HB := HB) (HM := HM) (hk := by simpa using h6) (w := w)
        subst h6
        by_cases h7 : m7 = a7
        case neg => exact nar_d7 (HA := HA) (HB := HB) (HM := HM) (hk := by simpa using h7) (w := w)
        subst h7
        exact absurd rfl hm
end Go.Proofs.Ytjpjkoipmmcigaa
