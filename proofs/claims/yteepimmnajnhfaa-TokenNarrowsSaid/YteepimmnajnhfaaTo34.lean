/- token: Narrower where it tells true, by contract. -/
import Derived.Test.YteepimmnajnhfaaTo30
import Derived.Deep.RegionHeld3
namespace Go.Proofs.Yteepimmnajnhfaa
set_option linter.unusedVariables false
set_option linter.unusedSimpArgs false
open Go.RowKit
set_option maxRecDepth 100000 in
set_option maxHeartbeats 8000000 in
theorem nar_self (a0 a1 a2 a3 a4 a5 : Int) (a6 : Bool) (a7 : Int) (b0 b1 b2 b3 b4 b5 : Int) (b6 : Bool) (b7 : Int) (HA : Hid (∀ w, Calls Try.prog 25 #[.agg #[.int .i64 a0, .int .i64 a1, .int .i64 a2, .int .i64 a3, .int .i64 a4, .int .i64 a5, .bool a6, .int .i64 a7]] w fun e w' => e = .returned (.bool true) ∧ Below w.heap.size w w')) (HB : Hid (∀ w, Calls Try.prog 25 #[.agg #[.int .i64 b0, .int .i64 b1, .int .i64 b2, .int .i64 b3, .int .i64 b4, .int .i64 b5, .bool b6, .int .i64 b7]] w fun e w' => e = .returned (.bool true) ∧ Below w.heap.size w w')) (HM : Hid (∀ w, Calls Try.prog 24 #[.agg #[.int .i64 a0, .int .i64 a1, .int .i64 a2, .int .i64 a3, .int .i64 a4, .int .i64 a5, .bool a6, .int .i64 a7], .agg #[.int .i64 b0, .int .i64 b1, .int .i64 b2, .int .i64 b3, .int .i64 b4, .int .i64 b5, .bool b6, .int .i64 b7]] w fun e w' => e = .returned (.agg #[.int .i64 a0, .int .i64 a1, .int .i64 a2, .int .i64 a3, .int .i64 a4, .int .i64 a5, .bool a6, .int .i64 a7]) ∧ Below w.heap.size w w')) (w : World) :
    Calls Try.prog 27 #[.agg #[.int .i64 a0, .int .i64 a1, .int .i64 a2, .int .i64 a3, .int .i64 a4, .int .i64 a5, .bool a6, .int .i64 a7], .agg #[.int .i64 b0, .int .i64 b1, .int .i64 b2, .int .i64 b3, .int .i64 b4, .int .i64 b5, .bool b6, .int .i64 b7]] w fun e w' => e = .returned (.bool true) ∧ Below w.heap.size w w' := by
  go_enter Try.func27, Try.ntmps27
  go_upto_region 1 with fail
  have A0 : Blk ((w.alloc (.cells #[.int .i64 a0, .int .i64 a1, .int .i64 a2, .int .i64 a3, .int .i64 a4, .int .i64 a5, .bool a6, .int .i64 a7] 30)).alloc (.cells #[.int .i64 b0, .int .i64 b1, .int .i64 b2, .int .i64 b3, .int .i64 b4, .int .i64 b5, .bool b6, .int .i64 b7] 30)) w.heap.size 30 #[.int .i64 a0, .int .i64 a1, .int .i64 a2, .int .i64 a3, .int .i64 a4, .int .i64 a5, .bool a6, .int .i64 a7] := (Blk.newAt rfl).alloc _
  have B0 : Blk ((w.alloc (.cells #[.int .i64 a0, .int .i64 a1, .int .i64 a2, .int .i64 a3, .int .i64 a4, .int .i64 a5, .bool a6, .int .i64 a7] 30)).alloc (.cells #[.int .i64 b0, .int .i64 b1, .int .i64 b2, .int .i64 b3, .int .i64 b4, .int .i64 b5, .bool b6, .int .i64 b7] 30)) (w.heap.size + 1) 30 #[.int .i64 b0, .int .i64 b1, .int .i64 b2, .int .i64 b3, .int .i64 b4, .int .i64 b5, .bool b6, .int .i64 b7] := Blk.newAt (by simp)
  have hB0 : Below w.heap.size w ((w.alloc (.cells #[.int .i64 a0, .int .i64 a1, .int .i64 a2, .int .i64 a3, .int .i64 a4, .int .i64 a5, .bool a6, .int .i64 a7] 30)).alloc (.cells #[.int .i64 b0, .int .i64 b1, .int .i64 b2, .int .i64 b3, .int .i64 b4, .int .i64 b5, .bool b6, .int .i64 b7] 30)) := by go_grown
  generalize ((w.alloc (.cells #[.int .i64 a0, .int .i64 a1, .int .i64 a2, .int .i64 a3, .int .i64 a4, .int .i64 a5, .bool a6, .int .i64 a7] 30)).alloc (.cells #[.int .i64 b0, .int .i64 b1, .int .i64 b2, .int .i64 b3, .int .i64 b4, .int .i64 b5, .bool b6, .int .i64 b7] 30)) = w0 at *
  have x0 := A0.cell 0
  have x1 := A0.cell 1
  have x2 := A0.cell 2
  have x3 := A0.cell 3
  have x4 := A0.cell 4
  have x5 := A0.cell 5
  have x6 := A0.cell 6
  have x7 := A0.cell 7
  simp only [List.getElem?_toArray, List.getElem?_cons_zero, List.getElem?_cons_succ] at x0 x1 x2 x3 x4 x5 x6 x7
  have y0 := B0.cell 0
  have y1 := B0.cell 1
  have y2 := B0.cell 2
  have y3 := B0.cell 3
  have y4 := B0.cell 4
  have y5 := B0.cell 5
  have y6 := B0.cell 6
  have y7 := B0.cell 7
  simp only [List.getElem?_toArray, List.getElem?_cons_zero, List.getElem?_cons_succ] at y0 y1 y2 y3 y4 y5 y6 y7
  have zA := A0.lt
  have zB := B0.lt
  have e0 : (a0 == a0) = true := by simp
  have e1 : (a1 == a1) = true := by simp
  have e2 : (a2 == a2) = true := by simp
  have e3 : (a3 == a3) = true := by simp
  have e4 : (a4 == a4) = true := by simp
  have e5 : (a5 == a5) = true := by simp
  have e6 : (a6 == a6) = true := by simp
  have e7 : (a7 == a7) = true := by simp
  go_region_held3 (fun w' => (w'.cell? ⟨w.heap.size, 0, none⟩ = some (.int .i64 a0)) ∧ (w'.cell? ⟨w.heap.size, 1, none⟩ = some (.int .i64 a1)) ∧ (w'.cell? ⟨w.heap.size, 2, none⟩ = some (.int .i64 a2)) ∧ (w'.cell? ⟨w.heap.size, 3, none⟩ = some (.int .i64 a3)) ∧ (w'.cell? ⟨w.heap.size, 4, none⟩ = some (.int .i64 a4)) ∧ (w'.cell? ⟨w.heap.size, 5, none⟩ = some (.int .i64 a5)) ∧ (w'.cell? ⟨w.heap.size, 6, none⟩ = some (.bool a6)) ∧ (w'.cell? ⟨w.heap.size, 7, none⟩ = some (.int .i64 a7)) ∧ (w'.cell? ⟨w.heap.size + 1, 0, none⟩ = some (.int .i64 b0)) ∧ (w'.cell? ⟨w.heap.size + 1, 1, none⟩ = some (.int .i64 b1)) ∧ (w'.cell? ⟨w.heap.size + 1, 2, none⟩ = some (.int .i64 b2)) ∧ (w'.cell? ⟨w.heap.size + 1, 3, none⟩ = some (.int .i64 b3)) ∧ (w'.cell? ⟨w.heap.size + 1, 4, none⟩ = some (.int .i64 b4)) ∧ (w'.cell? ⟨w.heap.size + 1, 5, none⟩ = some (.int .i64 b5)) ∧ (w'.cell? ⟨w.heap.size + 1, 6, none⟩ = some (.bool b6)) ∧ (w'.cell? ⟨w.heap.size + 1, 7, none⟩ = some (.int .i64 b7)) ∧ (Below w.heap.size w w')) (first | (go_split_ands; refine ⟨?_, ?_, ?_, ?_, ?_, ?_, ?_, ?_, ?_, ?_, ?_, ?_, ?_, ?_, ?_, ?_, ?_⟩ <;> first | (exact cell_later (by assumption) (by assumption)) | (exact below_then (by assumption) (by assumption)) | (go_grown; done) | go_keep)) (first | (go_at_call 24; refine (HM.out _).mono ?_; rintro e w9 ⟨rfl, hb9⟩) | (go_at_call 25; first | (with_reducible refine (HA.out _).mono ?_; rintro e w9 ⟨rfl, hb9⟩) | (with_reducible refine (HB.out _).mono ?_; rintro e w9 ⟨rfl, hb9⟩)))
  all_goals
    go_split_ands
    go_wp2
    go_ret
    exact ⟨rfl, by assumption⟩
theorem nar_yes (a b : Gt) (ha : Rt a) (hb : Rt b) (h : narB a b = true) (w : World) :
    Calls Try.prog 27 #[a.V, b.V] w fun e w' => e = .returned (.bool true) ∧ Below w.heap.size w w' := by
  have m : meetC a b = a := by
    rw [narB, Bool.and_eq_true] at h
    exact of_decide_eq_true h.2
  have HM : Hid (∀ w, Calls Try.prog 24 #[a.V, b.V] w fun e w' => e = .returned a.V ∧ Below w.heap.size w w') := fun w => by
    have h9 := tmeet_any a b w
    rw [m] at h9
    exact h9
  have HA := rightT_lit a true ((rt_iff a).2 ha)
  have HB := rightT_lit b true ((rt_iff b).2 hb)
  clear h m ha hb
  obtain ⟨a0, a1, a2, a3, a4, a5, a6, a7⟩ := a
  obtain ⟨b0, b1, b2, b3, b4, b5, b6, b7⟩ := b
  exact nar_self _ _ _ _ _ _ _ _ _ _ _ _ _ _ _ _ HA HB HM w
end Go.Proofs.Yteepimmnajnhfaa
