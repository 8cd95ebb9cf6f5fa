/- reply: the document's tables, by contract. -/
import Derived.Test.YtmapcdmegkfheaaZbRe1
namespace Go.Proofs.Ytmapcdmegkfheaa
set_option linter.unusedVariables false
set_option linter.unusedSimpArgs false
open Go.RowKit
theorem ronce_1 (w : World) : Calls Try.prog 20 #[.int .i64 1] w fun e w' => e = .returned (.int .i64 (onceN 1 : Int)) ∧ Below w.heap.size w w' := by
  go_enter Try.func20, Try.ntmps20
  go_wp2
  go_ret
  exact ⟨rfl, by go_grown⟩
theorem ronce_2 (w : World) : Calls Try.prog 20 #[.int .i64 2] w fun e w' => e = .returned (.int .i64 (onceN 2 : Int)) ∧ Below w.heap.size w w' := by
  go_enter Try.func20, Try.ntmps20
  go_wp2
  go_ret
  exact ⟨rfl, by go_grown⟩
theorem ronce_3 (w : World) : Calls Try.prog 20 #[.int .i64 3] w fun e w' => e = .returned (.int .i64 (onceN 3 : Int)) ∧ Below w.heap.size w w' := by
  go_enter Try.func20, Try.ntmps20
  go_wp2
  go_ret
  exact ⟨rfl, by go_grown⟩
theorem ronce_4 (w : World) : Calls Try.prog 20 #[.int .i64 4] w fun e w' => e = .returned (.int .i64 (onceN 4 : Int)) ∧ Below w.heap.size w w' := by
  go_enter Try.func20, Try.ntmps20
  go_wp2
  go_ret
  exact ⟨rfl, by go_grown⟩
theorem ronce_5 (w : World) : Calls Try.prog 20 #[.int .i64 5] w fun e w' => e = .returned (.int .i64 (onceN 5 : Int)) ∧ Below w.heap.size w w' := by
  go_enter Try.func20, Try.ntmps20
  go_wp2
  go_ret
  exact ⟨rfl, by go_grown⟩
theorem ronce_6 (w : World) : Calls Try.prog 20 #[.int .i64 6] w fun e w' => e = .returned (.int .i64 (onceN 6 : Int)) ∧ Below w.heap.size w w' := by
  go_enter Try.func20, Try.ntmps20
  go_wp2
  go_ret
  exact ⟨rfl, by go_grown⟩
theorem ronce_7 (w : World) : Calls Try.prog 20 #[.int .i64 7] w fun e w' => e = .returned (.int .i64 (onceN 7 : Int)) ∧ Below w.heap.size w w' := by
  go_enter Try.func20, Try.ntmps20
  go_wp2
  go_ret
  exact ⟨rfl, by go_grown⟩
theorem ronce_8 (w : World) : Calls Try.prog 20 #[.int .i64 8] w fun e w' => e = .returned (.int .i64 (onceN 8 : Int)) ∧ Below w.heap.size w w' := by
  go_enter Try.func20, Try.ntmps20
  go_wp2
  go_ret
  exact ⟨rfl, by go_grown⟩
theorem ronce_9 (w : World) : Calls Try.prog 20 #[.int .i64 9] w fun e w' => e = .returned (.int .i64 (onceN 9 : Int)) ∧ Below w.heap.size w w' := by
  go_enter Try.func20, Try.ntmps20
  go_wp2
  go_ret
  exact ⟨rfl, by go_grown⟩
theorem ronce_10 (w : World) : Calls Try.prog 20 #[.int .i64 10] w fun e w' => e = .returned (.int .i64 (onceN 10 : Int)) ∧ Below w.heap.size w w' := by
  go_enter Try.func20, Try.ntmps20
  go_wp2
  go_ret
  exact ⟨rfl, by go_grown⟩
theorem ronce_11 (w : World) : Calls Try.prog 20 #[.int .i64 11] w fun e w' => e = .returned (.int .i64 (onceN 11 : Int)) ∧ Below w.heap.size w w' := by
  go_enter Try.func20, Try.ntmps20
  go_wp2
  go_ret
  exact ⟨rfl, by go_grown⟩
theorem ronce_12 (w : World) : Calls Try.prog 20 #[.int .i64 12] w fun e w' => e = .returned (.int .i64 (onceN 12 : Int)) ∧ Below w.heap.size w w' := by
  go_enter Try.func20, Try.ntmps20
  go_wp2
  go_ret
  exact ⟨rfl, by go_grown⟩
theorem ronce_13 (w : World) : Calls Try.prog 20 #[.int .i64 13] w fun e w' => e = .returned (.int .i64 (onceN 13 : Int)) ∧ Below w.heap.size w w' := by
  go_enter Try.func20, Try.ntmps20
  go_wp2
  go_ret
  exact ⟨rfl, by go_grown⟩
theorem ronce_14 (w : World) : Calls Try.prog 20 #[.int .i64 14] w fun e w' => e = .returned (.int .i64 (onceN 14 : Int)) ∧ Below w.heap.size w w' := by
  go_enter Try.func20, Try.ntmps20
  go_wp2
  go_ret
  exact ⟨rfl, by go_grown⟩
theorem ronce_15 (w : World) : Calls Try.prog 20 #[.int .i64 15] w fun e w' => e = .returned (.int .i64 (onceN 15 : Int)) ∧ Below w.heap.size w w' := by
  go_enter Try.func20, Try.ntmps20
  go_wp2
  go_ret
  exact ⟨rfl, by go_grown⟩
theorem ronce_16 (w : World) : Calls Try.prog 20 #[.int .i64 16] w fun e w' => e = .returned (.int .i64 (onceN 16 : Int)) ∧ Below w.heap.size w w' := by
  go_enter Try.func20, Try.ntmps20
  go_wp2
  go_ret
  exact ⟨rfl, by go_grown⟩
theorem ronce_17 (w : World) : Calls Try.prog 20 #[.int .i64 17] w fun e w' => e = .returned (.int .i64 (onceN 17 : Int)) ∧ Below w.heap.size w w' := by
  go_enter Try.func20, Try.ntmps20
  go_wp2
  go_ret
  exact ⟨rfl, by go_grown⟩
theorem ronce_18 (w : World) : Calls Try.prog 20 #[.int .i64 18] w fun e w' => e = .returned (.int .i64 (onceN 18 : Int)) ∧ Below w.heap.size w w' := by
  go_enter Try.func20, Try.ntmps20
  go_wp2
  go_ret
  exact ⟨rfl, by go_grown⟩
theorem ronce_19 (w : World) : Calls Try.prog 20 #[.int .i64 19] w fun e w' => e = .returned (.int .i64 (onceN 19 : Int)) ∧ Below w.heap.size w w' := by
  go_enter Try.func20, Try.ntmps20
  go_wp2
  go_ret
  exact ⟨rfl, by go_grown⟩
theorem ronce_any (k : Nat) (h1 : 1 ≤ k) (h19 : k ≤ 19) (w : World) : Calls Try.prog 20 #[.int .i64 (k : Int)] w fun e w' => e = .returned (.int .i64 (onceN k : Int)) ∧ Below w.heap.size w w' := by
  have hk : k = 1 ∨ k = 2 ∨ k = 3 ∨ k = 4 ∨ k = 5 ∨ k = 6 ∨ k = 7 ∨ k = 8 ∨ k = 9 ∨ k = 10 ∨ k = 11 ∨ k = 12 ∨ k = 13 ∨ k = 14 ∨ k = 15 ∨ k = 16 ∨ k = 17 ∨ k = 18 ∨ k = 19 := by omega
  rcases hk with rfl | rfl | rfl | rfl | rfl | rfl | rfl | rfl | rfl | rfl | rfl | rfl | rfl | rfl | rfl | rfl | rfl | rfl | rfl
  · exact ronce_1 w
  · exact ronce_2 w
  · exact ronce_3 w
  · exact ronce_4 w
  · exact ronce_5 w
  · exact ronce_6 w
  · exact ronce_7 w
  · exact ronce_8 w
  · exact ronce_9 w
  · exact ronce_10 w
  · exact ronce_11 w
  · exact ronce_12 w
  · exact ronce_13 w
  · exact ronce_14 w
  · exact ronce_15 w
  · exact ronce_16 w
  · exact ronce_17 w
  · exact ronce_18 w
  · exact ronce_19 w
theorem reach_1 (w : World) : Calls Try.prog 21 #[.int .i64 1] w fun e w' => e = .returned (.int .i64 (eachN 1 : Int)) ∧ Below w.heap.size w w' := by
  go_enter Try.func21, Try.ntmps21
  go_wp2
  go_ret
  exact ⟨rfl, by go_grown⟩
theorem reach_2 (w : World) : Calls Try.prog 21 #[.int .i64 2] w fun e w' => e = .returned (.int .i64 (eachN 2 : Int)) ∧ Below w.heap.size w w' := by
  go_enter Try.func21, Try.ntmps21
  go_wp2
  go_ret
  exact ⟨rfl, by go_grown⟩
theorem reach_3 (w : World) : Calls Try.prog 21 #[.int .i64 3] w fun e w' => e = .returned (.int .i64 (eachN 3 : Int)) ∧ Below w.heap.size w w' := by
  go_enter Try.func21, Try.ntmps21
  go_wp2
  go_ret
  exact ⟨rfl, by go_grown⟩
theorem reach_4 (w : World) : Calls Try.prog 21 #[.int .i64 4] w fun e w' => e = .returned (.int .i64 (eachN 4 : Int)) ∧ Below w.heap.size w w' := by
  go_enter Try.func21, Try.ntmps21
  go_wp2
  go_ret
  exact ⟨rfl, by go_grown⟩
theorem reach_5 (w : World) : Calls Try.prog 21 #[.int .i64 5] w fun e w' => e = .returned (.int .i64 (eachN 5 : Int)) ∧ Below w.heap.size w w' := by
  go_enter Try.func21, Try.ntmps21
  go_wp2
  go_ret
  exact ⟨rfl, by go_grown⟩
theorem reach_6 (w : World) : Calls Try.prog 21 #[.int .i64 6] w fun e w' => e = .returned (.int .i64 (eachN 6 : Int)) ∧ Below w.heap.size w w' := by
  go_enter Try.func21, Try.ntmps21
  go_wp2
  go_ret
  exact ⟨rfl, by go_grown⟩
theorem reach_7 (w : World) : Calls Try.prog 21 #[.int .i64 7] w fun e w' => e = .returned (.int .i64 (eachN 7 : Int)) ∧ Below w.heap.size w w' := by
  go_enter Try.func21, Try.ntmps21
  go_wp2
  go_ret
  exact ⟨rfl, by go_grown⟩
theorem reach_8 (w : World) : Calls Try.prog 21 #[.int .i64 8] w fun e w' => e = .returned (.int .i64 (eachN 8 : Int)) ∧ Below w.heap.size w w' := by
  go_enter Try.func21, Try.ntmps21
  go_wp2
  go_ret
  exact ⟨rfl, by go_grown⟩
theorem reach_9 (w : World) : Calls Try.prog 21 #[.int .i64 9] w fun e w' => e = .returned (.int .i64 (eachN 9 : Int)) ∧ Below w.heap.size w w' := by
  go_enter Try.func21, Try.ntmps21
  go_wp2
  go_ret
  exact ⟨rfl, by go_grown⟩
theorem reach_10 (w : World) : Calls Try.prog 21 #[.int .i64 10] w fun e w' => e = .returned (.int .i64 (eachN 10 : Int)) ∧ Below w.heap.size w w' := by
  go_enter Try.func21, Try.ntmps21
  go_wp2
  go_ret
  exact ⟨rfl, by go_grown⟩
theorem reach_11 (w : World) : Calls Try.prog 21 #[.int .i64 11] w fun e w' => e = .returned (.int .i64 (eachN 11 : Int)) ∧ Below w.heap.size w w' := by
  go_enter Try.func21, Try.ntmps21
  go_wp2
  go_ret
  exact ⟨rfl, by go_grown⟩
theorem reach_12 (w : World) : Calls Try.prog 21 #[.int .i64 12] w fun e w' => e = .returned (.int .i64 (eachN 12 : Int)) ∧ Below w.heap.size w w' := by
  go_enter Try.func21, Try.ntmps21
  go_wp2
  go_ret
  exact ⟨rfl, by go_grown⟩
theorem reach_13 (w : World) : Calls Try.prog 21 #[.int .i64 13] w fun e w' => e = .returned (.int .i64 (eachN 13 : Int)) ∧ Below w.heap.size w w' := by
  go_enter Try.func21, Try.ntmps21
  go_wp2
  go_ret
  exact ⟨rfl, by go_grown⟩
theorem reach_14 (w : World) : Calls Try.prog 21 #[.int .i64 14] w fun e w' => e = .returned (.int .i64 (eachN 14 : Int)) ∧ Below w.heap.size w w' := by
  go_enter Try.func21, Try.ntmps21
  go_wp2
  go_ret
  exact ⟨rfl, by go_grown⟩
theorem reach_15 (w : World) : Calls Try.prog 21 #[.int .i64 15] w fun e w' => e = .returned (.int .i64 (eachN 15 : Int)) ∧ Below w.heap.size w w' := by
  go_enter Try.func21, Try.ntmps21
  go_wp2
  go_ret
  exact ⟨rfl, by go_grown⟩
theorem reach_16 (w : World) : Calls Try.prog 21 #[.int .i64 16] w fun e w' => e = .returned (.int .i64 (eachN 16 : Int)) ∧ Below w.heap.size w w' := by
  go_enter Try.func21, Try.ntmps21
  go_wp2
  go_ret
  exact ⟨rfl, by go_grown⟩
theorem reach_17 (w : World) : Calls Try.prog 21 #[.int .i64 17] w fun e w' => e = .returned (.int .i64 (eachN 17 : Int)) ∧ Below w.heap.size w w' := by
  go_enter Try.func21, Try.ntmps21
  go_wp2
  go_ret
  exact ⟨rfl, by go_grown⟩
theorem reach_18 (w : World) : Calls Try.prog 21 #[.int .i64 18] w fun e w' => e = .returned (.int .i64 (eachN 18 : Int)) ∧ Below w.heap.size w w' := by
  go_enter Try.func21, Try.ntmps21
  go_wp2
  go_ret
  exact ⟨rfl, by go_grown⟩
theorem reach_19 (w : World) : Calls Try.prog 21 #[.int .i64 19] w fun e w' => e = .returned (.int .i64 (eachN 19 : Int)) ∧ Below w.heap.size w w' := by
  go_enter Try.func21, Try.ntmps21
  go_wp2
  go_ret
  exact ⟨rfl, by go_grown⟩
theorem reach_any (k : Nat) (h1 : 1 ≤ k) (h19 : k ≤ 19) (w : World) : Calls Try.prog 21 #[.int .i64 (k : Int)] w fun e w' => e = .returned (.int .i64 (eachN k : Int)) ∧ Below w.heap.size w w' := by
  have hk : k = 1 ∨ k = 2 ∨ k = 3 ∨ k = 4 ∨ k = 5 ∨ k = 6 ∨ k = 7 ∨ k = 8 ∨ k = 9 ∨ k = 10 ∨ k = 11 ∨ k = 12 ∨ k = 13 ∨ k = 14 ∨ k = 15 ∨ k = 16 ∨ k = 17 ∨ k = 18 ∨ k = 19 := by omega
  rcases hk with rfl | rfl | rfl | rfl | rfl | rfl | rfl | rfl | rfl | rfl | rfl | rfl | rfl | rfl | rfl | rfl | rfl | rfl | rfl
  · exact reach_1 w
  · exact reach_2 w
  · exact reach_3 w
  · exact reach_4 w
  · exact reach_5 w
  · exact reach_6 w
  · exact reach_7 w
  · exact reach_8 w
  · exact reach_9 w
  · exact reach_10 w
  · exact reach_11 w
  · exact reach_12 w
  · exact reach_13 w
  · exact reach_14 w
  · exact reach_15 w
  · exact reach_16 w
  · exact reach_17 w
  · exact reach_18 w
  · exact reach_19 w
end Go.Proofs.Ytmapcdmegkfheaa
