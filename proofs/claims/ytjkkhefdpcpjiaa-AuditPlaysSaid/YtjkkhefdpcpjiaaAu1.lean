/- audit: New, left, Len, Past, ev by contract. -/
import Derived.Test.YtjkkhefdpcpjiaaAu0
import Derived.StillTailTactics
namespace Go.Proofs.Ytjkkhefdpcpjiaa
set_option linter.unusedVariables false
set_option linter.unusedSimpArgs false
open Go.RowKit
set_option maxHeartbeats 1000000 in
theorem anew_any (w : World) : Calls Try.prog 9 #[] w fun e w' => e = .returned (ptrA w.heap.size) ∧ TR w' w.heap.size (.slice none 0 0) [] 0 0 ∧ Below w.heap.size w w' := by
  go_enter Try.func9, Try.ntmps9
  go_wp2
  go_ret
  exact ⟨rfl, ⟨Blk.new w _ _, EOwn.nil_ _, by simp [Value.ownBlock], Nat.le_refl _, by decide⟩, (Below.refl _ _).alloc (Nat.le_refl _) _⟩
set_option maxHeartbeats 1000000 in
theorem left_any (w : World) (y : Nat) (v : Value) (H : List Ev) (n p : Nat) (h : TR w y v H n p) : Calls Try.prog 24 #[ptrA y] w fun e w' => e = .returned (cutV v n) ∧ ∃ q, w' = w.drewN q := by
  obtain ⟨A, c, rfl, hc1, hc2⟩ := h.own.slice
  have hg := h.gone
  have t0 : w.cell? ⟨y, 0, none⟩ = some (.slice A H.length c) := h.blk.cell 0
  have t1 : w.cell? ⟨y, 1, none⟩ = some (.int .i64 n) := h.blk.cell 1
  have hs := fun w => sl_from A n H.length c hg hc1 w
  clear h
  generalize H.length = m at *
  generalize cutV (.slice A m c) n = u at *
  unfold maxLen at hc2
  go_enter Try.func24, Try.ntmps24
  go_upto_region 3 with fail
  go_quiet (fail)
  go_wp2
  go_ret
  exact ⟨rfl, _, rfl⟩
theorem left_nil (w : World) : Calls Try.prog 24 #[.pointer none] w fun e w' => e = .returned (.slice none 0 0) ∧ ∃ q, w' = w.drewN q := by
  go_enter Try.func24, Try.ntmps24
  go_wp2
  go_ret
  exact ⟨rfl, 0, rfl⟩
theorem alen_any (w : World) (y : Nat) (v : Value) (H : List Ev) (n p : Nat) (h : TR w y v H n p) : Calls Try.prog 15 #[ptrA y] w fun e w' => e = .returned (.int .i64 (H.length - n : Nat)) ∧ ∃ q, w' = w.drewN q := by
  obtain ⟨A, c, rfl, hc1, hc2⟩ := h.own.slice
  have HL := Lib.hid (left_any w y _ H n p h)
  clear h
  obtain ⟨A', c', hA'⟩ : ∃ A' c', cutV (.slice A H.length c) n = .slice A' (H.length - n) c' := ⟨_, _, rfl⟩
  rw [hA'] at HL
  clear hA'
  generalize H.length - n = m at *
  go_enter Try.func15, Try.ntmps15
  go_wp2_with fail
  refine HL.out.mono ?_
  rintro e w' ⟨rfl, q, rfl⟩
  go_wp2
  go_ret
  exact ⟨rfl, q, rfl⟩
theorem alen_nil (w : World) : Calls Try.prog 15 #[.pointer none] w fun e w' => e = .returned (.int .i64 0) ∧ ∃ q, w' = w.drewN q := by
  go_enter Try.func15, Try.ntmps15
  go_wp2_with fail
  refine (left_nil _).mono ?_
  rintro e w' ⟨rfl, q, rfl⟩
  go_wp2
  go_ret
  exact ⟨rfl, q, rfl⟩
theorem apast_any (w : World) (y : Nat) (v : Value) (H : List Ev) (n p : Nat) (h : TR w y v H n p) : Calls Try.prog 16 #[ptrA y] w fun e w' => e = .returned (.int .i64 p) ∧ w = w' := by
  have t2 : w.cell? ⟨y, 2, none⟩ = some (.int .i64 p) := h.blk.cell 2
  clear h
  go_enter Try.func16, Try.ntmps16
  go_wp2
  go_ret
  exact ⟨rfl, rfl⟩
theorem apast_nil (w : World) : Calls Try.prog 16 #[.pointer none] w fun e w' => e = .returned (.int .i64 0) ∧ w = w' := by
  go_enter Try.func16, Try.ntmps16
  go_wp2
  go_ret
  exact ⟨rfl, rfl⟩
theorem ev_any (w : World) (u o : Int) : Calls Try.prog 27 #[.int .i64 u, .int .i64 o] w fun e w' => e = .returned (Ev.V ⟨u, o, 0, 0⟩) ∧ Below w.heap.size w w' := by
  go_enter Try.func27, Try.ntmps27
  go_wp2
  refine bodyPost_ret (v := Ev.V ⟨u, o, 0, 0⟩) (by simp [results, Try.results27, go_sem]) rfl ⟨rfl, by go_grown⟩
end Go.Proofs.Ytjkkhefdpcpjiaa
