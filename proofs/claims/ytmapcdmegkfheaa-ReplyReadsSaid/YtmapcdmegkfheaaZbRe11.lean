/- reply: without by contract. -/
import Derived.Test.YtmapcdmegkfheaaZbRe10
namespace Go.Proofs.Ytmapcdmegkfheaa
set_option linter.unusedVariables false
set_option linter.unusedSimpArgs false
open Go.RowKit
set_option maxRecDepth 100000 in
set_option maxHeartbeats 4000000 in
theorem without_secret (w : World) (op : Int) (a : An) (hop : op = 4 ∨ op = 5) :
    Calls Try.prog 35 #[.int .i64 op, .agg a.cs] w fun e w' => e = .returned (.agg ({ a with sec := 0 } : An).cs) ∧ Below w.heap.size w w' := by
  obtain ⟨st, sec, rid, rx, ry, lab, b0, b1, b2, b3, sA, sn, sc, eA, en, ec⟩ := a
  simp only [An.cs]
  rcases hop with rfl | rfl
  all_goals
    go_enter Try.func35, Try.ntmps35
    go_wp2
    (try simp only [Exit.inBlock, Exit.then])
    refine bodyPost_ret (results_cell_row rfl _ _ _ _ _ _ _ rfl (heap_alloc2_new _ _ _) rfl rfl (by rfl)) rfl ?_
    exact ⟨rfl, by go_grown⟩
set_option maxRecDepth 100000 in
set_option maxHeartbeats 4000000 in
theorem without_box (w : World) (op : Int) (a : An) (hop : op = 10) :
    Calls Try.prog 35 #[.int .i64 op, .agg a.cs] w fun e w' => e = .returned (.agg ({ a with b0 := 0, b1 := 0, b2 := 0, b3 := 0 } : An).cs) ∧ Below w.heap.size w w' := by
  obtain ⟨st, sec, rid, rx, ry, lab, b0, b1, b2, b3, sA, sn, sc, eA, en, ec⟩ := a
  simp only [An.cs]
  subst hop
  all_goals
    go_enter Try.func35, Try.ntmps35
    go_wp2
    (try simp only [Exit.inBlock, Exit.then])
    refine bodyPost_ret (results_cell_row rfl _ _ _ _ _ _ _ rfl (heap_alloc2_new _ _ _) rfl rfl (by rfl)) rfl ?_
    exact ⟨rfl, by go_grown⟩
set_option maxRecDepth 100000 in
set_option maxHeartbeats 4000000 in
theorem without_where (w : World) (op : Int) (a : An) (hop : op = 12) :
    Calls Try.prog 35 #[.int .i64 op, .agg a.cs] w fun e w' => e = .returned (.agg ({ a with rid := 0, rx := 0, ry := 0, lab := 0 } : An).cs) ∧ Below w.heap.size w w' := by
  obtain ⟨st, sec, rid, rx, ry, lab, b0, b1, b2, b3, sA, sn, sc, eA, en, ec⟩ := a
  simp only [An.cs]
  subst hop
  all_goals
    go_enter Try.func35, Try.ntmps35
    go_wp2
    (try simp only [Exit.inBlock, Exit.then])
    refine bodyPost_ret (results_cell_row rfl _ _ _ _ _ _ _ rfl (heap_alloc2_new _ _ _) rfl rfl (by rfl)) rfl ?_
    exact ⟨rfl, by go_grown⟩
set_option maxRecDepth 100000 in
set_option maxHeartbeats 4000000 in
theorem without_seen (w : World) (op : Int) (a : An) (hop : op = 13 ∨ op = 14 ∨ op = 15 ∨ op = 16) :
    Calls Try.prog 35 #[.int .i64 op, .agg a.cs] w fun e w' => e = .returned (.agg ({ a with sA := none, sn := 0, sc := 0 } : An).cs) ∧ Below w.heap.size w w' := by
  obtain ⟨st, sec, rid, rx, ry, lab, b0, b1, b2, b3, sA, sn, sc, eA, en, ec⟩ := a
  simp only [An.cs]
  rcases hop with rfl | rfl | rfl | rfl
  all_goals
    go_enter Try.func35, Try.ntmps35
    go_wp2
    (try simp only [Exit.inBlock, Exit.then])
    refine bodyPost_ret (results_cell_row rfl _ _ _ _ _ _ _ rfl (heap_alloc2_new _ _ _) rfl rfl (by rfl)) rfl ?_
    exact ⟨rfl, by go_grown⟩
set_option maxRecDepth 100000 in
set_option maxHeartbeats 4000000 in
theorem without_events (w : World) (op : Int) (a : An) (hop : op = 17 ∨ op = 18) :
    Calls Try.prog 35 #[.int .i64 op, .agg a.cs] w fun e w' => e = .returned (.agg ({ a with eA := none, en := 0, ec := 0 } : An).cs) ∧ Below w.heap.size w w' := by
  obtain ⟨st, sec, rid, rx, ry, lab, b0, b1, b2, b3, sA, sn, sc, eA, en, ec⟩ := a
  simp only [An.cs]
  rcases hop with rfl | rfl
  all_goals
    go_enter Try.func35, Try.ntmps35
    go_wp2
    (try simp only [Exit.inBlock, Exit.then])
    refine bodyPost_ret (results_cell_row rfl _ _ _ _ _ _ _ rfl (heap_alloc2_new _ _ _) rfl rfl (by rfl)) rfl ?_
    exact ⟨rfl, by go_grown⟩
set_option maxRecDepth 100000 in
set_option maxHeartbeats 4000000 in
theorem without_else (w : World) (op : Int) (a : An) (h4 : op ≠ 4) (h5 : op ≠ 5) (h10 : op ≠ 10) (h12 : op ≠ 12) (h13 : op ≠ 13) (h14 : op ≠ 14) (h15 : op ≠ 15) (h16 : op ≠ 16) (h17 : op ≠ 17) (h18 : op ≠ 18) :
    Calls Try.prog 35 #[.int .i64 op, .agg a.cs] w fun e w' => e = .returned (.agg a.cs) ∧ Below w.heap.size w w' := by
  obtain ⟨st, sec, rid, rx, ry, lab, b0, b1, b2, b3, sA, sn, sc, eA, en, ec⟩ := a
  simp only [An.cs]
  all_goals
    go_enter Try.func35, Try.ntmps35
    go_wp2
    (try simp only [Exit.inBlock, Exit.then])
    refine bodyPost_ret (results_cell_row rfl _ _ _ _ _ _ _ rfl (heap_alloc2_new _ _ _) rfl rfl (by rfl)) rfl ?_
    exact ⟨rfl, by go_grown⟩
end Go.Proofs.Ytmapcdmegkfheaa
