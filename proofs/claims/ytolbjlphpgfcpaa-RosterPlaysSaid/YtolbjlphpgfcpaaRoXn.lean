/- roster: users where no one is enrolled. -/
import Derived.Test.YtolbjlphpgfcpaaRoX
namespace Go.Proofs.Ytolbjlphpgfcpaa
set_option linter.unusedVariables false
set_option linter.unusedSimpArgs false
open Go.RowKit Go.Sort Go.Maps
set_option maxRecDepth 100000 in
set_option maxHeartbeats 8000000 in
theorem users_none (w : World) (y : Nat) (hb : Blk w y 53 #[.map none]) :
    Calls Try.prog 27 #[ptrA y] w (UsP (fun _ => none) w) := by
  have t0 : w.cell? ⟨y, 0, none⟩ = some (.map none) := hb.cell 0
  have zy := hb.lt
  have hx := Blk.new w elI.T #[.int .i64 0]
  have HF0 := Lib.hid (show FE elI w (.slice (some ⟨w.heap.size, 0, none⟩) 1 1) [0] (w.alloc (.cells #[.int .i64 0] 3)) from ⟨EOwn.block elI_ok (M := [0]) hx rfl (by simp), (Below.refl _ _).alloc (Nat.le_refl _) _, fun i hi => by simp [Value.ownBlock] at hi; omega⟩)
  clear hb hx
  have hrg := run_range_nilMap (P := Try.prog) (w.alloc (.cells #[.int .i64 0] 3)) 51 3 34 Try.underlying51
  have hnx : ∀ ty, (Instr.next (.pointer (some ⟨(w.alloc (.cells #[.int .i64 0] 3)).heap.size, 0, none⟩)) false ty).run Try.prog ((w.alloc (.cells #[.int .i64 0] 3)).alloc (.mapIter none 0 #[] 0)) = _ := fun ty => run_next_nilMap _ ty 0 0 #[]
  have e1 : (w.alloc (.cells #[.int .i64 0] 3)).heap.size = w.heap.size + 1 := by simp
  rw [e1] at hrg hnx
  have HF1 := Lib.hid (show EOwn elI ((w.alloc (.cells #[.int .i64 0] 3)).alloc (.mapIter none 0 #[] 0)) (.slice (some ⟨w.heap.size, 0, none⟩) 1 1) [0] from HF0.out.own.below ((Below.refl _ _).alloc (Nat.le_refl _) _))
  go_enter Try.func27, Try.ntmps27
  go_wp2_with fail
  refine wp_loop_rounds 1 ?_
  rw [rounds_succ]
  obtain ⟨g, cap, hgv, hrow⟩ : ∃ g cap, (Value.slice (some ⟨w.heap.size, 0, none⟩) 1 1) = .slice (some ⟨g, 0, none⟩) [(0 : Int)].length cap ∧ ERow elI ((w.alloc (.cells #[.int .i64 0] 3)).alloc (.mapIter none 0 #[] 0)) g cap [0] := by
    rcases HF1.out with ⟨h9, _⟩ | h9
    · cases h9
    · exact h9
  cases hgv
  have HROW := Lib.hid hrow
  clear hrow
  go_wp2_with (go_at_call 34; refine (sort_own HROW.out (by decide)).mono ?_; rintro e w2 ⟨rfl, ho, hg9⟩; have HO := Lib.hid ho; have HG := Lib.hid hg9; clear ho hg9)
  go_ret
  refine ⟨_, _, rfl, ⟨HO.out, (((Below.refl _ _).alloc (Nat.le_refl _) _).alloc (by simp) _).trans (below_grownN HG.out (fun i hi => by cases hi; exact Nat.le_refl _) (by simp; omega)), fun i hi => by simp [Value.ownBlock] at hi; omega⟩, sorted_lt (by simp), by rw [List.length_mergeSort]; decide, fun u => ?_⟩
  rw [List.mem_mergeSort]
  simp
theorem users_any (w : World) (y n c : Nat) (o : Option Nat) (H : Int → Option Mb) (h : RS w y o n H c) (hc : c ≤ 100000) : Calls Try.prog 27 #[ptrA y] w (UsP H w) := by
  rcases h.mp with ⟨rfl, rfl, rfl⟩ | ⟨mp, rfl, hne, hm⟩
  · exact users_none w y h.blk
  · exact users_some w y n c mp H h.blk hm h.wf hc
end Go.Proofs.Ytolbjlphpgfcpaa
