/- frame's buffer by contract: New, Waiting, Over, cut, Feed. -/
import Derived.Test.YtmkehbmegimecaaFrameMem
import Derived.Test.YtmkehbmegimecaaGet
import Derived.WalkKit
import Derived.WalkSpells
import Derived.WalkLawsBesides
import Derived.BigQuiet
import Derived.Deep.QuietTactic
import Derived.Deep.RegionHeld3
import Derived.Deep.RegionLaw
import Derived.Lib.Hide
import Derived.Handy
import Derived.RegionTactic
import Derived.Outline
import Derived.IntWalk
namespace Go.Proofs.Ytmkehbmegimecaa
set_option linter.unusedVariables false
set_option linter.unusedSimpArgs false
open Go.RowKit
theorem ret_bool {a b : Bool} (h : a = b) : Ending.returned (.bool a) = .returned (.bool b) := by rw [h]
theorem run_min2 {P : Program} (w : World) (ts : Array TypeId) (t : TypeId) (k k' : IntKind) (x y : Int) : (Builtin.min_ ts t #[.int k x, .int k' y]).run P w = .ok (.int k (min x y)) w := by
  rw [run_min_int2]
  have : (if y < x then y else x) = min x y := by omega
  rw [this]
attribute [local go_sem high] run_min2
set_option maxHeartbeats 400000 in
theorem new_yes (room : Int) (h : 602 ≤ room) (h2 : room ≤ 4096) (w : World) : Calls Try.prog 8 #[.int .i64 room] w fun e w' => e = .returned (.tuple #[.pointer (some ⟨w.heap.size, 0, none⟩), .int .i64 0]) ∧ w.alloc (.cells #[.int .i64 room, .slice none 0 0, .int .i64 0] 58) = w' := by
  go_enter Try.func8, Try.ntmps8
  go_wp2
  go_ret2
  exact ⟨rfl, rfl⟩
set_option maxHeartbeats 400000 in
theorem new_no (room : Int) (h : room < 602 ∨ 4096 < room) (w : World) : Calls Try.prog 8 #[.int .i64 room] w fun e w' => e = .returned (.tuple #[.pointer none, .int .i64 1]) ∧ w = w' := by
  rcases h with h | h
  · go_enter Try.func8, Try.ntmps8
    go_wp2
    go_ret2
    exact ⟨rfl, rfl⟩
  · have h' : ¬ room < 602 := by omega
    go_enter Try.func8, Try.ntmps8
    go_wp2
    go_ret2
    exact ⟨rfl, rfl⟩
set_option maxHeartbeats 400000 in
theorem waiting_any (p n cap : Nat) (A : Option Addr) (room ov : Int) (w : World) (hp : Blk w p 58 #[.int .i64 room, .slice A n cap, .int .i64 ov]) : Calls Try.prog 16 #[.pointer (some ⟨p, 0, none⟩)] w fun e w' => e = .returned (.int .i64 (n : Int)) ∧ w = w' := by
  have k0 := hp.cell 0
  have k1 := hp.cell 1
  have k2 := hp.cell 2
  simp only [List.getElem?_toArray, List.getElem?_cons_zero, List.getElem?_cons_succ] at k0 k1 k2
  go_enter Try.func16, Try.ntmps16
  go_wp2
  go_ret
  exact ⟨rfl, rfl⟩
set_option maxHeartbeats 400000 in
theorem waiting_nil (w : World) : Calls Try.prog 16 #[.pointer none] w fun e w' => e = .returned (.int .i64 0) ∧ w = w' := by
  go_enter Try.func16, Try.ntmps16
  go_wp2
  go_ret
  exact ⟨rfl, rfl⟩
set_option maxHeartbeats 400000 in
theorem over_any (p n cap : Nat) (A : Option Addr) (room ov : Int) (w : World) (hp : Blk w p 58 #[.int .i64 room, .slice A n cap, .int .i64 ov]) : Calls Try.prog 17 #[.pointer (some ⟨p, 0, none⟩)] w fun e w' => e = .returned (.int .i64 ov) ∧ w = w' := by
  have k0 := hp.cell 0
  have k1 := hp.cell 1
  have k2 := hp.cell 2
  simp only [List.getElem?_toArray, List.getElem?_cons_zero, List.getElem?_cons_succ] at k0 k1 k2
  go_enter Try.func17, Try.ntmps17
  go_wp2
  go_ret
  exact ⟨rfl, rfl⟩
set_option maxHeartbeats 400000 in
theorem over_nil (w : World) : Calls Try.prog 17 #[.pointer none] w fun e w' => e = .returned (.int .i64 0) ∧ w = w' := by
  go_enter Try.func17, Try.ntmps17
  go_wp2
  go_ret
  exact ⟨rfl, rfl⟩
set_option maxHeartbeats 400000 in
theorem cut_any (p n cap k : Nat) (A : Option Addr) (room ov : Int) (w : World) (hp : Blk w p 58 #[.int .i64 room, .slice A n cap, .int .i64 ov]) (hk : k ≤ n) (hn : n ≤ cap) (hm : n ≤ 1099511627776) : Calls Try.prog 26 #[.pointer (some ⟨p, 0, none⟩), .int .i64 (k : Int)] w fun e w' => e = .returned (.slice A k k) ∧ w' = w.setCell ⟨p, 1, none⟩ (.slice (if cap = k then A else A.map (·.add k)) (n - k) (cap - k)) := by
  have k0 := hp.cell 0
  have k1 := hp.cell 1
  have k2 := hp.cell 2
  have f1 := hp.frozen 1
  simp only [List.getElem?_toArray, List.getElem?_cons_zero, List.getElem?_cons_succ] at k0 k1 k2
  have hkc : (k : Int) ≤ (cap : Int) := by omega
  have hkn : (k : Int) ≤ (n : Int) := by omega
  have hkc2 : k ≤ cap := by omega
  go_enter Try.func26, Try.ntmps26
  go_wp2
  all_goals
    go_ret
    exact ⟨rfl, rfl⟩
end Go.Proofs.Ytmkehbmegimecaa
