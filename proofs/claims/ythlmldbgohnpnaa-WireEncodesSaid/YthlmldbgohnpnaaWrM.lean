/- wire: the document's Fields and There, by contract. -/
import Derived.Test.YthlmldbgohnpnaaWrK
namespace Go.Proofs.Ythlmldbgohnpnaa
set_option linter.unusedVariables false
set_option linter.unusedSimpArgs false
open Go.RowKit
/-- Widths. -/
def elW : El Nat := { T := 3, k := 1, by_ := 8, z := .int .i64 0, enc := fun c => [.int .i64 (c : Int)] }
theorem elW_ok : elW.Ok := ⟨Nat.one_pos, fun _ => rfl, fun x u hu => by simp [elW] at hu; subst hu; rfl, by kernel_rfl, rfl, by decide⟩
def widL : Nat → List Nat
  | 1 => [2, 1, 1, 2]
  | 2 => [2]
  | 4 => [2, 1, 4]
  | 5 => [1, 1, 2, 2, 2, 2, 4]
  | 6 => [8]
  | 7 => [2, 8]
  | 8 => [2, 2, 1]
  | 13 => [2, 2, 2, 2]
  | 14 => [2, 2]
  | 15 => [2, 2, 2, 2]
  | 16 => [2, 2]
  | 17 => [2]
  | 19 => [2, 2]
  | _ => []
def FldP (L : List Nat) (w : World) (e : Ending) (w' : World) : Prop := ∃ g, e = .returned (.slice (some ⟨g, 0, none⟩) L.length L.length) ∧ EOwn elW w' (.slice (some ⟨g, 0, none⟩) L.length L.length) L ∧ w.heap.size ≤ g ∧ Below w.heap.size w w'
theorem FldP.mk {L : List Nat} {w w' : World} {g : Nat} {cs : Array Value} (hc : cs.toList = elW.encs L) (hl : L.length ≤ 100) (hg : w.heap.size ≤ g) (h : Blk w' g 3 cs) (hb : Below w.heap.size w w') : FldP L w (.returned (.slice (some ⟨g, 0, none⟩) L.length L.length)) w' := ⟨g, rfl, EOwn.block elW_ok h hc (by omega), hg, hb⟩
set_option maxRecDepth 100000 in
set_option maxHeartbeats 8000000 in
theorem fld_1 (w : World) : Calls Try.prog 24 #[.int .i64 1] w fun e w' => FldP (widL 1) w e w' := by
  go_enter Try.func24, Try.ntmps24
  go_wp2_with fail
  go_ret
  refine FldP.mk (L := [2, 1, 1, 2]) (cs := #[.int .i64 2, .int .i64 1, .int .i64 1, .int .i64 2]) rfl (by decide) ?hg ?hk ?hb
  case hk => repeat (first | (refine Blk.newAt ?_; simp; done) | (refine Blk.newAt ?_; simp; omega) | refine Blk.alloc ?_ _)
  case hg => omega
  case hb => go_grown
set_option maxRecDepth 100000 in
set_option maxHeartbeats 8000000 in
theorem fld_2 (w : World) : Calls Try.prog 24 #[.int .i64 2] w fun e w' => FldP (widL 2) w e w' := by
  go_enter Try.func24, Try.ntmps24
  go_wp2_with fail
  go_ret
  refine FldP.mk (L := [2]) (cs := #[.int .i64 2]) rfl (by decide) ?hg ?hk ?hb
  case hk => repeat (first | (refine Blk.newAt ?_; simp; done) | (refine Blk.newAt ?_; simp; omega) | refine Blk.alloc ?_ _)
  case hg => omega
  case hb => go_grown
set_option maxRecDepth 100000 in
set_option maxHeartbeats 8000000 in
theorem fld_3 (w : World) : Calls Try.prog 24 #[.int .i64 3] w fun e w' => FldP (widL 3) w e w' := by
  go_enter Try.func24, Try.ntmps24
  go_wp2_with fail
  go_ret
  refine FldP.mk (L := []) (cs := #[]) rfl (by decide) ?hg ?hk ?hb
  case hk => repeat (first | (refine Blk.newAt ?_; simp; done) | (refine Blk.newAt ?_; simp; omega) | refine Blk.alloc ?_ _)
  case hg => omega
  case hb => go_grown
set_option maxRecDepth 100000 in
set_option maxHeartbeats 8000000 in
theorem fld_4 (w : World) : Calls Try.prog 24 #[.int .i64 4] w fun e w' => FldP (widL 4) w e w' := by
  go_enter Try.func24, Try.ntmps24
  go_wp2_with fail
  go_ret
  refine FldP.mk (L := [2, 1, 4]) (cs := #[.int .i64 2, .int .i64 1, .int .i64 4]) rfl (by decide) ?hg ?hk ?hb
  case hk => repeat (first | (refine Blk.newAt ?_; simp; done) | (refine Blk.newAt ?_; simp; omega) | refine Blk.alloc ?_ _)
  case hg => omega
  case hb => go_grown
set_option maxRecDepth 100000 in
set_option maxHeartbeats 8000000 in
theorem fld_5 (w : World) : Calls Try.prog 24 #[.int .i64 5] w fun e w' => FldP (widL 5) w e w' := by
  go_enter Try.func24, Try.ntmps24
  go_wp2_with fail
  go_ret
  refine FldP.mk (L := [1, 1, 2, 2, 2, 2, 4]) (cs := #[.int .i64 1, .int .i64 1, .int .i64 2, .int .i64 2, .int .i64 2, .int .i64 2, .int .i64 4]) rfl (by decide) ?hg ?hk ?hb
  case hk => repeat (first | (refine Blk.newAt ?_; simp; done) | (refine Blk.newAt ?_; simp; omega) | refine Blk.alloc ?_ _)
  case hg => omega
  case hb => go_grown
set_option maxRecDepth 100000 in
set_option maxHeartbeats 8000000 in
theorem fld_6 (w : World) : Calls Try.prog 24 #[.int .i64 6] w fun e w' => FldP (widL 6) w e w' := by
  go_enter Try.func24, Try.ntmps24
  go_wp2_with fail
  go_ret
  refine FldP.mk (L := [8]) (cs := #[.int .i64 8]) rfl (by decide) ?hg ?hk ?hb
  case hk => repeat (first | (refine Blk.newAt ?_; simp; done) | (refine Blk.newAt ?_; simp; omega) | refine Blk.alloc ?_ _)
  case hg => omega
  case hb => go_grown
set_option maxRecDepth 100000 in
set_option maxHeartbeats 8000000 in
theorem fld_7 (w : World) : Calls Try.prog 24 #[.int .i64 7] w fun e w' => FldP (widL 7) w e w' := by
  go_enter Try.func24, Try.ntmps24
  go_wp2_with fail
  go_ret
  refine FldP.mk (L := [2, 8]) (cs := #[.int .i64 2, .int .i64 8]) rfl (by decide) ?hg ?hk ?hb
  case hk => repeat (first | (refine Blk.newAt ?_; simp; done) | (refine Blk.newAt ?_; simp; omega) | refine Blk.alloc ?_ _)
  case hg => omega
  case hb => go_grown
set_option maxRecDepth 100000 in
set_option maxHeartbeats 8000000 in
theorem fld_8 (w : World) : Calls Try.prog 24 #[.int .i64 8] w fun e w' => FldP (widL 8) w e w' := by
  go_enter Try.func24, Try.ntmps24
  go_wp2_with fail
  go_ret
  refine FldP.mk (L := [2, 2, 1]) (cs := #[.int .i64 2, .int .i64 2, .int .i64 1]) rfl (by decide) ?hg ?hk ?hb
  case hk => repeat (first | (refine Blk.newAt ?_; simp; done) | (refine Blk.newAt ?_; simp; omega) | refine Blk.alloc ?_ _)
  case hg => omega
  case hb => go_grown
set_option maxRecDepth 100000 in
set_option maxHeartbeats 8000000 in
theorem fld_9 (w : World) : Calls Try.prog 24 #[.int .i64 9] w fun e w' => FldP (widL 9) w e w' := by
  go_enter Try.func24, Try.ntmps24
  go_wp2_with fail
  go_ret
  refine FldP.mk (L := []) (cs := #[]) rfl (by decide) ?hg ?hk ?hb
  case hk => repeat (first | (refine Blk.newAt ?_; simp; done) | (refine Blk.newAt ?_; simp; omega) | refine Blk.alloc ?_ _)
  case hg => omega
  case hb => go_grown
set_option maxRecDepth 100000 in
set_option maxHeartbeats 8000000 in
theorem fld_10 (w : World) : Calls Try.prog 24 #[.int .i64 10] w fun e w' => FldP (widL 10) w e w' := by
  go_enter Try.func24, Try.ntmps24
  go_wp2_with fail
  go_ret
  refine FldP.mk (L := []) (cs := #[]) rfl (by decide) ?hg ?hk ?hb
  case hk => repeat (first | (refine Blk.newAt ?_; simp; done) | (refine Blk.newAt ?_; simp; omega) | refine Blk.alloc ?_ _)
  case hg => omega
  case hb => go_grown
set_option maxRecDepth 100000 in
set_option maxHeartbeats 8000000 in
theorem fld_11 (w : World) : Calls Try.prog 24 #[.int .i64 11] w fun e w' => FldP (widL 11) w e w' := by
  go_enter Try.func24, Try.ntmps24
  go_wp2_with fail
  go_ret
  refine FldP.mk (L := []) (cs := #[]) rfl (by decide) ?hg ?hk ?hb
  case hk => repeat (first | (refine Blk.newAt ?_; simp; done) | (refine Blk.newAt ?_; simp; omega) | refine Blk.alloc ?_ _)
  case hg => omega
  case hb => go_grown
set_option maxRecDepth 100000 in
set_option maxHeartbeats 8000000 in
theorem fld_12 (w : World) : Calls Try.prog 24 #[.int .i64 12] w fun e w' => FldP (widL 12) w e w' := by
  go_enter Try.func24, Try.ntmps24
  go_wp2_with fail
  go_ret
  refine FldP.mk (L := []) (cs := #[]) rfl (by decide) ?hg ?hk ?hb
  case hk => repeat (first | (refine Blk.newAt ?_; simp; done) | (refine Blk.newAt ?_; simp; omega) | refine Blk.alloc ?_ _)
  case hg => omega
  case hb => go_grown
set_option maxRecDepth 100000 in
set_option maxHeartbeats 8000000 in
theorem fld_13 (w : World) : Calls Try.prog 24 #[.int .i64 13] w fun e w' => FldP (widL 13) w e w' := by
  go_enter Try.func24, Try.ntmps24
  go_wp2_with fail
  go_ret
  refine FldP.mk (L := [2, 2, 2, 2]) (cs := #[.int .i64 2, .int .i64 2, .int .i64 2, .int .i64 2]) rfl (by decide) ?hg ?hk ?hb
  case hk => repeat (first | (refine Blk.newAt ?_; simp; done) | (refine Blk.newAt ?_; simp; omega) | refine Blk.alloc ?_ _)
  case hg => omega
  case hb => go_grown
set_option maxRecDepth 100000 in
set_option maxHeartbeats 8000000 in
theorem fld_14 (w : World) : Calls Try.prog 24 #[.int .i64 14] w fun e w' => FldP (widL 14) w e w' := by
  go_enter Try.func24, Try.ntmps24
  go_wp2_with fail
  go_ret
  refine FldP.mk (L := [2, 2]) (cs := #[.int .i64 2, .int .i64 2]) rfl (by decide) ?hg ?hk ?hb
  case hk => repeat (first | (refine Blk.newAt ?_; simp; done) | (refine Blk.newAt ?_; simp; omega) | refine Blk.alloc ?_ _)
  case hg => omega
  case hb => go_grown
set_option maxRecDepth 100000 in
set_option maxHeartbeats 8000000 in
theorem fld_15 (w : World) : Calls Try.prog 24 #[.int .i64 15] w fun e w' => FldP (widL 15) w e w' := by
  go_enter Try.func24, Try.ntmps24
  go_wp2_with fail
  go_ret
  refine FldP.mk (L := [2, 2, 2, 2]) (cs := #[.int .i64 2, .int .i64 2, .int .i64 2, .int .i64 2]) rfl (by decide) ?hg ?hk ?hb
  case hk => repeat (first | (refine Blk.newAt ?_; simp; done) | (refine Blk.newAt ?_; simp; omega) | refine Blk.alloc ?_ _)
  case hg => omega
  case hb => go_grown
set_option maxRecDepth 100000 in
set_option maxHeartbeats 8000000 in
theorem fld_16 (w : World) : Calls Try.prog 24 #[.int .i64 16] w fun e w' => FldP (widL 16) w e w' := by
  go_enter Try.func24, Try.ntmps24
  go_wp2_with fail
  go_ret
  refine FldP.mk (L := [2, 2]) (cs := #[.int .i64 2, .int .i64 2]) rfl (by decide) ?hg ?hk ?hb
  case hk => repeat (first | (refine Blk.newAt ?_; simp; done) | (refine Blk.newAt ?_; simp; omega) | refine Blk.alloc ?_ _)
  case hg => omega
  case hb => go_grown
set_option maxRecDepth 100000 in
set_option maxHeartbeats 8000000 in
theorem fld_17 (w : World) : Calls Try.prog 24 #[.int .i64 17] w fun e w' => FldP (widL 17) w e w' := by
  go_enter Try.func24, Try.ntmps24
  go_wp2_with fail
  go_ret
  refine FldP.mk (L := [2]) (cs := #[.int .i64 2]) rfl (by decide) ?hg ?hk ?hb
  case hk => repeat (first | (refine Blk.newAt ?_; simp; done) | (refine Blk.newAt ?_; simp; omega) | refine Blk.alloc ?_ _)
  case hg => omega
  case hb => go_grown
set_option maxRecDepth 100000 in
set_option maxHeartbeats 8000000 in
theorem fld_18 (w : World) : Calls Try.prog 24 #[.int .i64 18] w fun e w' => FldP (widL 18) w e w' := by
  go_enter Try.func24, Try.ntmps24
  go_wp2_with fail
  go_ret
  refine FldP.mk (L := []) (cs := #[]) rfl (by decide) ?hg ?hk ?hb
  case hk => repeat (first | (refine Blk.newAt ?_; simp; done) | (refine Blk.newAt ?_; simp; omega) | refine Blk.alloc ?_ _)
  case hg => omega
  case hb => go_grown
set_option maxRecDepth 100000 in
set_option maxHeartbeats 8000000 in
theorem fld_19 (w : World) : Calls Try.prog 24 #[.int .i64 19] w fun e w' => FldP (widL 19) w e w' := by
  go_enter Try.func24, Try.ntmps24
  go_wp2_with fail
  go_ret
  refine FldP.mk (L := [2, 2]) (cs := #[.int .i64 2, .int .i64 2]) rfl (by decide) ?hg ?hk ?hb
  case hk => repeat (first | (refine Blk.newAt ?_; simp; done) | (refine Blk.newAt ?_; simp; omega) | refine Blk.alloc ?_ _)
  case hg => omega
  case hb => go_grown
theorem fld_any (k : Nat) (h1 : 1 ≤ k) (h19 : k ≤ 19) (w : World) : Calls Try.prog 24 #[.int .i64 (k : Int)] w fun e w' => FldP (widL k) w e w' := by
  have hk : k = 1 ∨ k = 2 ∨ k = 3 ∨ k = 4 ∨ k = 5 ∨ k = 6 ∨ k = 7 ∨ k = 8 ∨ k = 9 ∨ k = 10 ∨ k = 11 ∨ k = 12 ∨ k = 13 ∨ k = 14 ∨ k = 15 ∨ k = 16 ∨ k = 17 ∨ k = 18 ∨ k = 19 := by omega
  rcases hk with rfl | rfl | rfl | rfl | rfl | rfl | rfl | rfl | rfl | rfl | rfl | rfl | rfl | rfl | rfl | rfl | rfl | rfl | rfl
  · exact fld_1 w
  · exact fld_2 w
  · exact fld_3 w
  · exact fld_4 w
  · exact fld_5 w
  · exact fld_6 w
  · exact fld_7 w
  · exact fld_8 w
  · exact fld_9 w
  · exact fld_10 w
  · exact fld_11 w
  · exact fld_12 w
  · exact fld_13 w
  · exact fld_14 w
  · exact fld_15 w
  · exact fld_16 w
  · exact fld_17 w
  · exact fld_18 w
  · exact fld_19 w
end Go.Proofs.Ythlmldbgohnpnaa
