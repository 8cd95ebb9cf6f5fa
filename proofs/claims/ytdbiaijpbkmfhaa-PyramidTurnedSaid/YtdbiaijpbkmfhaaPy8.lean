/- pyramid: one that is not there; the fixed calls. -/
import Derived.Test.YtdbiaijpbkmfhaaPy7
namespace Go.Proofs.Ytdbiaijpbkmfhaa
set_option linter.unusedVariables false
set_option linter.unusedSimpArgs false
open Go.RowKit
set_option maxRecDepth 100000 in
set_option maxHeartbeats 2000000 in
theorem count_nil (L cx cy : Int) (w : World) :
    Calls Try.prog 17 #[.pointer none, .agg #[.int .i64 L, .int .i64 cx, .int .i64 cy]] w fun e w' => e = .returned (.int .i64 0) ∧ Below w.heap.size w w' := by
  have HCD := Lib.hid (code_u L cx cy)
  generalize codU L cx cy = cc at *
  generalize okC L cx cy = ob at *
  have hA : Below w.heap.size w (w.alloc (.cells #[.int .i64 L, .int .i64 cx, .int .i64 cy] 24)) := (Below.refl _ _).alloc (Nat.le_refl _) _
  go_enter Try.func17, Try.ntmps17
  go_wp2_with fail
  refine (HCD.out _).mono ?_
  rintro e w2 ⟨rfl, hb2⟩
  have HB2 := Lib.hid (below_trans hA hb2)
  clear hA hb2
  go_wp2
  go_ret
  exact ⟨rfl, HB2.out⟩
set_option maxHeartbeats 2000000 in
theorem level_nil (L : Int) (w : World) :
    Calls Try.prog 24 #[.pointer none, .int .i64 L] w fun e w' => e = .returned (.int .i64 0) ∧ Below w.heap.size w w' := by
  go_enter Try.func24, Try.ntmps24
  go_wp2
  go_ret
  exact ⟨rfl, Below.refl _ _⟩
set_option maxHeartbeats 2000000 in
theorem total_nil (w : World) :
    Calls Try.prog 16 #[.pointer none] w fun e w' => e = .returned (.int .i64 0) ∧ Below w.heap.size w w' := by
  go_enter Try.func16, Try.ntmps16
  go_wp2_with fail
  refine (count_nil 0 0 0 w).mono ?_
  rintro e w2 ⟨rfl, hb2⟩
  go_wp2
  go_ret
  exact ⟨rfl, hb2⟩
set_option maxHeartbeats 2000000 in
theorem points_nil (w : World) :
    Calls Try.prog 20 #[.pointer none] w fun e w' => e = .returned (.slice none 0 0) ∧ Below w.heap.size w w' := by
  go_enter Try.func20, Try.ntmps20
  go_wp2
  go_ret
  exact ⟨rfl, Below.refl _ _⟩
set_option maxHeartbeats 2000000 in
theorem cells_nil (w : World) :
    Calls Try.prog 25 #[.pointer none] w fun e w' => e = .returned (.int .i64 0) ∧ Below w.heap.size w w' := by
  go_enter Try.func25, Try.ntmps25
  go_wp2
  go_loopw [3, 5] (fun n i wr => ∃ (k : Nat), k ≤ 17 ∧ i = .int .i64 k ∧ n = .int .i64 0 ∧ Hid (Below w.heap.size w wr)) (fun _ i _ => 17 - (intOf i).toNat)
  case atStart => exact ⟨0, by omega, rfl, rfl, Lib.hid (Below.refl _ _)⟩
  case round =>
    obtain ⟨k, hk, rfl, rfl, hrel⟩ := hrel
    by_cases hlt : k < 17
    · have hki : (k : Int) < 17 := by omega
      go_wp2_with fail
      refine (level_nil _ _).mono ?_
      rintro e w2 ⟨rfl, hb2⟩
      have HB := Lib.hid (below_trans hrel.out hb2)
      clear hb2
      go_wp2
      go_roundw
      case rel => exact ⟨k + 1, by omega, by go_num, rfl, HB⟩
      case measure => simp [intOf]; omega
    · obtain rfl : k = 17 := by omega
      go_wp2
      go_ret
      exact ⟨rfl, hrel.out⟩
set_option maxHeartbeats 2000000 in
theorem add_nil (p : Pn) (w : World) :
    Calls Try.prog 10 #[.pointer none, .agg #[.int .i64 p.1, .int .i64 p.2]] w fun e w' => e = .returned (.bool false) ∧ Below w.heap.size w w' := by
  go_enter Try.func10, Try.ntmps10
  go_wp2
  go_ret
  exact ⟨rfl, by go_grown⟩
set_option maxHeartbeats 2000000 in
theorem rem_nil (p : Pn) (w : World) :
    Calls Try.prog 13 #[.pointer none, .agg #[.int .i64 p.1, .int .i64 p.2]] w fun e w' => e = .returned (.bool false) ∧ Below w.heap.size w w' := by
  have hA : Below w.heap.size w ((w.alloc (.cells #[.pointer none] 25)).alloc (.cells #[.int .i64 p.1, .int .i64 p.2] 29)) := ((Below.refl _ _).alloc (Nat.le_refl _) _).alloc (by simp) _
  go_enter Try.func13, Try.ntmps13
  go_wp2_with fail
  refine (count_nil 16 _ _ _).mono ?_
  rintro e w2 ⟨rfl, hb2⟩
  have HB := Lib.hid (below_trans hA hb2)
  clear hA hb2
  go_wp2
  go_ret
  exact ⟨rfl, HB.out⟩
set_option maxHeartbeats 2000000 in
theorem mov_nil (p q : Pn) (w : World) :
    Calls Try.prog 15 #[.pointer none, .agg #[.int .i64 p.1, .int .i64 p.2], .agg #[.int .i64 q.1, .int .i64 q.2]] w fun e w' => e = .returned (.bool false) ∧ Below w.heap.size w w' := by
  have HF := Lib.hid (fits_any q.1 q.2)
  have hA : Below w.heap.size w ((w.alloc (.cells #[.int .i64 p.1, .int .i64 p.2] 29)).alloc (.cells #[.int .i64 q.1, .int .i64 q.2] 29)) := ((Below.refl _ _).alloc (Nat.le_refl _) _).alloc (by simp) _
  have hbk := blk_two w 29 29 #[.int .i64 p.1, .int .i64 p.2] #[.int .i64 q.1, .int .i64 q.2]
  have HA := Lib.hid hA; have HBK := Lib.hid hbk; clear hA hbk
  generalize fitsB q.1 q.2 = ob at *
  go_enter Try.func15, Try.ntmps15
  go_wp2_with fail
  refine (HF.out _).mono ?_
  rintro e w2 ⟨rfl, hb2⟩
  have HB2 := Lib.hid (below_trans HA.out hb2)
  have x0 := (HBK.out.1.thru0 hb2).cell 0
  have x1 := (HBK.out.1.thru0 hb2).cell 1
  simp only [List.getElem?_toArray, List.getElem?_cons_zero, List.getElem?_cons_succ] at x0 x1
  clear hb2
  cases ob with
  | false =>
    go_wp2
    go_ret
    exact ⟨rfl, HB2.out⟩
  | true =>
    go_wp2_with fail
    refine (rem_nil p _).mono ?_
    rintro e w3 ⟨rfl, hb3⟩
    have HB := Lib.hid (below_trans HB2.out hb3)
    clear hb3
    go_wp2
    go_ret
    exact ⟨rfl, HB.out⟩
set_option maxRecDepth 100000 in
set_option maxHeartbeats 4000000 in
theorem pyknown_any (w : World) : Calls Try.prog 21 #[] w fun e w' => e = .returned (.bool true) ∧ Below w.heap.size w w' := by
  go_enter Try.func21, Try.ntmps21
  go_wp2_with fail
  refine (new_any w).mono ?_
  rintro e w1 ⟨y, c1, rfl, h1, hb, ho⟩
  have HO := Lib.hid ho
  have HK := Lib.hid (Kp.of_below (y := y) (cs := c1) hb)
  have HA := Lib.hid (add_any y c1 [] 0 (0, 0) w1 h1 (by omega) (by decide))
  clear hb ho h1
  go_wp2_with fail
  refine HA.out.mono ?_
  rintro e w2 ⟨rfl, c2, h2, k2⟩
  clear HA
  have HK2 := Lib.hid (HK.out.trans k2)
  have HA := Lib.hid (add_any y c2 [(0, 0)] 17 (1, 0) w2 h2 (by omega) (by decide))
  clear k2 h2 HK
  go_wp2_with fail
  refine HA.out.mono ?_
  rintro e w3 ⟨rfl, c3, h3, k3⟩
  clear HA
  have HK3 := Lib.hid (HK2.out.trans k3)
  have HA := Lib.hid (add_any y c3 [(1, 0), (0, 0)] 34 (1, 0) w3 h3 (by omega) (by decide))
  clear k3 h3 HK2
  go_wp2_with fail
  refine HA.out.mono ?_
  rintro e w4 ⟨rfl, c4, h4, k4⟩
  clear HA
  have HK4 := Lib.hid (HK3.out.trans k4)
  have HP4 : Hid (PyR w4 y c4 (fun _ => [(1, 0), (1, 0), (0, 0)]) 51) := Lib.hid h4
  clear k4 h4 HK3
  have HC := Lib.hid (count_any y c4 _ 51 16 1 0 w4 HP4.out)
  rw [show cntC [(1, 0), (1, 0), (0, 0)] 16 1 0 = 2 by decide +kernel] at HC
  go_wp2_with fail
  refine HC.out.mono ?_
  rintro e w5 ⟨rfl, hb5⟩
  clear HC
  have HP5 := Lib.hid (HP4.out.below hb5)
  have HK5 := Lib.hid (HK4.out.below hb5)
  clear hb5 HP4 HK4
  have HC := Lib.hid (count_any y c4 _ 51 15 0 0 w5 HP5.out)
  rw [show cntC [(1, 0), (1, 0), (0, 0)] 15 0 0 = 3 by decide +kernel] at HC
  go_wp2_with fail
  refine HC.out.mono ?_
  rintro e w6 ⟨rfl, hb6⟩
  clear HC
  have HP6 := Lib.hid (HP5.out.below hb6)
  have HK6 := Lib.hid (HK5.out.below hb6)
  clear hb6 HP5 HK5
  have HC := Lib.hid (cells_any y c4 _ 51 w6 HP6.out (by decide))
  rw [show cellsN [(1, 0), (1, 0), (0, 0)] 17 = 18 by decide +kernel] at HC
  go_wp2_with fail
  refine HC.out.mono ?_
  rintro e w7 ⟨rfl, hb7⟩
  clear HC
  have HP7 := Lib.hid (HP6.out.below hb7)
  have HK7 := Lib.hid (HK6.out.below hb7)
  clear hb7 HP6 HK6
  have HR := Lib.hid (rem_any y c4 [(1, 0), (1, 0), (0, 0)] 51 (0, 0) w7 HP7.out (by omega) (by decide) (by intro q hq; simp at hq; rcases hq with rfl | rfl <;> decide))
  go_wp2_with fail
  refine HR.out.mono ?_
  rintro e w8 ⟨rfl, c8, h8, k8⟩
  clear HR
  have HK8 := Lib.hid (HK7.out.trans k8)
  have HC := Lib.hid (cells_any y c8 [(1, 0), (1, 0)] 68 w8 h8 (by decide))
  rw [show cellsN [(1, 0), (1, 0)] 17 = 17 by decide +kernel] at HC
  clear h8 k8 HP7 HK7
  go_wp2_with fail
  refine HC.out.mono ?_
  rintro e w9 ⟨rfl, hb9⟩
  have HK9 := Lib.hid (HK8.out.below hb9)
  clear hb9 HK8 HC
  go_wp2
  go_ret
  obtain ⟨a, b, c, d, f, g⟩ := HK9.out
  exact ⟨rfl, a, b, c, d, fun i hi => f i hi (HO.out i hi)⟩
end Go.Proofs.Ytdbiaijpbkmfhaa
