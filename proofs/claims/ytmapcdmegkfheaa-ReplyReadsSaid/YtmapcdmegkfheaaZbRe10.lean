/- reply: holds and without by contract. -/
import Derived.Test.YtmapcdmegkfheaaZbRe9
namespace Go.Proofs.Ytmapcdmegkfheaa
set_option linter.unusedVariables false
set_option linter.unusedSimpArgs false
open Go.RowKit
set_option maxRecDepth 100000 in
set_option maxHeartbeats 4000000 in
theorem holds_seen (w : World) (op m : Int) (a : An) (L : List Snt) (hop : op = 13 ∨ op = 14 ∨ op = 15 ∨ op = 16) (h : ERd elOS w (.slice a.sA a.sn a.sc) L) (hn : L.length = a.sn) (hL : L.length ≤ 9223372036854775807) :
    Calls Try.prog 34 #[.int .i64 op, .int .i64 m, .agg a.cs] w fun e w' => e = .returned (.bool (decide ((a.sn : Int) ≤ m) && L.all snB)) ∧ Below w.heap.size w w' := by
  have HB0 := Lib.hid (show Below w.heap.size w (w.alloc (.cells a.cs TA)) from (Below.refl _ _).alloc (Nat.le_refl _) _)
  have e0 : a.cs[0]? = some (.int .i64 a.st) := rfl
  have e1 : a.cs[1]? = some (.int .u64 (a.sec : Int)) := rfl
  have e2 : a.cs[2]? = some (.int .i64 a.rid) := rfl
  have e3 : a.cs[3]? = some (.int .i64 a.rx) := rfl
  have e4 : a.cs[4]? = some (.int .i64 a.ry) := rfl
  have e5 : a.cs[5]? = some (.int .i64 a.lab) := rfl
  have e6 : a.cs[6]? = some (.int .i64 a.b0) := rfl
  have e7 : a.cs[7]? = some (.int .i64 a.b1) := rfl
  have e8 : a.cs[8]? = some (.int .i64 a.b2) := rfl
  have e9 : a.cs[9]? = some (.int .i64 a.b3) := rfl
  have e10 : a.cs[10]? = some (.slice a.sA a.sn a.sc) := rfl
  have e11 : a.cs[11]? = some (.slice a.eA a.en a.ec) := rfl
  have HC := Lib.hid (fun W (hW : Below w.heap.size w W) => contains_elOS W (.slice a.sA a.sn a.sc) L (h.below hW) hL)
  clear h
  by_cases hm : (a.sn : Int) ≤ m
  · have hd : Hid (decide ((a.sn : Int) ≤ m) = true) := decide_eq_true hm
    rcases hop with rfl | rfl | rfl | rfl
    all_goals
      go_enter Try.func34, Try.ntmps34
      go_wp2_with fail
      refine (HC.out _ (by go_grown)).mono ?_
      rintro e w2 ⟨rfl, hb2⟩
      have HB2 := Lib.hid hb2
      obtain ⟨b, hb⟩ : ∃ b, L.all snB = b := ⟨_, rfl⟩
      rw [hb]
      have HBB := Lib.hid hb
      clear hb hb2
      cases b
      all_goals
        go_wp2_with fail
        go_ret
        exact ⟨by rw [hd.out, HBB.out]; rfl, below_trans HB0.out HB2.out⟩
  · have hd : Hid (decide ((a.sn : Int) ≤ m) = false) := decide_eq_false hm
    rcases hop with rfl | rfl | rfl | rfl
    all_goals
      go_enter Try.func34, Try.ntmps34
      go_wp2_with fail
      go_ret
      exact ⟨by rw [hd.out]; rfl, HB0.out⟩
set_option maxRecDepth 100000 in
set_option maxHeartbeats 4000000 in
theorem holds_events (w : World) (op m : Int) (a : An) (L : List Evt) (hop : op = 17 ∨ op = 18) (h : ERd elOE w (.slice a.eA a.en a.ec) L) (hn : L.length = a.en) (hL : L.length ≤ 9223372036854775807) :
    Calls Try.prog 34 #[.int .i64 op, .int .i64 m, .agg a.cs] w fun e w' => e = .returned (.bool (decide ((a.en : Int) ≤ m) && L.all evB)) ∧ Below w.heap.size w w' := by
  have HB0 := Lib.hid (show Below w.heap.size w (w.alloc (.cells a.cs TA)) from (Below.refl _ _).alloc (Nat.le_refl _) _)
  have e0 : a.cs[0]? = some (.int .i64 a.st) := rfl
  have e1 : a.cs[1]? = some (.int .u64 (a.sec : Int)) := rfl
  have e2 : a.cs[2]? = some (.int .i64 a.rid) := rfl
  have e3 : a.cs[3]? = some (.int .i64 a.rx) := rfl
  have e4 : a.cs[4]? = some (.int .i64 a.ry) := rfl
  have e5 : a.cs[5]? = some (.int .i64 a.lab) := rfl
  have e6 : a.cs[6]? = some (.int .i64 a.b0) := rfl
  have e7 : a.cs[7]? = some (.int .i64 a.b1) := rfl
  have e8 : a.cs[8]? = some (.int .i64 a.b2) := rfl
  have e9 : a.cs[9]? = some (.int .i64 a.b3) := rfl
  have e10 : a.cs[10]? = some (.slice a.sA a.sn a.sc) := rfl
  have e11 : a.cs[11]? = some (.slice a.eA a.en a.ec) := rfl
  have HC := Lib.hid (fun W (hW : Below w.heap.size w W) => contains_elOE W (.slice a.eA a.en a.ec) L (h.below hW) hL)
  clear h
  by_cases hm : (a.en : Int) ≤ m
  · have hd : Hid (decide ((a.en : Int) ≤ m) = true) := decide_eq_true hm
    rcases hop with rfl | rfl
    all_goals
      go_enter Try.func34, Try.ntmps34
      go_wp2_with fail
      refine (HC.out _ (by go_grown)).mono ?_
      rintro e w2 ⟨rfl, hb2⟩
      have HB2 := Lib.hid hb2
      obtain ⟨b, hb⟩ : ∃ b, L.all evB = b := ⟨_, rfl⟩
      rw [hb]
      have HBB := Lib.hid hb
      clear hb hb2
      cases b
      all_goals
        go_wp2_with fail
        go_ret
        exact ⟨by rw [hd.out, HBB.out]; rfl, below_trans HB0.out HB2.out⟩
  · have hd : Hid (decide ((a.en : Int) ≤ m) = false) := decide_eq_false hm
    rcases hop with rfl | rfl
    all_goals
      go_enter Try.func34, Try.ntmps34
      go_wp2_with fail
      go_ret
      exact ⟨by rw [hd.out]; rfl, HB0.out⟩
set_option maxRecDepth 100000 in
set_option maxHeartbeats 4000000 in
theorem holds_else (w : World) (op m : Int) (a : An) (h12 : op ≠ 12) (h10 : op ≠ 10) (h13 : op ≠ 13) (h14 : op ≠ 14) (h15 : op ≠ 15) (h16 : op ≠ 16) (h17 : op ≠ 17) (h18 : op ≠ 18) :
    Calls Try.prog 34 #[.int .i64 op, .int .i64 m, .agg a.cs] w fun e w' => e = .returned (.bool true) ∧ Below w.heap.size w w' := by
  have HB0 := Lib.hid (show Below w.heap.size w (w.alloc (.cells a.cs TA)) from (Below.refl _ _).alloc (Nat.le_refl _) _)
  have e0 : a.cs[0]? = some (.int .i64 a.st) := rfl
  have e1 : a.cs[1]? = some (.int .u64 (a.sec : Int)) := rfl
  have e2 : a.cs[2]? = some (.int .i64 a.rid) := rfl
  have e3 : a.cs[3]? = some (.int .i64 a.rx) := rfl
  have e4 : a.cs[4]? = some (.int .i64 a.ry) := rfl
  have e5 : a.cs[5]? = some (.int .i64 a.lab) := rfl
  have e6 : a.cs[6]? = some (.int .i64 a.b0) := rfl
  have e7 : a.cs[7]? = some (.int .i64 a.b1) := rfl
  have e8 : a.cs[8]? = some (.int .i64 a.b2) := rfl
  have e9 : a.cs[9]? = some (.int .i64 a.b3) := rfl
  have e10 : a.cs[10]? = some (.slice a.sA a.sn a.sc) := rfl
  have e11 : a.cs[11]? = some (.slice a.eA a.en a.ec) := rfl
  go_enter Try.func34, Try.ntmps34
  go_wp2_with fail
  go_ret
  exact ⟨rfl, HB0.out⟩
set_option maxRecDepth 100000 in
set_option maxHeartbeats 4000000 in
theorem holds_publish (w : World) (m : Int) (a : An) :
    Calls Try.prog 34 #[.int .i64 10, .int .i64 m, .agg a.cs] w fun e w' => e = .returned (.bool (rightB a.b0 a.b1 a.b2 a.b3)) ∧ Below w.heap.size w w' := by
  have HB0 := Lib.hid (show Below w.heap.size w (w.alloc (.cells a.cs TA)) from (Below.refl _ _).alloc (Nat.le_refl _) _)
  have e0 : a.cs[0]? = some (.int .i64 a.st) := rfl
  have e1 : a.cs[1]? = some (.int .u64 (a.sec : Int)) := rfl
  have e2 : a.cs[2]? = some (.int .i64 a.rid) := rfl
  have e3 : a.cs[3]? = some (.int .i64 a.rx) := rfl
  have e4 : a.cs[4]? = some (.int .i64 a.ry) := rfl
  have e5 : a.cs[5]? = some (.int .i64 a.lab) := rfl
  have e6 : a.cs[6]? = some (.int .i64 a.b0) := rfl
  have e7 : a.cs[7]? = some (.int .i64 a.b1) := rfl
  have e8 : a.cs[8]? = some (.int .i64 a.b2) := rfl
  have e9 : a.cs[9]? = some (.int .i64 a.b3) := rfl
  have e10 : a.cs[10]? = some (.slice a.sA a.sn a.sc) := rfl
  have e11 : a.cs[11]? = some (.slice a.eA a.en a.ec) := rfl
  have HR := Lib.hid (fun W => right_any a.b0 a.b1 a.b2 a.b3 W)
  go_enter Try.func34, Try.ntmps34
  go_wp2_with fail
  refine (HR.out _).mono ?_
  rintro e w2 ⟨rfl, hb2⟩
  have HB2 := Lib.hid hb2
  clear hb2
  go_wp2_with fail
  go_ret
  exact ⟨rfl, below_trans HB0.out HB2.out⟩
end Go.Proofs.Ytmapcdmegkfheaa
