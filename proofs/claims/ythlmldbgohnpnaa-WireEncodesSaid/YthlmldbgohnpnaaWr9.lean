/- wire: head and fields, by contract. -/
import Derived.Test.YthlmldbgohnpnaaWr8
namespace Go.Proofs.Ythlmldbgohnpnaa
set_option linter.unusedVariables false
set_option linter.unusedSimpArgs false
open Go.RowKit
def runs (l : List Sp) (x : Wk × Array Value) : Wk × Array Value := l.foldl (fun x p => p.run x) x
def headS : List Sp := [.nums 1 [0, 1], .nums 2 [2], .whole 3, .ups 64 [4]]
def fieldsS : Nat → List Sp
  | 1 => [.nums 2 [5], .ups 7 [6], .ups 7 [7], .nums 2 [8]]
  | 2 => [.nums 2 [5]]
  | 3 => [.text 9]
  | 4 => [.nums 2 [5], .ups 31 [10], .nums 4 [16]]
  | 5 => [.ups 31 [10], .ups 16 [11], .box 12, .nums 4 [16]]
  | 6 => [.whole 17]
  | 7 => [.nums 2 [18], .whole 19]
  | 8 => [.nums 2 [20, 21], .ups 7 [22]]
  | 9 => []
  | 10 => []
  | 11 => []
  | 12 => []
  | 13 => [.box 12]
  | 14 => [.nums 2 [20, 21]]
  | 15 => [.box 12]
  | 16 => [.nums 2 [20, 21]]
  | 17 => [.nums 2 [23]]
  | 18 => []
  | 19 => [.nums 2 [5, 8]]
  | _ => []
def fieldsN (k : Nat) : Nat := ((fieldsS k).map Sp.size).sum
theorem Go1.drew {B : Nat} {w0 w wr : World} {y q m : Nat} {x : Wk × Array Value} (h : Go1 B w0 y q x m w wr) : Go1 B w0 y q x m w wr.drew := by
  have hb : Below wr.heap.size wr wr.drew := below_drawn (Below.refl _ _) 1
  exact ⟨⟨h.d.ws.below hb, h.d.bq.thru0 hb, h.d.fr.trans (WF.of_below hb)⟩, h.qB, h.rq, h.room, h.does⟩
theorem below_alloc3 {B : Nat} {w0 w : World} (h : Below B w0 w) (hB : B ≤ w0.heap.size) (o : Obj) : Below B w0 (w.alloc o) ∧ Below B w0 (w.drew.alloc o) := by
  have hs := h.size
  exact ⟨h.alloc (by omega) o, (below_drawn h 1).alloc (by have := (below_drawn h 1).size; omega) o⟩
set_option maxRecDepth 100000 in
set_option maxHeartbeats 4000000 in
theorem head_any {B : Nat} {w0 w wr : World} {y q m : Nat} {x : Wk × Array Value} (h : Go1 B w0 y q x (13 + m) w wr) :
    Calls Try.prog 18 #[ptrW y, .pointer (some ⟨q, 0, none⟩)] wr fun e w' => e = .returned (.tuple #[]) ∧ Go1 B w0 y q (runs headS x) m w w' := by
  have H0 := Lib.hid h
  clear h
  go_enter Try.func18, Try.ntmps18
  have C0 := Lib.hid (call_nums 1 [0, 1] (m := 11 + m) (by rw [show (Sp.nums 1 [0, 1]).size + (11 + m) = 13 + m by simp only [Sp.size, List.length_cons, List.length_nil]; omega]; exact H0.out) rfl)
  have D0 := Lib.hid (call_nums 1 [0, 1] (m := 11 + m) (by rw [show (Sp.nums 1 [0, 1]).size + (11 + m) = 13 + m by simp only [Sp.size, List.length_cons, List.length_nil]; omega]; exact H0.out.drew) rfl)
  have B0 := Lib.hid (H0.out.d.ws.bel)
  have A0 := Lib.hid (below_alloc3 B0.out H0.out.d.ws.h0 (.cells (pRow q [0, 1]) 65))
  go_wp2_with fail
  go_region_held3 (fun w' => Below B w0 w') (first | assumption | exact B0.out | exact A0.out.1 | exact A0.out.2 | exact below_drawn B0.out 1) ((go_at_call 30; (first | refine C0.out.mono ?_ | refine D0.out.mono ?_); rintro e w1 ⟨rfl, hd⟩; have hbel := hd.d.ws.bel))
  have H1 := Lib.hid hd
  clear hd C0 H0 hbel B0 A0 D0
  have C1 := Lib.hid (call_nums 2 [2] (m := 9 + m) (by rw [show (Sp.nums 2 [2]).size + (9 + m) = 11 + m by simp only [Sp.size, List.length_cons, List.length_nil]; omega]; exact H1.out) rfl)
  go_wp2_with fail
  refine C1.out.mono ?_
  rintro e w2 ⟨rfl, hd⟩
  have H2 := Lib.hid hd
  clear hd C1 H1
  have C2 := Lib.hid (call_whole 3 (m := 1 + m) (by rw [show (Sp.whole 3).size + (1 + m) = 9 + m by simp only [Sp.size, List.length_cons, List.length_nil]; omega]; exact H2.out) rfl)
  go_wp2_with fail
  refine C2.out.mono ?_
  rintro e w3 ⟨rfl, hd⟩
  have H3 := Lib.hid hd
  clear hd C2 H2
  have C3 := Lib.hid (call_ups 64 [4] (m := 0 + m) (by rw [show (Sp.ups 64 [4]).size + (0 + m) = 1 + m by simp only [Sp.size, List.length_cons, List.length_nil]; omega]; exact H3.out) rfl)
  go_wp2_with fail
  refine C3.out.mono ?_
  rintro e w4 ⟨rfl, hd⟩
  have H4 := Lib.hid hd
  clear hd C3 H3
  go_wp2_with fail
  go_end0
  refine ⟨rfl, ?_⟩
  have := H4.out
  rw [Nat.zero_add] at this
  exact this
set_option maxRecDepth 100000 in
set_option maxHeartbeats 4000000 in
theorem fields_1 {B : Nat} {w0 w wr : World} {y q m : Nat} {x : Wk × Array Value} (h : Go1 B w0 y q x (6 + m) w wr) (hop : x.2[0]? = some (.int .i64 1)) :
    Calls Try.prog 20 #[ptrW y, .pointer (some ⟨q, 0, none⟩)] wr fun e w' => e = .returned (.bool true) ∧ WDone B w0 y q TQ (runs (fieldsS 1) x).1 (runs (fieldsS 1) x).2 w w' := by
  have k0 := h.d.bq.cell 0
  rw [hop] at k0
  clear hop
  have H0 := Lib.hid h
  clear h
  go_enter Try.func20, Try.ntmps20
  have C0 := Lib.hid (call_nums 2 [5] (m := 4 + m) (by rw [show (Sp.nums 2 [5]).size + (4 + m) = 6 + m by simp only [Sp.size, List.length_cons, List.length_nil]; omega]; exact H0.out) rfl)
  go_wp2_with fail
  refine C0.out.mono ?_
  rintro e w1 ⟨rfl, hd⟩
  have H1 := Lib.hid hd
  clear hd C0 H0
  have C1 := Lib.hid (call_ups 7 [6] (m := 3 + m) (by rw [show (Sp.ups 7 [6]).size + (3 + m) = 4 + m by simp only [Sp.size, List.length_cons, List.length_nil]; omega]; exact H1.out) rfl)
  go_wp2_with fail
  refine C1.out.mono ?_
  rintro e w2 ⟨rfl, hd⟩
  have H2 := Lib.hid hd
  clear hd C1 H1
  have C2 := Lib.hid (call_ups 7 [7] (m := 2 + m) (by rw [show (Sp.ups 7 [7]).size + (2 + m) = 3 + m by simp only [Sp.size, List.length_cons, List.length_nil]; omega]; exact H2.out) rfl)
  go_wp2_with fail
  refine C2.out.mono ?_
  rintro e w3 ⟨rfl, hd⟩
  have H3 := Lib.hid hd
  clear hd C2 H2
  have C3 := Lib.hid (call_nums 2 [8] (m := 0 + m) (by rw [show (Sp.nums 2 [8]).size + (0 + m) = 2 + m by simp only [Sp.size, List.length_cons, List.length_nil]; omega]; exact H3.out) rfl)
  go_wp2_with fail
  refine C3.out.mono ?_
  rintro e w4 ⟨rfl, hd⟩
  have H4 := Lib.hid hd
  clear hd C3 H3
  go_wp2_with fail
  go_ret
  exact ⟨rfl, H4.out.d⟩
set_option maxRecDepth 100000 in
set_option maxHeartbeats 4000000 in
theorem fields_2 {B : Nat} {w0 w wr : World} {y q m : Nat} {x : Wk × Array Value} (h : Go1 B w0 y q x (2 + m) w wr) (hop : x.2[0]? = some (.int .i64 2)) :
    Calls Try.prog 20 #[ptrW y, .pointer (some ⟨q, 0, none⟩)] wr fun e w' => e = .returned (.bool true) ∧ WDone B w0 y q TQ (runs (fieldsS 2) x).1 (runs (fieldsS 2) x).2 w w' := by
  have k0 := h.d.bq.cell 0
  rw [hop] at k0
  clear hop
  have H0 := Lib.hid h
  clear h
  go_enter Try.func20, Try.ntmps20
  have C0 := Lib.hid (call_nums 2 [5] (m := 0 + m) (by rw [show (Sp.nums 2 [5]).size + (0 + m) = 2 + m by simp only [Sp.size, List.length_cons, List.length_nil]; omega]; exact H0.out) rfl)
  go_wp2_with fail
  refine C0.out.mono ?_
  rintro e w1 ⟨rfl, hd⟩
  have H1 := Lib.hid hd
  clear hd C0 H0
  go_wp2_with fail
  go_ret
  exact ⟨rfl, H1.out.d⟩
set_option maxRecDepth 100000 in
set_option maxHeartbeats 4000000 in
theorem fields_3 {B : Nat} {w0 w wr : World} {y q m : Nat} {x : Wk × Array Value} (h : Go1 B w0 y q x (0 + m) w wr) (hop : x.2[0]? = some (.int .i64 3)) :
    Calls Try.prog 20 #[ptrW y, .pointer (some ⟨q, 0, none⟩)] wr fun e w' => e = .returned (.bool true) ∧ WDone B w0 y q TQ (runs (fieldsS 3) x).1 (runs (fieldsS 3) x).2 w w' := by
  have k0 := h.d.bq.cell 0
  rw [hop] at k0
  clear hop
  have H0 := Lib.hid h
  clear h
  go_enter Try.func20, Try.ntmps20
  go_wp2_with fail
  refine (call_text H0.out).mono ?_
  rintro e w1 ⟨rfl, hd⟩
  have HE := Lib.hid hd
  clear hd
  go_wp2_with fail
  go_ret
  exact ⟨rfl, HE.out⟩
set_option maxRecDepth 100000 in
set_option maxHeartbeats 4000000 in
theorem fields_4 {B : Nat} {w0 w wr : World} {y q m : Nat} {x : Wk × Array Value} (h : Go1 B w0 y q x (7 + m) w wr) (hop : x.2[0]? = some (.int .i64 4)) :
    Calls Try.prog 20 #[ptrW y, .pointer (some ⟨q, 0, none⟩)] wr fun e w' => e = .returned (.bool true) ∧ WDone B w0 y q TQ (runs (fieldsS 4) x).1 (runs (fieldsS 4) x).2 w w' := by
  have k0 := h.d.bq.cell 0
  rw [hop] at k0
  clear hop
  have H0 := Lib.hid h
  clear h
  go_enter Try.func20, Try.ntmps20
  have C0 := Lib.hid (call_nums 2 [5] (m := 5 + m) (by rw [show (Sp.nums 2 [5]).size + (5 + m) = 7 + m by simp only [Sp.size, List.length_cons, List.length_nil]; omega]; exact H0.out) rfl)
  go_wp2_with fail
  refine C0.out.mono ?_
  rintro e w1 ⟨rfl, hd⟩
  have H1 := Lib.hid hd
  clear hd C0 H0
  have C1 := Lib.hid (call_ups 31 [10] (m := 4 + m) (by rw [show (Sp.ups 31 [10]).size + (4 + m) = 5 + m by simp only [Sp.size, List.length_cons, List.length_nil]; omega]; exact H1.out) rfl)
  go_wp2_with fail
  refine C1.out.mono ?_
  rintro e w2 ⟨rfl, hd⟩
  have H2 := Lib.hid hd
  clear hd C1 H1
  have C2 := Lib.hid (call_nums 4 [16] (m := 0 + m) (by rw [show (Sp.nums 4 [16]).size + (0 + m) = 4 + m by simp only [Sp.size, List.length_cons, List.length_nil]; omega]; exact H2.out) rfl)
  go_wp2_with fail
  refine C2.out.mono ?_
  rintro e w3 ⟨rfl, hd⟩
  have H3 := Lib.hid hd
  clear hd C2 H2
  go_wp2_with fail
  go_ret
  exact ⟨rfl, H3.out.d⟩
set_option maxRecDepth 100000 in
set_option maxHeartbeats 4000000 in
theorem fields_5 {B : Nat} {w0 w wr : World} {y q m : Nat} {x : Wk × Array Value} (h : Go1 B w0 y q x (14 + m) w wr) (hop : x.2[0]? = some (.int .i64 5)) :
    Calls Try.prog 20 #[ptrW y, .pointer (some ⟨q, 0, none⟩)] wr fun e w' => e = .returned (.bool true) ∧ WDone B w0 y q TQ (runs (fieldsS 5) x).1 (runs (fieldsS 5) x).2 w w' := by
  have k0 := h.d.bq.cell 0
  rw [hop] at k0
  clear hop
  have H0 := Lib.hid h
  clear h
  go_enter Try.func20, Try.ntmps20
  have C0 := Lib.hid (call_ups 31 [10] (m := 13 + m) (by rw [show (Sp.ups 31 [10]).size + (13 + m) = 14 + m by simp only [Sp.size, List.length_cons, List.length_nil]; omega]; exact H0.out) rfl)
  go_wp2_with fail
  refine C0.out.mono ?_
  rintro e w1 ⟨rfl, hd⟩
  have H1 := Lib.hid hd
  clear hd C0 H0
  have C1 := Lib.hid (call_ups 16 [11] (m := 12 + m) (by rw [show (Sp.ups 16 [11]).size + (12 + m) = 13 + m by simp only [Sp.size, List.length_cons, List.length_nil]; omega]; exact H1.out) rfl)
  go_wp2_with fail
  refine C1.out.mono ?_
  rintro e w2 ⟨rfl, hd⟩
  have H2 := Lib.hid hd
  clear hd C1 H1
  have C2 := Lib.hid (call_box 12 (m := 4 + m) (by rw [show (Sp.box 12).size + (4 + m) = 12 + m by simp only [Sp.size, List.length_cons, List.length_nil]; omega]; exact H2.out) rfl)
  go_wp2_with fail
  refine C2.out.mono ?_
  rintro e w3 ⟨rfl, hd⟩
  have H3 := Lib.hid hd
  clear hd C2 H2
  have C3 := Lib.hid (call_nums 4 [16] (m := 0 + m) (by rw [show (Sp.nums 4 [16]).size + (0 + m) = 4 + m by simp only [Sp.size, List.length_cons, List.length_nil]; omega]; exact H3.out) rfl)
  go_wp2_with fail
  refine C3.out.mono ?_
  rintro e w4 ⟨rfl, hd⟩
  have H4 := Lib.hid hd
  clear hd C3 H3
  go_wp2_with fail
  go_ret
  exact ⟨rfl, H4.out.d⟩
set_option maxRecDepth 100000 in
set_option maxHeartbeats 4000000 in
theorem fields_6 {B : Nat} {w0 w wr : World} {y q m : Nat} {x : Wk × Array Value} (h : Go1 B w0 y q x (8 + m) w wr) (hop : x.2[0]? = some (.int .i64 6)) :
    Calls Try.prog 20 #[ptrW y, .pointer (some ⟨q, 0, none⟩)] wr fun e w' => e = .returned (.bool true) ∧ WDone B w0 y q TQ (runs (fieldsS 6) x).1 (runs (fieldsS 6) x).2 w w' := by
  have k0 := h.d.bq.cell 0
  rw [hop] at k0
  clear hop
  have H0 := Lib.hid h
  clear h
  go_enter Try.func20, Try.ntmps20
  have C0 := Lib.hid (call_whole 17 (m := 0 + m) (by rw [show (Sp.whole 17).size + (0 + m) = 8 + m by simp only [Sp.size, List.length_cons, List.length_nil]; omega]; exact H0.out) rfl)
  go_wp2_with fail
  refine C0.out.mono ?_
  rintro e w1 ⟨rfl, hd⟩
  have H1 := Lib.hid hd
  clear hd C0 H0
  go_wp2_with fail
  go_ret
  exact ⟨rfl, H1.out.d⟩
set_option maxRecDepth 100000 in
set_option maxHeartbeats 4000000 in
theorem fields_7 {B : Nat} {w0 w wr : World} {y q m : Nat} {x : Wk × Array Value} (h : Go1 B w0 y q x (10 + m) w wr) (hop : x.2[0]? = some (.int .i64 7)) :
    Calls Try.prog 20 #[ptrW y, .pointer (some ⟨q, 0, none⟩)] wr fun e w' => e = .returned (.bool true) ∧ WDone B w0 y q TQ (runs (fieldsS 7) x).1 (runs (fieldsS 7) x).2 w w' := by
  have k0 := h.d.bq.cell 0
  rw [hop] at k0
  clear hop
  have H0 := Lib.hid h
  clear h
  go_enter Try.func20, Try.ntmps20
  have C0 := Lib.hid (call_nums 2 [18] (m := 8 + m) (by rw [show (Sp.nums 2 [18]).size + (8 + m) = 10 + m by simp only [Sp.size, List.length_cons, List.length_nil]; omega]; exact H0.out) rfl)
  go_wp2_with fail
  refine C0.out.mono ?_
  rintro e w1 ⟨rfl, hd⟩
  have H1 := Lib.hid hd
  clear hd C0 H0
  have C1 := Lib.hid (call_whole 19 (m := 0 + m) (by rw [show (Sp.whole 19).size + (0 + m) = 8 + m by simp only [Sp.size, List.length_cons, List.length_nil]; omega]; exact H1.out) rfl)
  go_wp2_with fail
  refine C1.out.mono ?_
  rintro e w2 ⟨rfl, hd⟩
  have H2 := Lib.hid hd
  clear hd C1 H1
  go_wp2_with fail
  go_ret
  exact ⟨rfl, H2.out.d⟩
set_option maxRecDepth 100000 in
set_option maxHeartbeats 4000000 in
theorem fields_8 {B : Nat} {w0 w wr : World} {y q m : Nat} {x : Wk × Array Value} (h : Go1 B w0 y q x (5 + m) w wr) (hop : x.2[0]? = some (.int .i64 8)) :
    Calls Try.prog 20 #[ptrW y, .pointer (some ⟨q, 0, none⟩)] wr fun e w' => e = .returned (.bool true) ∧ WDone B w0 y q TQ (runs (fieldsS 8) x).1 (runs (fieldsS 8) x).2 w w' := by
  have k0 := h.d.bq.cell 0
  rw [hop] at k0
  clear hop
  have H0 := Lib.hid h
  clear h
  go_enter Try.func20, Try.ntmps20
  have C0 := Lib.hid (call_nums 2 [20, 21] (m := 1 + m) (by rw [show (Sp.nums 2 [20, 21]).size + (1 + m) = 5 + m by simp only [Sp.size, List.length_cons, List.length_nil]; omega]; exact H0.out) rfl)
  have D0 := Lib.hid (call_nums 2 [20, 21] (m := 1 + m) (by rw [show (Sp.nums 2 [20, 21]).size + (1 + m) = 5 + m by simp only [Sp.size, List.length_cons, List.length_nil]; omega]; exact H0.out.drew) rfl)
  have B0 := Lib.hid (H0.out.d.ws.bel)
  have A0 := Lib.hid (below_alloc3 B0.out H0.out.d.ws.h0 (.cells (pRow q [20, 21]) 65))
  go_wp2_with fail
  go_region_held3 (fun w' => Below B w0 w') (first | assumption | exact B0.out | exact A0.out.1 | exact A0.out.2 | exact below_drawn B0.out 1) ((go_at_call 30; (first | refine C0.out.mono ?_ | refine D0.out.mono ?_); rintro e w1 ⟨rfl, hd⟩; have hbel := hd.d.ws.bel))
  have H1 := Lib.hid hd
  clear hd C0 H0 hbel B0 A0 D0
  have C1 := Lib.hid (call_ups 7 [22] (m := 0 + m) (by rw [show (Sp.ups 7 [22]).size + (0 + m) = 1 + m by simp only [Sp.size, List.length_cons, List.length_nil]; omega]; exact H1.out) rfl)
  go_wp2_with fail
  refine C1.out.mono ?_
  rintro e w2 ⟨rfl, hd⟩
  have H2 := Lib.hid hd
  clear hd C1 H1
  go_wp2_with fail
  go_ret
  exact ⟨rfl, H2.out.d⟩
set_option maxRecDepth 100000 in
set_option maxHeartbeats 4000000 in
theorem fields_9 {B : Nat} {w0 w wr : World} {y q m : Nat} {x : Wk × Array Value} (h : Go1 B w0 y q x (0 + m) w wr) (hop : x.2[0]? = some (.int .i64 9)) :
    Calls Try.prog 20 #[ptrW y, .pointer (some ⟨q, 0, none⟩)] wr fun e w' => e = .returned (.bool true) ∧ WDone B w0 y q TQ (runs (fieldsS 9) x).1 (runs (fieldsS 9) x).2 w w' := by
  have k0 := h.d.bq.cell 0
  rw [hop] at k0
  clear hop
  have H0 := Lib.hid h
  clear h
  go_enter Try.func20, Try.ntmps20
  go_wp2_with fail
  go_ret
  exact ⟨rfl, H0.out.d⟩
set_option maxRecDepth 100000 in
set_option maxHeartbeats 4000000 in
theorem fields_10 {B : Nat} {w0 w wr : World} {y q m : Nat} {x : Wk × Array Value} (h : Go1 B w0 y q x (0 + m) w wr) (hop : x.2[0]? = some (.int .i64 10)) :
    Calls Try.prog 20 #[ptrW y, .pointer (some ⟨q, 0, none⟩)] wr fun e w' => e = .returned (.bool true) ∧ WDone B w0 y q TQ (runs (fieldsS 10) x).1 (runs (fieldsS 10) x).2 w w' := by
  have k0 := h.d.bq.cell 0
  rw [hop] at k0
  clear hop
  have H0 := Lib.hid h
  clear h
  go_enter Try.func20, Try.ntmps20
  go_wp2_with fail
  go_ret
  exact ⟨rfl, H0.out.d⟩
set_option maxRecDepth 100000 in
set_option maxHeartbeats 4000000 in
theorem fields_11 {B : Nat} {w0 w wr : World} {y q m : Nat} {x : Wk × Array Value} (h : Go1 B w0 y q x (0 + m) w wr) (hop : x.2[0]? = some (.int .i64 11)) :
    Calls Try.prog 20 #[ptrW y, .pointer (some ⟨q, 0, none⟩)] wr fun e w' => e = .returned (.bool true) ∧ WDone B w0 y q TQ (runs (fieldsS 11) x).1 (runs (fieldsS 11) x).2 w w' := by
  have k0 := h.d.bq.cell 0
  rw [hop] at k0
  clear hop
  have H0 := Lib.hid h
  clear h
  go_enter Try.func20, Try.ntmps20
  go_wp2_with fail
  go_ret
  exact ⟨rfl, H0.out.d⟩
set_option maxRecDepth 100000 in
set_option maxHeartbeats 4000000 in
theorem fields_12 {B : Nat} {w0 w wr : World} {y q m : Nat} {x : Wk × Array Value} (h : Go1 B w0 y q x (0 + m) w wr) (hop : x.2[0]? = some (.int .i64 12)) :
    Calls Try.prog 20 #[ptrW y, .pointer (some ⟨q, 0, none⟩)] wr fun e w' => e = .returned (.bool true) ∧ WDone B w0 y q TQ (runs (fieldsS 12) x).1 (runs (fieldsS 12) x).2 w w' := by
  have k0 := h.d.bq.cell 0
  rw [hop] at k0
  clear hop
  have H0 := Lib.hid h
  clear h
  go_enter Try.func20, Try.ntmps20
  go_wp2_with fail
  go_ret
  exact ⟨rfl, H0.out.d⟩
set_option maxRecDepth 100000 in
set_option maxHeartbeats 4000000 in
theorem fields_13 {B : Nat} {w0 w wr : World} {y q m : Nat} {x : Wk × Array Value} (h : Go1 B w0 y q x (8 + m) w wr) (hop : x.2[0]? = some (.int .i64 13)) :
    Calls Try.prog 20 #[ptrW y, .pointer (some ⟨q, 0, none⟩)] wr fun e w' => e = .returned (.bool true) ∧ WDone B w0 y q TQ (runs (fieldsS 13) x).1 (runs (fieldsS 13) x).2 w w' := by
  have k0 := h.d.bq.cell 0
  rw [hop] at k0
  clear hop
  have H0 := Lib.hid h
  clear h
  go_enter Try.func20, Try.ntmps20
  have C0 := Lib.hid (call_box 12 (m := 0 + m) (by rw [show (Sp.box 12).size + (0 + m) = 8 + m by simp only [Sp.size, List.length_cons, List.length_nil]; omega]; exact H0.out) rfl)
  go_wp2_with fail
  refine C0.out.mono ?_
  rintro e w1 ⟨rfl, hd⟩
  have H1 := Lib.hid hd
  clear hd C0 H0
  go_wp2_with fail
  go_ret
  exact ⟨rfl, H1.out.d⟩
set_option maxRecDepth 100000 in
set_option maxHeartbeats 4000000 in
theorem fields_14 {B : Nat} {w0 w wr : World} {y q m : Nat} {x : Wk × Array Value} (h : Go1 B w0 y q x (4 + m) w wr) (hop : x.2[0]? = some (.int .i64 14)) :
    Calls Try.prog 20 #[ptrW y, .pointer (some ⟨q, 0, none⟩)] wr fun e w' => e = .returned (.bool true) ∧ WDone B w0 y q TQ (runs (fieldsS 14) x).1 (runs (fieldsS 14) x).2 w w' := by
  have k0 := h.d.bq.cell 0
  rw [hop] at k0
  clear hop
  have H0 := Lib.hid h
  clear h
  go_enter Try.func20, Try.ntmps20
  have C0 := Lib.hid (call_nums 2 [20, 21] (m := 0 + m) (by rw [show (Sp.nums 2 [20, 21]).size + (0 + m) = 4 + m by simp only [Sp.size, List.length_cons, List.length_nil]; omega]; exact H0.out) rfl)
  have D0 := Lib.hid (call_nums 2 [20, 21] (m := 0 + m) (by rw [show (Sp.nums 2 [20, 21]).size + (0 + m) = 4 + m by simp only [Sp.size, List.length_cons, List.length_nil]; omega]; exact H0.out.drew) rfl)
  have B0 := Lib.hid (H0.out.d.ws.bel)
  have A0 := Lib.hid (below_alloc3 B0.out H0.out.d.ws.h0 (.cells (pRow q [20, 21]) 65))
  go_wp2_with fail
  go_region_held3 (fun w' => Below B w0 w') (first | assumption | exact B0.out | exact A0.out.1 | exact A0.out.2 | exact below_drawn B0.out 1) ((go_at_call 30; (first | refine C0.out.mono ?_ | refine D0.out.mono ?_); rintro e w1 ⟨rfl, hd⟩; have hbel := hd.d.ws.bel))
  have H1 := Lib.hid hd
  clear hd C0 H0 hbel B0 A0 D0
  go_wp2_with fail
  go_ret
  exact ⟨rfl, H1.out.d⟩
set_option maxRecDepth 100000 in
set_option maxHeartbeats 4000000 in
theorem fields_15 {B : Nat} {w0 w wr : World} {y q m : Nat} {x : Wk × Array Value} (h : Go1 B w0 y q x (8 + m) w wr) (hop : x.2[0]? = some (.int .i64 15)) :
    Calls Try.prog 20 #[ptrW y, .pointer (some ⟨q, 0, none⟩)] wr fun e w' => e = .returned (.bool true) ∧ WDone B w0 y q TQ (runs (fieldsS 15) x).1 (runs (fieldsS 15) x).2 w w' := by
  have k0 := h.d.bq.cell 0
  rw [hop] at k0
  clear hop
  have H0 := Lib.hid h
  clear h
  go_enter Try.func20, Try.ntmps20
  have C0 := Lib.hid (call_box 12 (m := 0 + m) (by rw [show (Sp.box 12).size + (0 + m) = 8 + m by simp only [Sp.size, List.length_cons, List.length_nil]; omega]; exact H0.out) rfl)
  go_wp2_with fail
  refine C0.out.mono ?_
  rintro e w1 ⟨rfl, hd⟩
  have H1 := Lib.hid hd
  clear hd C0 H0
  go_wp2_with fail
  go_ret
  exact ⟨rfl, H1.out.d⟩
set_option maxRecDepth 100000 in
set_option maxHeartbeats 4000000 in
theorem fields_16 {B : Nat} {w0 w wr : World} {y q m : Nat} {x : Wk × Array Value} (h : Go1 B w0 y q x (4 + m) w wr) (hop : x.2[0]? = some (.int .i64 16)) :
    Calls Try.prog 20 #[ptrW y, .pointer (some ⟨q, 0, none⟩)] wr fun e w' => e = .returned (.bool true) ∧ WDone B w0 y q TQ (runs (fieldsS 16) x).1 (runs (fieldsS 16) x).2 w w' := by
  have k0 := h.d.bq.cell 0
  rw [hop] at k0
  clear hop
  have H0 := Lib.hid h
  clear h
  go_enter Try.func20, Try.ntmps20
  have C0 := Lib.hid (call_nums 2 [20, 21] (m := 0 + m) (by rw [show (Sp.nums 2 [20, 21]).size + (0 + m) = 4 + m by simp only [Sp.size, List.length_cons, List.length_nil]; omega]; exact H0.out) rfl)
  have D0 := Lib.hid (call_nums 2 [20, 21] (m := 0 + m) (by rw [show (Sp.nums 2 [20, 21]).size + (0 + m) = 4 + m by simp only [Sp.size, List.length_cons, List.length_nil]; omega]; exact H0.out.drew) rfl)
  have B0 := Lib.hid (H0.out.d.ws.bel)
  have A0 := Lib.hid (below_alloc3 B0.out H0.out.d.ws.h0 (.cells (pRow q [20, 21]) 65))
  go_wp2_with fail
  go_region_held3 (fun w' => Below B w0 w') (first | assumption | exact B0.out | exact A0.out.1 | exact A0.out.2 | exact below_drawn B0.out 1) ((go_at_call 30; (first | refine C0.out.mono ?_ | refine D0.out.mono ?_); rintro e w1 ⟨rfl, hd⟩; have hbel := hd.d.ws.bel))
  have H1 := Lib.hid hd
  clear hd C0 H0 hbel B0 A0 D0
  go_wp2_with fail
  go_ret
  exact ⟨rfl, H1.out.d⟩
set_option maxRecDepth 100000 in
set_option maxHeartbeats 4000000 in
theorem fields_17 {B : Nat} {w0 w wr : World} {y q m : Nat} {x : Wk × Array Value} (h : Go1 B w0 y q x (2 + m) w wr) (hop : x.2[0]? = some (.int .i64 17)) :
    Calls Try.prog 20 #[ptrW y, .pointer (some ⟨q, 0, none⟩)] wr fun e w' => e = .returned (.bool true) ∧ WDone B w0 y q TQ (runs (fieldsS 17) x).1 (runs (fieldsS 17) x).2 w w' := by
  have k0 := h.d.bq.cell 0
  rw [hop] at k0
  clear hop
  have H0 := Lib.hid h
  clear h
  go_enter Try.func20, Try.ntmps20
  have C0 := Lib.hid (call_nums 2 [23] (m := 0 + m) (by rw [show (Sp.nums 2 [23]).size + (0 + m) = 2 + m by simp only [Sp.size, List.length_cons, List.length_nil]; omega]; exact H0.out) rfl)
  go_wp2_with fail
  refine C0.out.mono ?_
  rintro e w1 ⟨rfl, hd⟩
  have H1 := Lib.hid hd
  clear hd C0 H0
  go_wp2_with fail
  go_ret
  exact ⟨rfl, H1.out.d⟩
set_option maxRecDepth 100000 in
set_option maxHeartbeats 4000000 in
theorem fields_18 {B : Nat} {w0 w wr : World} {y q m : Nat} {x : Wk × Array Value} (h : Go1 B w0 y q x (0 + m) w wr) (hop : x.2[0]? = some (.int .i64 18)) :
    Calls Try.prog 20 #[ptrW y, .pointer (some ⟨q, 0, none⟩)] wr fun e w' => e = .returned (.bool true) ∧ WDone B w0 y q TQ (runs (fieldsS 18) x).1 (runs (fieldsS 18) x).2 w w' := by
  have k0 := h.d.bq.cell 0
  rw [hop] at k0
  clear hop
  have H0 := Lib.hid h
  clear h
  go_enter Try.func20, Try.ntmps20
  go_wp2_with fail
  go_ret
  exact ⟨rfl, H0.out.d⟩
set_option maxRecDepth 100000 in
set_option maxHeartbeats 4000000 in
theorem fields_19 {B : Nat} {w0 w wr : World} {y q m : Nat} {x : Wk × Array Value} (h : Go1 B w0 y q x (4 + m) w wr) (hop : x.2[0]? = some (.int .i64 19)) :
    Calls Try.prog 20 #[ptrW y, .pointer (some ⟨q, 0, none⟩)] wr fun e w' => e = .returned (.bool true) ∧ WDone B w0 y q TQ (runs (fieldsS 19) x).1 (runs (fieldsS 19) x).2 w w' := by
  have k0 := h.d.bq.cell 0
  rw [hop] at k0
  clear hop
  have H0 := Lib.hid h
  clear h
  go_enter Try.func20, Try.ntmps20
  have C0 := Lib.hid (call_nums 2 [5, 8] (m := 0 + m) (by rw [show (Sp.nums 2 [5, 8]).size + (0 + m) = 4 + m by simp only [Sp.size, List.length_cons, List.length_nil]; omega]; exact H0.out) rfl)
  have D0 := Lib.hid (call_nums 2 [5, 8] (m := 0 + m) (by rw [show (Sp.nums 2 [5, 8]).size + (0 + m) = 4 + m by simp only [Sp.size, List.length_cons, List.length_nil]; omega]; exact H0.out.drew) rfl)
  have B0 := Lib.hid (H0.out.d.ws.bel)
  have A0 := Lib.hid (below_alloc3 B0.out H0.out.d.ws.h0 (.cells (pRow q [5, 8]) 65))
  go_wp2_with fail
  go_region_held3 (fun w' => Below B w0 w') (first | assumption | exact B0.out | exact A0.out.1 | exact A0.out.2 | exact below_drawn B0.out 1) ((go_at_call 30; (first | refine C0.out.mono ?_ | refine D0.out.mono ?_); rintro e w1 ⟨rfl, hd⟩; have hbel := hd.d.ws.bel))
  have H1 := Lib.hid hd
  clear hd C0 H0 hbel B0 A0 D0
  go_wp2_with fail
  go_ret
  exact ⟨rfl, H1.out.d⟩
set_option maxRecDepth 100000 in
set_option maxHeartbeats 4000000 in
theorem fields_no {B : Nat} {w0 w wr : World} {y q m : Nat} {x : Wk × Array Value} (op : Int) (h : Go1 B w0 y q x m w wr) (hop : x.2[0]? = some (.int .i64 op)) (hno : ¬ (1 ≤ op ∧ op ≤ 19)) :
    Calls Try.prog 20 #[ptrW y, .pointer (some ⟨q, 0, none⟩)] wr fun e w' => e = .returned (.bool false) ∧ WDone B w0 y q TQ x.1 x.2 w w' := by
  have k0 := h.d.bq.cell 0
  rw [hop] at k0
  clear hop
  have H0 := Lib.hid h
  clear h
  have n1 : (op == 1) = false := beq_eq_false_iff_ne.2 (by omega)
  have n2 : (op == 2) = false := beq_eq_false_iff_ne.2 (by omega)
  have n3 : (op == 3) = false := beq_eq_false_iff_ne.2 (by omega)
  have n4 : (op == 4) = false := beq_eq_false_iff_ne.2 (by omega)
  have n5 : (op == 5) = false := beq_eq_false_iff_ne.2 (by omega)
  have n6 : (op == 6) = false := beq_eq_false_iff_ne.2 (by omega)
  have n7 : (op == 7) = false := beq_eq_false_iff_ne.2 (by omega)
  have n8 : (op == 8) = false := beq_eq_false_iff_ne.2 (by omega)
  have n9 : (op == 9) = false := beq_eq_false_iff_ne.2 (by omega)
  have n10 : (op == 10) = false := beq_eq_false_iff_ne.2 (by omega)
  have n11 : (op == 11) = false := beq_eq_false_iff_ne.2 (by omega)
  have n12 : (op == 12) = false := beq_eq_false_iff_ne.2 (by omega)
  have n13 : (op == 13) = false := beq_eq_false_iff_ne.2 (by omega)
  have n14 : (op == 14) = false := beq_eq_false_iff_ne.2 (by omega)
  have n15 : (op == 15) = false := beq_eq_false_iff_ne.2 (by omega)
  have n16 : (op == 16) = false := beq_eq_false_iff_ne.2 (by omega)
  have n17 : (op == 17) = false := beq_eq_false_iff_ne.2 (by omega)
  have n18 : (op == 18) = false := beq_eq_false_iff_ne.2 (by omega)
  have n19 : (op == 19) = false := beq_eq_false_iff_ne.2 (by omega)
  clear hno
  go_enter Try.func20, Try.ntmps20
  go_wp2_with fail
  go_ret
  exact ⟨rfl, H0.out.d⟩
end Go.Proofs.Ythlmldbgohnpnaa
