/- TokenMeets: (P16.1, P16.4) two grants together. Conditions: none. -/
import Derived.Test.YtjpjkoipmmcigaaTn
namespace Go.Proofs.Ytjpjkoipmmcigaa.tokenMeetsA
set_option linter.unusedVariables false
set_option linter.unusedSimpArgs false
open Go.ChangeShapes Go.WideShapes Go.ChangeAt Go.RowKit
open Go.ChangeMaps (open_string shut_string)
def zV : Value := .agg #[.int .i64 0, .int .i64 0, .int .i64 0, .int .i64 0, .int .i64 0, .int .i64 0, .bool false, .int .i64 0]
set_option maxRecDepth 100000 in
set_option maxHeartbeats 16000000 in
theorem bad_a (a0 a1 a2 a3 a4 a5 : Int) (a6 : Bool) (a7 : Int) (b0 b1 b2 b3 b4 b5 : Int) (b6 : Bool) (b7 : Int) (c0 c1 c2 c3 c4 c5 : Int) (c6 : Bool) (c7 : Int) (HMab : Hid (∀ w, Calls Try.prog 24 #[.agg #[.int .i64 a0, .int .i64 a1, .int .i64 a2, .int .i64 a3, .int .i64 a4, .int .i64 a5, .bool a6, .int .i64 a7], .agg #[.int .i64 b0, .int .i64 b1, .int .i64 b2, .int .i64 b3, .int .i64 b4, .int .i64 b5, .bool b6, .int .i64 b7]] w fun e w' => e = .returned (.agg #[.int .i64 0, .int .i64 0, .int .i64 0, .int .i64 0, .int .i64 0, .int .i64 0, .bool false, .int .i64 0]) ∧ Below w.heap.size w w')) (HRa : Hid (∀ w, Calls Try.prog 25 #[.agg #[.int .i64 a0, .int .i64 a1, .int .i64 a2, .int .i64 a3, .int .i64 a4, .int .i64 a5, .bool a6, .int .i64 a7]] w fun e w' => e = .returned (.bool false) ∧ Below w.heap.size w w')) (HRRa : Hid (∀ w, Calls Try.prog 26 #[.agg #[.int .i64 a0, .int .i64 a1, .int .i64 a2, .int .i64 a3, .int .i64 a4, .int .i64 a5, .bool a6, .int .i64 a7]] w fun e w' => e = .returned (.bool false) ∧ Below w.heap.size w w')) (HNab : Hid (∀ w, Calls Try.prog 27 #[.agg #[.int .i64 a0, .int .i64 a1, .int .i64 a2, .int .i64 a3, .int .i64 a4, .int .i64 a5, .bool a6, .int .i64 a7], .agg #[.int .i64 b0, .int .i64 b1, .int .i64 b2, .int .i64 b3, .int .i64 b4, .int .i64 b5, .bool b6, .int .i64 b7]] w fun e w' => e = .returned (.bool false) ∧ Below w.heap.size w w')) (HK : Hid (∀ w, Calls Try.prog 23 #[] w fun e w' => e = .returned (.bool true) ∧ Below w.heap.size w w'))  (w : World) :
    Calls Try.prog 4 #[.agg #[.int .i64 a0, .int .i64 a1, .int .i64 a2, .int .i64 a3, .int .i64 a4, .int .i64 a5, .bool a6, .int .i64 a7], .agg #[.int .i64 b0, .int .i64 b1, .int .i64 b2, .int .i64 b3, .int .i64 b4, .int .i64 b5, .bool b6, .int .i64 b7], .agg #[.int .i64 c0, .int .i64 c1, .int .i64 c2, .int .i64 c3, .int .i64 c4, .int .i64 c5, .bool c6, .int .i64 c7]] w fun e w' => e = .returned (.bool true) ∧ Below w.heap.size w w' := by
  go_enter Try.func4, Try.ntmps4
  go_upto_region 1 with fail
  have A0 : Blk (((w.alloc (.cells #[.int .i64 a0, .int .i64 a1, .int .i64 a2, .int .i64 a3, .int .i64 a4, .int .i64 a5, .bool a6, .int .i64 a7] 30)).alloc (.cells #[.int .i64 b0, .int .i64 b1, .int .i64 b2, .int .i64 b3, .int .i64 b4, .int .i64 b5, .bool b6, .int .i64 b7] 30)).alloc (.cells #[.int .i64 c0, .int .i64 c1, .int .i64 c2, .int .i64 c3, .int .i64 c4, .int .i64 c5, .bool c6, .int .i64 c7] 30)) w.heap.size 30 #[.int .i64 a0, .int .i64 a1, .int .i64 a2, .int .i64 a3, .int .i64 a4, .int .i64 a5, .bool a6, .int .i64 a7] := ((Blk.newAt rfl).alloc _).alloc _
  have B0 : Blk (((w.alloc (.cells #[.int .i64 a0, .int .i64 a1, .int .i64 a2, .int .i64 a3, .int .i64 a4, .int .i64 a5, .bool a6, .int .i64 a7] 30)).alloc (.cells #[.int .i64 b0, .int .i64 b1, .int .i64 b2, .int .i64 b3, .int .i64 b4, .int .i64 b5, .bool b6, .int .i64 b7] 30)).alloc (.cells #[.int .i64 c0, .int .i64 c1, .int .i64 c2, .int .i64 c3, .int .i64 c4, .int .i64 c5, .bool c6, .int .i64 c7] 30)) (w.heap.size + 1) 30 #[.int .i64 b0, .int .i64 b1, .int .i64 b2, .int .i64 b3, .int .i64 b4, .int .i64 b5, .bool b6, .int .i64 b7] := (Blk.newAt (by simp)).alloc _
  have C0 : Blk (((w.alloc (.cells #[.int .i64 a0, .int .i64 a1, .int .i64 a2, .int .i64 a3, .int .i64 a4, .int .i64 a5, .bool a6, .int .i64 a7] 30)).alloc (.cells #[.int .i64 b0, .int .i64 b1, .int .i64 b2, .int .i64 b3, .int .i64 b4, .int .i64 b5, .bool b6, .int .i64 b7] 30)).alloc (.cells #[.int .i64 c0, .int .i64 c1, .int .i64 c2, .int .i64 c3, .int .i64 c4, .int .i64 c5, .bool c6, .int .i64 c7] 30)) (w.heap.size + 2) 30 #[.int .i64 c0, .int .i64 c1, .int .i64 c2, .int .i64 c3, .int .i64 c4, .int .i64 c5, .bool c6, .int .i64 c7] := Blk.newAt (by simp)
  have hB0 : Below w.heap.size w (((w.alloc (.cells #[.int .i64 a0, .int .i64 a1, .int .i64 a2, .int .i64 a3, .int .i64 a4, .int .i64 a5, .bool a6, .int .i64 a7] 30)).alloc (.cells #[.int .i64 b0, .int .i64 b1, .int .i64 b2, .int .i64 b3, .int .i64 b4, .int .i64 b5, .bool b6, .int .i64 b7] 30)).alloc (.cells #[.int .i64 c0, .int .i64 c1, .int .i64 c2, .int .i64 c3, .int .i64 c4, .int .i64 c5, .bool c6, .int .i64 c7] 30)) := by go_grown
  generalize (((w.alloc (.cells #[.int .i64 a0, .int .i64 a1, .int .i64 a2, .int .i64 a3, .int .i64 a4, .int .i64 a5, .bool a6, .int .i64 a7] 30)).alloc (.cells #[.int .i64 b0, .int .i64 b1, .int .i64 b2, .int .i64 b3, .int .i64 b4, .int .i64 b5, .bool b6, .int .i64 b7] 30)).alloc (.cells #[.int .i64 c0, .int .i64 c1, .int .i64 c2, .int .i64 c3, .int .i64 c4, .int .i64 c5, .bool c6, .int .i64 c7] 30)) = w0 at *
  have x0 := A0.cell 0
  have x1 := A0.cell 1
  have x2 := A0.cell 2
  have x3 := A0.cell 3
  have x4 := A0.cell 4
  have x5 := A0.cell 5
  have x6 := A0.cell 6
  have x7 := A0.cell 7
  simp only [List.getElem?_toArray, List.getElem?_cons_zero, List.getElem?_cons_succ] at x0 x1 x2 x3 x4 x5 x6 x7
  have zx := A0.lt
  have y0 := B0.cell 0
  have y1 := B0.cell 1
  have y2 := B0.cell 2
  have y3 := B0.cell 3
  have y4 := B0.cell 4
  have y5 := B0.cell 5
  have y6 := B0.cell 6
  have y7 := B0.cell 7
  simp only [List.getElem?_toArray, List.getElem?_cons_zero, List.getElem?_cons_succ] at y0 y1 y2 y3 y4 y5 y6 y7
  have zy := B0.lt
  go_wp2_with fail
  refine (HMab.out _).mono ?_
  rintro e w1 ⟨rfl, hb1⟩
  have A1 := Blk.thru0 A0 hb1
  have B1 := Blk.thru0 B0 hb1
  have C1 := Blk.thru0 C0 hb1
  have hB1 := below_trans hB0 hb1
  clear x0 y0 x1 y1 x2 y2 x3 y3 x4 y4 x5 y5 x6 y6 x7 y7 zx zy A0 B0 C0 hB0 hb1
  have zA := A1.lt
  have zB := B1.lt
  have zC := C1.lt
  go_upto_region 2 with fail
  have hs1 := hB1.size
  have A2 : Blk (w1.alloc (.cells #[.int .i64 0, .int .i64 0, .int .i64 0, .int .i64 0, .int .i64 0, .int .i64 0, .bool false, .int .i64 0] 30)) w.heap.size 30 #[.int .i64 a0, .int .i64 a1, .int .i64 a2, .int .i64 a3, .int .i64 a4, .int .i64 a5, .bool a6, .int .i64 a7] := A1.alloc _
  have B2 : Blk (w1.alloc (.cells #[.int .i64 0, .int .i64 0, .int .i64 0, .int .i64 0, .int .i64 0, .int .i64 0, .bool false, .int .i64 0] 30)) (w.heap.size + 1) 30 #[.int .i64 b0, .int .i64 b1, .int .i64 b2, .int .i64 b3, .int .i64 b4, .int .i64 b5, .bool b6, .int .i64 b7] := B1.alloc _
  have C2 : Blk (w1.alloc (.cells #[.int .i64 0, .int .i64 0, .int .i64 0, .int .i64 0, .int .i64 0, .int .i64 0, .bool false, .int .i64 0] 30)) (w.heap.size + 2) 30 #[.int .i64 c0, .int .i64 c1, .int .i64 c2, .int .i64 c3, .int .i64 c4, .int .i64 c5, .bool c6, .int .i64 c7] := C1.alloc _
  have M2 : Blk (w1.alloc (.cells #[.int .i64 0, .int .i64 0, .int .i64 0, .int .i64 0, .int .i64 0, .int .i64 0, .bool false, .int .i64 0] 30)) w1.heap.size 30 #[.int .i64 0, .int .i64 0, .int .i64 0, .int .i64 0, .int .i64 0, .int .i64 0, .bool false, .int .i64 0] := Blk.newAt rfl
  have hB2 : Below w.heap.size w (w1.alloc (.cells #[.int .i64 0, .int .i64 0, .int .i64 0, .int .i64 0, .int .i64 0, .int .i64 0, .bool false, .int .i64 0] 30)) := hB1.alloc hs1 _
  generalize hbm : w1.heap.size = bm at *
  generalize (w1.alloc (.cells #[.int .i64 0, .int .i64 0, .int .i64 0, .int .i64 0, .int .i64 0, .int .i64 0, .bool false, .int .i64 0] 30)) = w2 at *
  clear A1 B1 C1 hB1 hs1 zA zB zC hbm
  have x0 := A2.cell 0
  have x1 := A2.cell 1
  have x2 := A2.cell 2
  have x3 := A2.cell 3
  have x4 := A2.cell 4
  have x5 := A2.cell 5
  have x6 := A2.cell 6
  have x7 := A2.cell 7
  simp only [List.getElem?_toArray, List.getElem?_cons_zero, List.getElem?_cons_succ] at x0 x1 x2 x3 x4 x5 x6 x7
  have zx := A2.lt
  have y0 := B2.cell 0
  have y1 := B2.cell 1
  have y2 := B2.cell 2
  have y3 := B2.cell 3
  have y4 := B2.cell 4
  have y5 := B2.cell 5
  have y6 := B2.cell 6
  have y7 := B2.cell 7
  simp only [List.getElem?_toArray, List.getElem?_cons_zero, List.getElem?_cons_succ] at y0 y1 y2 y3 y4 y5 y6 y7
  have zy := B2.lt
  have v0 := C2.cell 0
  have v1 := C2.cell 1
  have v2 := C2.cell 2
  have v3 := C2.cell 3
  have v4 := C2.cell 4
  have v5 := C2.cell 5
  have v6 := C2.cell 6
  have v7 := C2.cell 7
  simp only [List.getElem?_toArray, List.getElem?_cons_zero, List.getElem?_cons_succ] at v0 v1 v2 v3 v4 v5 v6 v7
  have zv := C2.lt
  have u0 := M2.cell 0
  have u1 := M2.cell 1
  have u2 := M2.cell 2
  have u3 := M2.cell 3
  have u4 := M2.cell 4
  have u5 := M2.cell 5
  have u6 := M2.cell 6
  have u7 := M2.cell 7
  simp only [List.getElem?_toArray, List.getElem?_cons_zero, List.getElem?_cons_succ] at u0 u1 u2 u3 u4 u5 u6 u7
  have zu := M2.lt
  clear A2 B2 C2 M2
  go_region_held3 (fun w' => (w'.cell? ⟨w.heap.size, 0, none⟩ = some (.int .i64 a0)) ∧ (w'.cell? ⟨w.heap.size, 1, none⟩ = some (.int .i64 a1)) ∧ (w'.cell? ⟨w.heap.size, 2, none⟩ = some (.int .i64 a2)) ∧ (w'.cell? ⟨w.heap.size, 3, none⟩ = some (.int .i64 a3)) ∧ (w'.cell? ⟨w.heap.size, 4, none⟩ = some (.int .i64 a4)) ∧ (w'.cell? ⟨w.heap.size, 5, none⟩ = some (.int .i64 a5)) ∧ (w'.cell? ⟨w.heap.size, 6, none⟩ = some (.bool a6)) ∧ (w'.cell? ⟨w.heap.size, 7, none⟩ = some (.int .i64 a7)) ∧ (w'.cell? ⟨w.heap.size + 1, 0, none⟩ = some (.int .i64 b0)) ∧ (w'.cell? ⟨w.heap.size + 1, 1, none⟩ = some (.int .i64 b1)) ∧ (w'.cell? ⟨w.heap.size + 1, 2, none⟩ = some (.int .i64 b2)) ∧ (w'.cell? ⟨w.heap.size + 1, 3, none⟩ = some (.int .i64 b3)) ∧ (w'.cell? ⟨w.heap.size + 1, 4, none⟩ = some (.int .i64 b4)) ∧ (w'.cell? ⟨w.heap.size + 1, 5, none⟩ = some (.int .i64 b5)) ∧ (w'.cell? ⟨w.heap.size + 1, 6, none⟩ = some (.bool b6)) ∧ (w'.cell? ⟨w.heap.size + 1, 7, none⟩ = some (.int .i64 b7)) ∧ (w'.cell? ⟨w.heap.size + 2, 0, none⟩ = some (.int .i64 c0)) ∧ (w'.cell? ⟨w.heap.size + 2, 1, none⟩ = some (.int .i64 c1)) ∧ (w'.cell? ⟨w.heap.size + 2, 2, none⟩ = some (.int .i64 c2)) ∧ (w'.cell? ⟨w.heap.size + 2, 3, none⟩ = some (.int .i64 c3)) ∧ (w'.cell? ⟨w.heap.size + 2, 4, none⟩ = some (.int .i64 c4)) ∧ (w'.cell? ⟨w.heap.size + 2, 5, none⟩ = some (.int .i64 c5)) ∧ (w'.cell? ⟨w.heap.size + 2, 6, none⟩ = some (.bool c6)) ∧ (w'.cell? ⟨w.heap.size + 2, 7, none⟩ = some (.int .i64 c7)) ∧ (w'.cell? ⟨bm, 0, none⟩ = some (.int .i64 0)) ∧ (w'.cell? ⟨bm, 1, none⟩ = some (.int .i64 0)) ∧ (w'.cell? ⟨bm, 2, none⟩ = some (.int .i64 0)) ∧ (w'.cell? ⟨bm, 3, none⟩ = some (.int .i64 0)) ∧ (w'.cell? ⟨bm, 4, none⟩ = some (.int .i64 0)) ∧ (w'.cell? ⟨bm, 5, none⟩ = some (.int .i64 0)) ∧ (w'.cell? ⟨bm, 6, none⟩ = some (.bool false)) ∧ (w'.cell? ⟨bm, 7, none⟩ = some (.int .i64 0)) ∧ (Below w.heap.size w w')) (first | (go_split_ands; refine ⟨?_, ?_, ?_, ?_, ?_, ?_, ?_, ?_, ?_, ?_, ?_, ?_, ?_, ?_, ?_, ?_, ?_, ?_, ?_, ?_, ?_, ?_, ?_, ?_, ?_, ?_, ?_, ?_, ?_, ?_, ?_, ?_, ?_⟩ <;> first | (exact cell_later (by assumption) (by assumption)) | (exact below_then (by assumption) (by assumption)) | (go_grown; done) | go_keep)) (first | (go_at_call 25; first | (with_reducible refine (HRa.out _).mono ?_; rintro e w9 ⟨rfl, hb9⟩)) | (go_at_call 26; first | (with_reducible refine (HRRa.out _).mono ?_; rintro e w9 ⟨rfl, hb9⟩)))
  all_goals
    rename_i hS
    clear hB2 x0 x1 x2 x3 x4 x5 x6 x7 y0 y1 y2 y3 y4 y5 y6 y7 v0 v1 v2 v3 v4 v5 v6 v7 u0 u1 u2 u3 u4 u5 u6 u7
    obtain ⟨x0, x1, x2, x3, x4, x5, x6, x7, y0, y1, y2, y3, y4, y5, y6, y7, v0, v1, v2, v3, v4, v5, v6, v7, u0, u1, u2, u3, u4, u5, u6, u7, h9⟩ := hS
    have zx := World.block_lt_of_cell? _ _ x0
    have zy := World.block_lt_of_cell? _ _ y0
    have zv := World.block_lt_of_cell? _ _ v0
    have zu := World.block_lt_of_cell? _ _ u0
    go_wp2_with (first | (go_at_call 26; (first | (with_reducible refine (HRRa.out _).mono ?_)); rintro e w9 ⟨rfl, hb9⟩; replace x0 := cell_later hb9 x0; replace x1 := cell_later hb9 x1; replace x2 := cell_later hb9 x2; replace x3 := cell_later hb9 x3; replace x4 := cell_later hb9 x4; replace x5 := cell_later hb9 x5; replace x6 := cell_later hb9 x6; replace x7 := cell_later hb9 x7; replace y0 := cell_later hb9 y0; replace y1 := cell_later hb9 y1; replace y2 := cell_later hb9 y2; replace y3 := cell_later hb9 y3; replace y4 := cell_later hb9 y4; replace y5 := cell_later hb9 y5; replace y6 := cell_later hb9 y6; replace y7 := cell_later hb9 y7; replace v0 := cell_later hb9 v0; replace v1 := cell_later hb9 v1; replace v2 := cell_later hb9 v2; replace v3 := cell_later hb9 v3; replace v4 := cell_later hb9 v4; replace v5 := cell_later hb9 v5; replace v6 := cell_later hb9 v6; replace v7 := cell_later hb9 v7; replace u0 := cell_later hb9 u0; replace u1 := cell_later hb9 u1; replace u2 := cell_later hb9 u2; replace u3 := cell_later hb9 u3; replace u4 := cell_later hb9 u4; replace u5 := cell_later hb9 u5; replace u6 := cell_later hb9 u6; replace u7 := cell_later hb9 u7; replace h9 := below_then hb9 h9; clear hb9) | (go_at_call 27; (first | (with_reducible refine (HNab.out _).mono ?_)); rintro e w9 ⟨rfl, hb9⟩; replace x0 := cell_later hb9 x0; replace x1 := cell_later hb9 x1; replace x2 := cell_later hb9 x2; replace x3 := cell_later hb9 x3; replace x4 := cell_later hb9 x4; replace x5 := cell_later hb9 x5; replace x6 := cell_later hb9 x6; replace x7 := cell_later hb9 x7; replace y0 := cell_later hb9 y0; replace y1 := cell_later hb9 y1; replace y2 := cell_later hb9 y2; replace y3 := cell_later hb9 y3; replace y4 := cell_later hb9 y4; replace y5 := cell_later hb9 y5; replace y6 := cell_later hb9 y6; replace y7 := cell_later hb9 y7; replace v0 := cell_later hb9 v0; replace v1 := cell_later hb9 v1; replace v2 := cell_later hb9 v2; replace v3 := cell_later hb9 v3; replace v4 := cell_later hb9 v4; replace v5 := cell_later hb9 v5; replace v6 := cell_later hb9 v6; replace v7 := cell_later hb9 v7; replace u0 := cell_later hb9 u0; replace u1 := cell_later hb9 u1; replace u2 := cell_later hb9 u2; replace u3 := cell_later hb9 u3; replace u4 := cell_later hb9 u4; replace u5 := cell_later hb9 u5; replace u6 := cell_later hb9 u6; replace u7 := cell_later hb9 u7; replace h9 := below_then hb9 h9; clear hb9) | (go_at_call 23; (first | (with_reducible refine (HK.out _).mono ?_)); rintro e w9 ⟨rfl, hb9⟩; replace x0 := cell_later hb9 x0; replace x1 := cell_later hb9 x1; replace x2 := cell_later hb9 x2; replace x3 := cell_later hb9 x3; replace x4 := cell_later hb9 x4; replace x5 := cell_later hb9 x5; replace x6 := cell_later hb9 x6; replace x7 := cell_later hb9 x7; replace y0 := cell_later hb9 y0; replace y1 := cell_later hb9 y1; replace y2 := cell_later hb9 y2; replace y3 := cell_later hb9 y3; replace y4 := cell_later hb9 y4; replace y5 := cell_later hb9 y5; replace y6 := cell_later hb9 y6; replace y7 := cell_later hb9 y7; replace v0 := cell_later hb9 v0; replace v1 := cell_later hb9 v1; replace v2 := cell_later hb9 v2; replace v3 := cell_later hb9 v3; replace v4 := cell_later hb9 v4; replace v5 := cell_later hb9 v5; replace v6 := cell_later hb9 v6; replace v7 := cell_later hb9 v7; replace u0 := cell_later hb9 u0; replace u1 := cell_later hb9 u1; replace u2 := cell_later hb9 u2; replace u3 := cell_later hb9 u3; replace u4 := cell_later hb9 u4; replace u5 := cell_later hb9 u5; replace u6 := cell_later hb9 u6; replace u7 := cell_later hb9 u7; replace h9 := below_then hb9 h9; clear hb9))
    go_ret
    exact ⟨rfl, h9⟩
set_option maxRecDepth 100000 in
set_option maxHeartbeats 16000000 in
theorem bad_b (a0 a1 a2 a3 a4 a5 : Int) (a6 : Bool) (a7 : Int) (b0 b1 b2 b3 b4 b5 : Int) (b6 : Bool) (b7 : Int) (c0 c1 c2 c3 c4 c5 : Int) (c6 : Bool) (c7 : Int) (HMab : Hid (∀ w, Calls Try.prog 24 #[.agg #[.int .i64 a0, .int .i64 a1, .int .i64 a2, .int .i64 a3, .int .i64 a4, .int .i64 a5, .bool a6, .int .i64 a7], .agg #[.int .i64 b0, .int .i64 b1, .int .i64 b2, .int .i64 b3, .int .i64 b4, .int .i64 b5, .bool b6, .int .i64 b7]] w fun e w' => e = .returned (.agg #[.int .i64 0, .int .i64 0, .int .i64 0, .int .i64 0, .int .i64 0, .int .i64 0, .bool false, .int .i64 0]) ∧ Below w.heap.size w w')) (HRa : Hid (∀ w, Calls Try.prog 25 #[.agg #[.int .i64 a0, .int .i64 a1, .int .i64 a2, .int .i64 a3, .int .i64 a4, .int .i64 a5, .bool a6, .int .i64 a7]] w fun e w' => e = .returned (.bool true) ∧ Below w.heap.size w w')) (HRRa : Hid (∀ w, Calls Try.prog 26 #[.agg #[.int .i64 a0, .int .i64 a1, .int .i64 a2, .int .i64 a3, .int .i64 a4, .int .i64 a5, .bool a6, .int .i64 a7]] w fun e w' => e = .returned (.bool true) ∧ Below w.heap.size w w')) (HRRb : Hid (∀ w, Calls Try.prog 26 #[.agg #[.int .i64 b0, .int .i64 b1, .int .i64 b2, .int .i64 b3, .int .i64 b4, .int .i64 b5, .bool b6, .int .i64 b7]] w fun e w' => e = .returned (.bool false) ∧ Below w.heap.size w w')) (HNab : Hid (∀ w, Calls Try.prog 27 #[.agg #[.int .i64 a0, .int .i64 a1, .int .i64 a2, .int .i64 a3, .int .i64 a4, .int .i64 a5, .bool a6, .int .i64 a7], .agg #[.int .i64 b0, .int .i64 b1, .int .i64 b2, .int .i64 b3, .int .i64 b4, .int .i64 b5, .bool b6, .int .i64 b7]] w fun e w' => e = .returned (.bool false) ∧ Below w.heap.size w w')) (HK : Hid (∀ w, Calls Try.prog 23 #[] w fun e w' => e = .returned (.bool true) ∧ Below w.heap.size w w'))  (w : World) :
    Calls Try.prog 4 #[.agg #[.int .i64 a0, .int .i64 a1, .int .i64 a2, .int .i64 a3, .int .i64 a4, .int .i64 a5, .bool a6, .int .i64 a7], .agg #[.int .i64 b0, .int .i64 b1, .int .i64 b2, .int .i64 b3, .int .i64 b4, .int .i64 b5, .bool b6, .int .i64 b7], .agg #[.int .i64 c0, .int .i64 c1, .int .i64 c2, .int .i64 c3, .int .i64 c4, .int .i64 c5, .bool c6, .int .i64 c7]] w fun e w' => e = .returned (.bool true) ∧ Below w.heap.size w w' := by
  go_enter Try.func4, Try.ntmps4
  go_upto_region 1 with fail
  have A0 : Blk (((w.alloc (.cells #[.int .i64 a0, .int .i64 a1, .int .i64 a2, .int .i64 a3, .int .i64 a4, .int .i64 a5, .bool a6, .int .i64 a7] 30)).alloc (.cells #[.int .i64 b0, .int .i64 b1, .int .i64 b2, .int .i64 b3, .int .i64 b4, .int .i64 b5, .bool b6, .int .i64 b7] 30)).alloc (.cells #[.int .i64 c0, .int .i64 c1, .int .i64 c2, .int .i64 c3, .int .i64 c4, .int .i64 c5, .bool c6, .int .i64 c7] 30)) w.heap.size 30 #[.int .i64 a0, .int .i64 a1, .int .i64 a2, .int .i64 a3, .int .i64 a4, .int .i64 a5, .bool a6, .int .i64 a7] := ((Blk.newAt rfl).alloc _).alloc _
  have B0 : Blk (((w.alloc (.cells #[.int .i64 a0, .int .i64 a1, .int .i64 a2, .int .i64 a3, .int .i64 a4, .int .i64 a5, .bool a6, .int .i64 a7] 30)).alloc (.cells #[.int .i64 b0, .int .i64 b1, .int .i64 b2, .int .i64 b3, .int .i64 b4, .int .i64 b5, .bool b6, .int .i64 b7] 30)).alloc (.cells #[.int .i64 c0, .int .i64 c1, .int .i64 c2, .int .i64 c3, .int .i64 c4, .int .i64 c5, .bool c6, .int .i64 c7] 30)) (w.heap.size + 1) 30 #[.int .i64 b0, .int .i64 b1, .int .i64 b2, .int .i64 b3, .int .i64 b4, .int .i64 b5, .bool b6, .int .i64 b7] := (Blk.newAt (by simp)).alloc _
  have C0 : Blk (((w.alloc (.cells #[.int .i64 a0, .int .i64 a1, .int .i64 a2, .int .i64 a3, .int .i64 a4, .int .i64 a5, .bool a6, .int .i64 a7] 30)).alloc (.cells #[.int .i64 b0, .int .i64 b1, .int .i64 b2, .int .i64 b3, .int .i64 b4, .int .i64 b5, .bool b6, .int .i64 b7] 30)).alloc (.cells #[.int .i64 c0, .int .i64 c1, .int .i64 c2, .int .i64 c3, .int .i64 c4, .int .i64 c5, .bool c6, .int .i64 c7] 30)) (w.heap.size + 2) 30 #[.int .i64 c0, .int .i64 c1, .int .i64 c2, .int .i64 c3, .int .i64 c4, .int .i64 c5, .bool c6, .int .i64 c7] := Blk.newAt (by simp)
  have hB0 : Below w.heap.size w (((w.alloc (.cells #[.int .i64 a0, .int .i64 a1, .int .i64 a2, .int .i64 a3, .int .i64 a4, .int .i64 a5, .bool a6, .int .i64 a7] 30)).alloc (.cells #[.int .i64 b0, .int .i64 b1, .int .i64 b2, .int .i64 b3, .int .i64 b4, .int .i64 b5, .bool b6, .int .i64 b7] 30)).alloc (.cells #[.int .i64 c0, .int .i64 c1, .int .i64 c2, .int .i64 c3, .int .i64 c4, .int .i64 c5, .bool c6, .int .i64 c7] 30)) := by go_grown
  generalize (((w.alloc (.cells #[.int .i64 a0, .int .i64 a1, .int .i64 a2, .int .i64 a3, .int .i64 a4, .int .i64 a5, .bool a6, .int .i64 a7] 30)).alloc (.cells #[.int .i64 b0, .int .i64 b1, .int .i64 b2, .int .i64 b3, .int .i64 b4, .int .i64 b5, .bool b6, .int .i64 b7] 30)).alloc (.cells #[.int .i64 c0, .int .i64 c1, .int .i64 c2, .int .i64 c3, .int .i64 c4, .int .i64 c5, .bool c6, .int .i64 c7] 30)) = w0 at *
  have x0 := A0.cell 0
  have x1 := A0.cell 1
  have x2 := A0.cell 2
  have x3 := A0.cell 3
  have x4 := A0.cell 4
  have x5 := A0.cell 5
  have x6 := A0.cell 6
  have x7 := A0.cell 7
  simp only [List.getElem?_toArray, List.getElem?_cons_zero, List.getElem?_cons_succ] at x0 x1 x2 x3 x4 x5 x6 x7
  have zx := A0.lt
  have y0 := B0.cell 0
  have y1 := B0.cell 1
  have y2 := B0.cell 2
  have y3 := B0.cell 3
  have y4 := B0.cell 4
  have y5 := B0.cell 5
  have y6 := B0.cell 6
  have y7 := B0.cell 7
  simp only [List.getElem?_toArray, List.getElem?_cons_zero, List.getElem?_cons_succ] at y0 y1 y2 y3 y4 y5 y6 y7
  have zy := B0.lt
  go_wp2_with fail
  refine (HMab.out _).mono ?_
  rintro e w1 ⟨rfl, hb1⟩
  have A1 := Blk.thru0 A0 hb1
  have B1 := Blk.thru0 B0 hb1
  have C1 := Blk.thru0 C0 hb1
  have hB1 := below_trans hB0 hb1
  clear x0 y0 x1 y1 x2 y2 x3 y3 x4 y4 x5 y5 x6 y6 x7 y7 zx zy A0 B0 C0 hB0 hb1
  have zA := A1.lt
  have zB := B1.lt
  have zC := C1.lt
  go_upto_region 2 with fail
  have hs1 := hB1.size
  have A2 : Blk (w1.alloc (.cells #[.int .i64 0, .int .i64 0, .int .i64 0, .int .i64 0, .int .i64 0, .int .i64 0, .bool false, .int .i64 0] 30)) w.heap.size 30 #[.int .i64 a0, .int .i64 a1, .int .i64 a2, .int .i64 a3, .int .i64 a4, .int .i64 a5, .bool a6, .int .i64 a7] := A1.alloc _
  have B2 : Blk (w1.alloc (.cells #[.int .i64 0, .int .i64 0, .int .i64 0, .int .i64 0, .int .i64 0, .int .i64 0, .bool false, .int .i64 0] 30)) (w.heap.size + 1) 30 #[.int .i64 b0, .int .i64 b1, .int .i64 b2, .int .i64 b3, .int .i64 b4, .int .i64 b5, .bool b6, .int .i64 b7] := B1.alloc _
  have C2 : Blk (w1.alloc (.cells #[.int .i64 0, .int .i64 0, .int .i64 0, .int .i64 0, .int .i64 0, .int .i64 0, .bool false, .int .i64 0] 30)) (w.heap.size + 2) 30 #[.int .i64 c0, .int .i64 c1, .int .i64 c2, .int .i64 c3, .int .i64 c4, .int .i64 c5, .bool c6, .int .i64 c7] := C1.alloc _
  have M2 : Blk (w1.alloc (.cells #[.int .i64 0, .int .i64 0, .int .i64 0, .int .i64 0, .int .i64 0, .int .i64 0, .bool false, .int .i64 0] 30)) w1.heap.size 30 #[.int .i64 0, .int .i64 0, .int .i64 0, .int .i64 0, .int .i64 0, .int .i64 0, .bool false, .int .i64 0] := Blk.newAt rfl
  have hB2 : Below w.heap.size w (w1.alloc (.cells #[.int .i64 0, .int .i64 0, .int .i64 0, .int .i64 0, .int .i64 0, .int .i64 0, .bool false, .int .i64 0] 30)) := hB1.alloc hs1 _
  generalize hbm : w1.heap.size = bm at *
  generalize (w1.alloc (.cells #[.int .i64 0, .int .i64 0, .int .i64 0, .int .i64 0, .int .i64 0, .int .i64 0, .bool false, .int .i64 0] 30)) = w2 at *
  clear A1 B1 C1 hB1 hs1 zA zB zC hbm
  have x0 := A2.cell 0
  have x1 := A2.cell 1
  have x2 := A2.cell 2
  have x3 := A2.cell 3
  have x4 := A2.cell 4
  have x5 := A2.cell 5
  have x6 := A2.cell 6
  have x7 := A2.cell 7
  simp only [List.getElem?_toArray, List.getElem?_cons_zero, List.getElem?_cons_succ] at x0 x1 x2 x3 x4 x5 x6 x7
  have zx := A2.lt
  have y0 := B2.cell 0
  have y1 := B2.cell 1
  have y2 := B2.cell 2
  have y3 := B2.cell 3
  have y4 := B2.cell 4
  have y5 := B2.cell 5
  have y6 := B2.cell 6
  have y7 := B2.cell 7
  simp only [List.getElem?_toArray, List.getElem?_cons_zero, List.getElem?_cons_succ] at y0 y1 y2 y3 y4 y5 y6 y7
  have zy := B2.lt
  have v0 := C2.cell 0
  have v1 := C2.cell 1
  have v2 := C2.cell 2
  have v3 := C2.cell 3
  have v4 := C2.cell 4
  have v5 := C2.cell 5
  have v6 := C2.cell 6
  have v7 := C2.cell 7
  simp only [List.getElem?_toArray, List.getElem?_cons_zero, List.getElem?_cons_succ] at v0 v1 v2 v3 v4 v5 v6 v7
  have zv := C2.lt
  have u0 := M2.cell 0
  have u1 := M2.cell 1
  have u2 := M2.cell 2
  have u3 := M2.cell 3
  have u4 := M2.cell 4
  have u5 := M2.cell 5
  have u6 := M2.cell 6
  have u7 := M2.cell 7
  simp only [List.getElem?_toArray, List.getElem?_cons_zero, List.getElem?_cons_succ] at u0 u1 u2 u3 u4 u5 u6 u7
  have zu := M2.lt
  clear A2 B2 C2 M2
  go_region_held3 (fun w' => (w'.cell? ⟨w.heap.size, 0, none⟩ = some (.int .i64 a0)) ∧ (w'.cell? ⟨w.heap.size, 1, none⟩ = some (.int .i64 a1)) ∧ (w'.cell? ⟨w.heap.size, 2, none⟩ = some (.int .i64 a2)) ∧ (w'.cell? ⟨w.heap.size, 3, none⟩ = some (.int .i64 a3)) ∧ (w'.cell? ⟨w.heap.size, 4, none⟩ = some (.int .i64 a4)) ∧ (w'.cell? ⟨w.heap.size, 5, none⟩ = some (.int .i64 a5)) ∧ (w'.cell? ⟨w.heap.size, 6, none⟩ = some (.bool a6)) ∧ (w'.cell? ⟨w.heap.size, 7, none⟩ = some (.int .i64 a7)) ∧ (w'.cell? ⟨w.heap.size + 1, 0, none⟩ = some (.int .i64 b0)) ∧ (w'.cell? ⟨w.heap.size + 1, 1, none⟩ = some (.int .i64 b1)) ∧ (w'.cell? ⟨w.heap.size + 1, 2, none⟩ = some (.int .i64 b2)) ∧ (w'.cell? ⟨w.heap.size + 1, 3, none⟩ = some (.int .i64 b3)) ∧ (w'.cell? ⟨w.heap.size + 1, 4, none⟩ = some (.int .i64 b4)) ∧ (w'.cell? ⟨w.heap.size + 1, 5, none⟩ = some (.int .i64 b5)) ∧ (w'.cell? ⟨w.heap.size + 1, 6, none⟩ = some (.bool b6)) ∧ (w'.cell? ⟨w.heap.size + 1, 7, none⟩ = some (.int .i64 b7)) ∧ (w'.cell? ⟨w.heap.size + 2, 0, none⟩ = some (.int .i64 c0)) ∧ (w'.cell? ⟨w.heap.size + 2, 1, none⟩ = some (.int .i64 c1)) ∧ (w'.cell? ⟨w.heap.size + 2, 2, none⟩ = some (.int .i64 c2)) ∧ (w'.cell? ⟨w.heap.size + 2, 3, none⟩ = some (.int .i64 c3)) ∧ (w'.cell? ⟨w.heap.size + 2, 4, none⟩ = some (.int .i64 c4)) ∧ (w'.cell? ⟨w.heap.size + 2, 5, none⟩ = some (.int .i64 c5)) ∧ (w'.cell? ⟨w.heap.size + 2, 6, none⟩ = some (.bool c6)) ∧ (w'.cell? ⟨w.heap.size + 2, 7, none⟩ = some (.int .i64 c7)) ∧ (w'.cell? ⟨bm, 0, none⟩ = some (.int .i64 0)) ∧ (w'.cell? ⟨bm, 1, none⟩ = some (.int .i64 0)) ∧ (w'.cell? ⟨bm, 2, none⟩ = some (.int .i64 0)) ∧ (w'.cell? ⟨bm, 3, none⟩ = some (.int .i64 0)) ∧ (w'.cell? ⟨bm, 4, none⟩ = some (.int .i64 0)) ∧ (w'.cell? ⟨bm, 5, none⟩ = some (.int .i64 0)) ∧ (w'.cell? ⟨bm, 6, none⟩ = some (.bool false)) ∧ (w'.cell? ⟨bm, 7, none⟩ = some (.int .i64 0)) ∧ (Below w.heap.size w w')) (first | (go_split_ands; refine ⟨?_, ?_, ?_, ?_, ?_, ?_, ?_, ?_, ?_, ?_, ?_, ?_, ?_, ?_, ?_, ?_, ?_, ?_, ?_, ?_, ?_, ?_, ?_, ?_, ?_, ?_, ?_, ?_, ?_, ?_, ?_, ?_, ?_⟩ <;> first | (exact cell_later (by assumption) (by assumption)) | (exact below_then (by assumption) (by assumption)) | (go_grown; done) | go_keep)) (first | (go_at_call 25; first | (with_reducible refine (HRa.out _).mono ?_; rintro e w9 ⟨rfl, hb9⟩)) | (go_at_call 26; first | (with_reducible refine (HRRa.out _).mono ?_; rintro e w9 ⟨rfl, hb9⟩) | (with_reducible refine (HRRb.out _).mono ?_; rintro e w9 ⟨rfl, hb9⟩)))
  all_goals
    rename_i hS
    clear hB2 x0 x1 x2 x3 x4 x5 x6 x7 y0 y1 y2 y3 y4 y5 y6 y7 v0 v1 v2 v3 v4 v5 v6 v7 u0 u1 u2 u3 u4 u5 u6 u7
    obtain ⟨x0, x1, x2, x3, x4, x5, x6, x7, y0, y1, y2, y3, y4, y5, y6, y7, v0, v1, v2, v3, v4, v5, v6, v7, u0, u1, u2, u3, u4, u5, u6, u7, h9⟩ := hS
    have zx := World.block_lt_of_cell? _ _ x0
    have zy := World.block_lt_of_cell? _ _ y0
    have zv := World.block_lt_of_cell? _ _ v0
    have zu := World.block_lt_of_cell? _ _ u0
    go_wp2_with (first | (go_at_call 26; (first | (with_reducible refine (HRRa.out _).mono ?_) | (with_reducible refine (HRRb.out _).mono ?_)); rintro e w9 ⟨rfl, hb9⟩; replace x0 := cell_later hb9 x0; replace x1 := cell_later hb9 x1; replace x2 := cell_later hb9 x2; replace x3 := cell_later hb9 x3; replace x4 := cell_later hb9 x4; replace x5 := cell_later hb9 x5; replace x6 := cell_later hb9 x6; replace x7 := cell_later hb9 x7; replace y0 := cell_later hb9 y0; replace y1 := cell_later hb9 y1; replace y2 := cell_later hb9 y2; replace y3 := cell_later hb9 y3; replace y4 := cell_later hb9 y4; replace y5 := cell_later hb9 y5; replace y6 := cell_later hb9 y6; replace y7 := cell_later hb9 y7; replace v0 := cell_later hb9 v0; replace v1 := cell_later hb9 v1; replace v2 := cell_later hb9 v2; replace v3 := cell_later hb9 v3; replace v4 := cell_later hb9 v4; replace v5 := cell_later hb9 v5; replace v6 := cell_later hb9 v6; replace v7 := cell_later hb9 v7; replace u0 := cell_later hb9 u0; replace u1 := cell_later hb9 u1; replace u2 := cell_later hb9 u2; replace u3 := cell_later hb9 u3; replace u4 := cell_later hb9 u4; replace u5 := cell_later hb9 u5; replace u6 := cell_later hb9 u6; replace u7 := cell_later hb9 u7; replace h9 := below_then hb9 h9; clear hb9) | (go_at_call 27; (first | (with_reducible refine (HNab.out _).mono ?_)); rintro e w9 ⟨rfl, hb9⟩; replace x0 := cell_later hb9 x0; replace x1 := cell_later hb9 x1; replace x2 := cell_later hb9 x2; replace x3 := cell_later hb9 x3; replace x4 := cell_later hb9 x4; replace x5 := cell_later hb9 x5; replace x6 := cell_later hb9 x6; replace x7 := cell_later hb9 x7; replace y0 := cell_later hb9 y0; replace y1 := cell_later hb9 y1; replace y2 := cell_later hb9 y2; replace y3 := cell_later hb9 y3; replace y4 := cell_later hb9 y4; replace y5 := cell_later hb9 y5; replace y6 := cell_later hb9 y6; replace y7 := cell_later hb9 y7; replace v0 := cell_later hb9 v0; replace v1 := cell_later hb9 v1; replace v2 := cell_later hb9 v2; replace v3 := cell_later hb9 v3; replace v4 := cell_later hb9 v4; replace v5 := cell_later hb9 v5; replace v6 := cell_later hb9 v6; replace v7 := cell_later hb9 v7; replace u0 := cell_later hb9 u0; replace u1 := cell_later hb9 u1; replace u2 := cell_later hb9 u2; replace u3 := cell_later hb9 u3; replace u4 := cell_later hb9 u4; replace u5 := cell_later hb9 u5; replace u6 := cell_later hb9 u6; replace u7 := cell_later hb9 u7; replace h9 := below_then hb9 h9; clear hb9) | (go_at_call 23; (first | (with_reducible refine (HK.out _).mono ?_)); rintro e w9 ⟨rfl, hb9⟩; replace x0 := cell_later hb9 x0; replace x1 := cell_later hb9 x1; replace x2 := cell_later hb9 x2; replace x3 := cell_later hb9 x3; replace x4 := cell_later hb9 x4; replace x5 := cell_later hb9 x5; replace x6 := cell_later hb9 x6; replace x7 := cell_later hb9 x7; replace y0 := cell_later hb9 y0; replace y1 := cell_later hb9 y1; replace y2 := cell_later hb9 y2; replace y3 := cell_later hb9 y3; replace y4 := cell_later hb9 y4; replace y5 := cell_later hb9 y5; replace y6 := cell_later hb9 y6; replace y7 := cell_later hb9 y7; replace v0 := cell_later hb9 v0; replace v1 := cell_later hb9 v1; replace v2 := cell_later hb9 v2; replace v3 := cell_later hb9 v3; replace v4 := cell_later hb9 v4; replace v5 := cell_later hb9 v5; replace v6 := cell_later hb9 v6; replace v7 := cell_later hb9 v7; replace u0 := cell_later hb9 u0; replace u1 := cell_later hb9 u1; replace u2 := cell_later hb9 u2; replace u3 := cell_later hb9 u3; replace u4 := cell_later hb9 u4; replace u5 := cell_later hb9 u5; replace u6 := cell_later hb9 u6; replace u7 := cell_later hb9 u7; replace h9 := below_then hb9 h9; clear hb9))
    go_ret
    exact ⟨rfl, h9⟩
set_option maxRecDepth 100000 in
set_option maxHeartbeats 16000000 in
theorem same_c (a0 a1 a2 a3 a4 a5 : Int) (a6 : Bool) (a7 : Int) (b0 b1 b2 b3 b4 b5 : Int) (b6 : Bool) (b7 : Int) (c0 c1 c2 c3 c4 c5 : Int) (c6 : Bool) (c7 : Int) (p0 p1 p2 p3 p4 p5 : Int) (p6 : Bool) (p7 : Int) (q0 q1 q2 q3 q4 q5 : Int) (q6 : Bool) (q7 : Int) (HMab : Hid (∀ w, Calls Try.prog 24 #[.agg #[.int .i64 a0, .int .i64 a1, .int .i64 a2, .int .i64 a3, .int .i64 a4, .int .i64 a5, .bool a6, .int .i64 a7], .agg #[.int .i64 b0, .int .i64 b1, .int .i64 b2, .int .i64 b3, .int .i64 b4, .int .i64 b5, .bool b6, .int .i64 b7]] w fun e w' => e = .returned (.agg #[.int .i64 a0, .int .i64 a1, .int .i64 a2, .int .i64 a3, .int .i64 a4, .int .i64 a5, .bool a6, .int .i64 a7]) ∧ Below w.heap.size w w')) (HRa : Hid (∀ w, Calls Try.prog 25 #[.agg #[.int .i64 a0, .int .i64 a1, .int .i64 a2, .int .i64 a3, .int .i64 a4, .int .i64 a5, .bool a6, .int .i64 a7]] w fun e w' => e = .returned (.bool true) ∧ Below w.heap.size w w')) (HRRa : Hid (∀ w, Calls Try.prog 26 #[.agg #[.int .i64 a0, .int .i64 a1, .int .i64 a2, .int .i64 a3, .int .i64 a4, .int .i64 a5, .bool a6, .int .i64 a7]] w fun e w' => e = .returned (.bool true) ∧ Below w.heap.size w w')) (HRRb : Hid (∀ w, Calls Try.prog 26 #[.agg #[.int .i64 b0, .int .i64 b1, .int .i64 b2, .int .i64 b3, .int .i64 b4, .int .i64 b5, .bool b6, .int .i64 b7]] w fun e w' => e = .returned (.bool true) ∧ Below w.heap.size w w')) (HRMab : Hid (∀ w, Calls Try.prog 28 #[.agg #[.int .i64 a0, .int .i64 a1, .int .i64 a2, .int .i64 a3, .int .i64 a4, .int .i64 a5, .bool a6, .int .i64 a7], .agg #[.int .i64 b0, .int .i64 b1, .int .i64 b2, .int .i64 b3, .int .i64 b4, .int .i64 b5, .bool b6, .int .i64 b7]] w fun e w' => e = .returned (.agg #[.int .i64 a0, .int .i64 a1, .int .i64 a2, .int .i64 a3, .int .i64 a4, .int .i64 a5, .bool a6, .int .i64 a7]) ∧ Below w.heap.size w w')) (HMba : Hid (∀ w, Calls Try.prog 24 #[.agg #[.int .i64 b0, .int .i64 b1, .int .i64 b2, .int .i64 b3, .int .i64 b4, .int .i64 b5, .bool b6, .int .i64 b7], .agg #[.int .i64 a0, .int .i64 a1, .int .i64 a2, .int .i64 a3, .int .i64 a4, .int .i64 a5, .bool a6, .int .i64 a7]] w fun e w' => e = .returned (.agg #[.int .i64 a0, .int .i64 a1, .int .i64 a2, .int .i64 a3, .int .i64 a4, .int .i64 a5, .bool a6, .int .i64 a7]) ∧ Below w.heap.size w w')) (HMaa : Hid (∀ w, Calls Try.prog 24 #[.agg #[.int .i64 a0, .int .i64 a1, .int .i64 a2, .int .i64 a3, .int .i64 a4, .int .i64 a5, .bool a6, .int .i64 a7], .agg #[.int .i64 a0, .int .i64 a1, .int .i64 a2, .int .i64 a3, .int .i64 a4, .int .i64 a5, .bool a6, .int .i64 a7]] w fun e w' => e = .returned (.agg #[.int .i64 a0, .int .i64 a1, .int .i64 a2, .int .i64 a3, .int .i64 a4, .int .i64 a5, .bool a6, .int .i64 a7]) ∧ Below w.heap.size w w')) (HRRc : Hid (∀ w, Calls Try.prog 26 #[.agg #[.int .i64 c0, .int .i64 c1, .int .i64 c2, .int .i64 c3, .int .i64 c4, .int .i64 c5, .bool c6, .int .i64 c7]] w fun e w' => e = .returned (.bool true) ∧ Below w.heap.size w w')) (HNab : Hid (∀ w, Calls Try.prog 27 #[.agg #[.int .i64 a0, .int .i64 a1, .int .i64 a2, .int .i64 a3, .int .i64 a4, .int .i64 a5, .bool a6, .int .i64 a7], .agg #[.int .i64 b0, .int .i64 b1, .int .i64 b2, .int .i64 b3, .int .i64 b4, .int .i64 b5, .bool b6, .int .i64 b7]] w fun e w' => e = .returned (.bool true) ∧ Below w.heap.size w w')) (HK : Hid (∀ w, Calls Try.prog 23 #[] w fun e w' => e = .returned (.bool true) ∧ Below w.heap.size w w')) (HNaa : Hid (∀ w, Calls Try.prog 27 #[.agg #[.int .i64 a0, .int .i64 a1, .int .i64 a2, .int .i64 a3, .int .i64 a4, .int .i64 a5, .bool a6, .int .i64 a7], .agg #[.int .i64 a0, .int .i64 a1, .int .i64 a2, .int .i64 a3, .int .i64 a4, .int .i64 a5, .bool a6, .int .i64 a7]] w fun e w' => e = .returned (.bool true) ∧ Below w.heap.size w w')) (HMmc : Hid (∀ w, Calls Try.prog 24 #[.agg #[.int .i64 a0, .int .i64 a1, .int .i64 a2, .int .i64 a3, .int .i64 a4, .int .i64 a5, .bool a6, .int .i64 a7], .agg #[.int .i64 c0, .int .i64 c1, .int .i64 c2, .int .i64 c3, .int .i64 c4, .int .i64 c5, .bool c6, .int .i64 c7]] w fun e w' => e = .returned (.agg #[.int .i64 p0, .int .i64 p1, .int .i64 p2, .int .i64 p3, .int .i64 p4, .int .i64 p5, .bool p6, .int .i64 p7]) ∧ Below w.heap.size w w')) (HMbc : Hid (∀ w, Calls Try.prog 24 #[.agg #[.int .i64 b0, .int .i64 b1, .int .i64 b2, .int .i64 b3, .int .i64 b4, .int .i64 b5, .bool b6, .int .i64 b7], .agg #[.int .i64 c0, .int .i64 c1, .int .i64 c2, .int .i64 c3, .int .i64 c4, .int .i64 c5, .bool c6, .int .i64 c7]] w fun e w' => e = .returned (.agg #[.int .i64 q0, .int .i64 q1, .int .i64 q2, .int .i64 q3, .int .i64 q4, .int .i64 q5, .bool q6, .int .i64 q7]) ∧ Below w.heap.size w w')) (HMaq : Hid (∀ w, Calls Try.prog 24 #[.agg #[.int .i64 a0, .int .i64 a1, .int .i64 a2, .int .i64 a3, .int .i64 a4, .int .i64 a5, .bool a6, .int .i64 a7], .agg #[.int .i64 q0, .int .i64 q1, .int .i64 q2, .int .i64 q3, .int .i64 q4, .int .i64 q5, .bool q6, .int .i64 q7]] w fun e w' => e = .returned (.agg #[.int .i64 p0, .int .i64 p1, .int .i64 p2, .int .i64 p3, .int .i64 p4, .int .i64 p5, .bool p6, .int .i64 p7]) ∧ Below w.heap.size w w'))  (w : World) :
    Calls Try.prog 4 #[.agg #[.int .i64 a0, .int .i64 a1, .int .i64 a2, .int .i64 a3, .int .i64 a4, .int .i64 a5, .bool a6, .int .i64 a7], .agg #[.int .i64 b0, .int .i64 b1, .int .i64 b2, .int .i64 b3, .int .i64 b4, .int .i64 b5, .bool b6, .int .i64 b7], .agg #[.int .i64 c0, .int .i64 c1, .int .i64 c2, .int .i64 c3, .int .i64 c4, .int .i64 c5, .bool c6, .int .i64 c7]] w fun e w' => e = .returned (.bool true) ∧ Below w.heap.size w w' := by
  go_enter Try.func4, Try.ntmps4
  go_upto_region 1 with fail
  have A0 : Blk (((w.alloc (.cells #[.int .i64 a0, .int .i64 a1, .int .i64 a2, .int .i64 a3, .int .i64 a4, .int .i64 a5, .bool a6, .int .i64 a7] 30)).alloc (.cells #[.int .i64 b0, .int .i64 b1, .int .i64 b2, .int .i64 b3, .int .i64 b4, .int .i64 b5, .bool b6, .int .i64 b7] 30)).alloc (.cells #[.int .i64 c0, .int .i64 c1, .int .i64 c2, .int .i64 c3, .int .i64 c4, .int .i64 c5, .bool c6, .int .i64 c7] 30)) w.heap.size 30 #[.int .i64 a0, .int .i64 a1, .int .i64 a2, .int .i64 a3, .int .i64 a4, .int .i64 a5, .bool a6, .int .i64 a7] := ((Blk.newAt rfl).alloc _).alloc _
  have B0 : Blk (((w.alloc (.cells #[.int .i64 a0, .int .i64 a1, .int .i64 a2, .int .i64 a3, .int .i64 a4, .int .i64 a5, .bool a6, .int .i64 a7] 30)).alloc (.cells #[.int .i64 b0, .int .i64 b1, .int .i64 b2, .int .i64 b3, .int .i64 b4, .int .i64 b5, .bool b6, .int .i64 b7] 30)).alloc (.cells #[.int .i64 c0, .int .i64 c1, .int .i64 c2, .int .i64 c3, .int .i64 c4, .int .i64 c5, .bool c6, .int .i64 c7] 30)) (w.heap.size + 1) 30 #[.int .i64 b0, .int .i64 b1, .int .i64 b2, .int .i64 b3, .int .i64 b4, .int .i64 b5, .bool b6, .int .i64 b7] := (Blk.newAt (by simp)).alloc _
  have C0 : Blk (((w.alloc (.cells #[.int .i64 a0, .int .i64 a1, .int .i64 a2, .int .i64 a3, .int .i64 a4, .int .i64 a5, .bool a6, .int .i64 a7] 30)).alloc (.cells #[.int .i64 b0, .int .i64 b1, .int .i64 b2, .int .i64 b3, .int .i64 b4, .int .i64 b5, .bool b6, .int .i64 b7] 30)).alloc (.cells #[.int .i64 c0, .int .i64 c1, .int .i64 c2, .int .i64 c3, .int .i64 c4, .int .i64 c5, .bool c6, .int .i64 c7] 30)) (w.heap.size + 2) 30 #[.int .i64 c0, .int .i64 c1, .int .i64 c2, .int .i64 c3, .int .i64 c4, .int .i64 c5, .bool c6, .int .i64 c7] := Blk.newAt (by simp)
  have hB0 : Below w.heap.size w (((w.alloc (.cells #[.int .i64 a0, .int .i64 a1, .int .i64 a2, .int .i64 a3, .int .i64 a4, .int .i64 a5, .bool a6, .int .i64 a7] 30)).alloc (.cells #[.int .i64 b0, .int .i64 b1, .int .i64 b2, .int .i64 b3, .int .i64 b4, .int .i64 b5, .bool b6, .int .i64 b7] 30)).alloc (.cells #[.int .i64 c0, .int .i64 c1, .int .i64 c2, .int .i64 c3, .int .i64 c4, .int .i64 c5, .bool c6, .int .i64 c7] 30)) := by go_grown
  generalize (((w.alloc (.cells #[.int .i64 a0, .int .i64 a1, .int .i64 a2, .int .i64 a3, .int .i64 a4, .int .i64 a5, .bool a6, .int .i64 a7] 30)).alloc (.cells #[.int .i64 b0, .int .i64 b1, .int .i64 b2, .int .i64 b3, .int .i64 b4, .int .i64 b5, .bool b6, .int .i64 b7] 30)).alloc (.cells #[.int .i64 c0, .int .i64 c1, .int .i64 c2, .int .i64 c3, .int .i64 c4, .int .i64 c5, .bool c6, .int .i64 c7] 30)) = w0 at *
  have x0 := A0.cell 0
  have x1 := A0.cell 1
  have x2 := A0.cell 2
  have x3 := A0.cell 3
  have x4 := A0.cell 4
  have x5 := A0.cell 5
  have x6 := A0.cell 6
  have x7 := A0.cell 7
  simp only [List.getElem?_toArray, List.getElem?_cons_zero, List.getElem?_cons_succ] at x0 x1 x2 x3 x4 x5 x6 x7
  have zx := A0.lt
  have y0 := B0.cell 0
  have y1 := B0.cell 1
  have y2 := B0.cell 2
  have y3 := B0.cell 3
  have y4 := B0.cell 4
  have y5 := B0.cell 5
  have y6 := B0.cell 6
  have y7 := B0.cell 7
  simp only [List.getElem?_toArray, List.getElem?_cons_zero, List.getElem?_cons_succ] at y0 y1 y2 y3 y4 y5 y6 y7
  have zy := B0.lt
  go_wp2_with fail
  refine (HMab.out _).mono ?_
  rintro e w1 ⟨rfl, hb1⟩
  have A1 := Blk.thru0 A0 hb1
  have B1 := Blk.thru0 B0 hb1
  have C1 := Blk.thru0 C0 hb1
  have hB1 := below_trans hB0 hb1
  clear x0 y0 x1 y1 x2 y2 x3 y3 x4 y4 x5 y5 x6 y6 x7 y7 zx zy A0 B0 C0 hB0 hb1
  have zA := A1.lt
  have zB := B1.lt
  have zC := C1.lt
  go_upto_region 2 with fail
  have hs1 := hB1.size
  have A2 : Blk (w1.alloc (.cells #[.int .i64 a0, .int .i64 a1, .int .i64 a2, .int .i64 a3, .int .i64 a4, .int .i64 a5, .bool a6, .int .i64 a7] 30)) w.heap.size 30 #[.int .i64 a0, .int .i64 a1, .int .i64 a2, .int .i64 a3, .int .i64 a4, .int .i64 a5, .bool a6, .int .i64 a7] := A1.alloc _
  have B2 : Blk (w1.alloc (.cells #[.int .i64 a0, .int .i64 a1, .int .i64 a2, .int .i64 a3, .int .i64 a4, .int .i64 a5, .bool a6, .int .i64 a7] 30)) (w.heap.size + 1) 30 #[.int .i64 b0, .int .i64 b1, .int .i64 b2, .int .i64 b3, .int .i64 b4, .int .i64 b5, .bool b6, .int .i64 b7] := B1.alloc _
  have C2 : Blk (w1.alloc (.cells #[.int .i64 a0, .int .i64 a1, .int .i64 a2, .int .i64 a3, .int .i64 a4, .int .i64 a5, .bool a6, .int .i64 a7] 30)) (w.heap.size + 2) 30 #[.int .i64 c0, .int .i64 c1, .int .i64 c2, .int .i64 c3, .int .i64 c4, .int .i64 c5, .bool c6, .int .i64 c7] := C1.alloc _
  have M2 : Blk (w1.alloc (.cells #[.int .i64 a0, .int .i64 a1, .int .i64 a2, .int .i64 a3, .int .i64 a4, .int .i64 a5, .bool a6, .int .i64 a7] 30)) w1.heap.size 30 #[.int .i64 a0, .int .i64 a1, .int .i64 a2, .int .i64 a3, .int .i64 a4, .int .i64 a5, .bool a6, .int .i64 a7] := Blk.newAt rfl
  have hB2 : Below w.heap.size w (w1.alloc (.cells #[.int .i64 a0, .int .i64 a1, .int .i64 a2, .int .i64 a3, .int .i64 a4, .int .i64 a5, .bool a6, .int .i64 a7] 30)) := hB1.alloc hs1 _
  generalize hbm : w1.heap.size = bm at *
  generalize (w1.alloc (.cells #[.int .i64 a0, .int .i64 a1, .int .i64 a2, .int .i64 a3, .int .i64 a4, .int .i64 a5, .bool a6, .int .i64 a7] 30)) = w2 at *
  clear A1 B1 C1 hB1 hs1 zA zB zC hbm
  have x0 := A2.cell 0
  have x1 := A2.cell 1
  have x2 := A2.cell 2
  have x3 := A2.cell 3
  have x4 := A2.cell 4
  have x5 := A2.cell 5
  have x6 := A2.cell 6
  have x7 := A2.cell 7
  simp only [List.getElem?_toArray, List.getElem?_cons_zero, List.getElem?_cons_succ] at x0 x1 x2 x3 x4 x5 x6 x7
  have zx := A2.lt
  have y0 := B2.cell 0
  have y1 := B2.cell 1
  have y2 := B2.cell 2
  have y3 := B2.cell 3
  have y4 := B2.cell 4
  have y5 := B2.cell 5
  have y6 := B2.cell 6
  have y7 := B2.cell 7
  simp only [List.getElem?_toArray, List.getElem?_cons_zero, List.getElem?_cons_succ] at y0 y1 y2 y3 y4 y5 y6 y7
  have zy := B2.lt
  have v0 := C2.cell 0
  have v1 := C2.cell 1
  have v2 := C2.cell 2
  have v3 := C2.cell 3
  have v4 := C2.cell 4
  have v5 := C2.cell 5
  have v6 := C2.cell 6
  have v7 := C2.cell 7
  simp only [List.getElem?_toArray, List.getElem?_cons_zero, List.getElem?_cons_succ] at v0 v1 v2 v3 v4 v5 v6 v7
  have zv := C2.lt
  have u0 := M2.cell 0
  have u1 := M2.cell 1
  have u2 := M2.cell 2
  have u3 := M2.cell 3
  have u4 := M2.cell 4
  have u5 := M2.cell 5
  have u6 := M2.cell 6
  have u7 := M2.cell 7
  simp only [List.getElem?_toArray, List.getElem?_cons_zero, List.getElem?_cons_succ] at u0 u1 u2 u3 u4 u5 u6 u7
  have zu := M2.lt
  clear A2 B2 C2 M2
  go_region_held3 (fun w' => (w'.cell? ⟨w.heap.size, 0, none⟩ = some (.int .i64 a0)) ∧ (w'.cell? ⟨w.heap.size, 1, none⟩ = some (.int .i64 a1)) ∧ (w'.cell? ⟨w.heap.size, 2, none⟩ = some (.int .i64 a2)) ∧ (w'.cell? ⟨w.heap.size, 3, none⟩ = some (.int .i64 a3)) ∧ (w'.cell? ⟨w.heap.size, 4, none⟩ = some (.int .i64 a4)) ∧ (w'.cell? ⟨w.heap.size, 5, none⟩ = some (.int .i64 a5)) ∧ (w'.cell? ⟨w.heap.size, 6, none⟩ = some (.bool a6)) ∧ (w'.cell? ⟨w.heap.size, 7, none⟩ = some (.int .i64 a7)) ∧ (w'.cell? ⟨w.heap.size + 1, 0, none⟩ = some (.int .i64 b0)) ∧ (w'.cell? ⟨w.heap.size + 1, 1, none⟩ = some (.int .i64 b1)) ∧ (w'.cell? ⟨w.heap.size + 1, 2, none⟩ = some (.int .i64 b2)) ∧ (w'.cell? ⟨w.heap.size + 1, 3, none⟩ = some (.int .i64 b3)) ∧ (w'.cell? ⟨w.heap.size + 1, 4, none⟩ = some (.int .i64 b4)) ∧ (w'.cell? ⟨w.heap.size + 1, 5, none⟩ = some (.int .i64 b5)) ∧ (w'.cell? ⟨w.heap.size + 1, 6, none⟩ = some (.bool b6)) ∧ (w'.cell? ⟨w.heap.size + 1, 7, none⟩ = some (.int .i64 b7)) ∧ (w'.cell? ⟨w.heap.size + 2, 0, none⟩ = some (.int .i64 c0)) ∧ (w'.cell? ⟨w.heap.size + 2, 1, none⟩ = some (.int .i64 c1)) ∧ (w'.cell? ⟨w.heap.size + 2, 2, none⟩ = some (.int .i64 c2)) ∧ (w'.cell? ⟨w.heap.size + 2, 3, none⟩ = some (.int .i64 c3)) ∧ (w'.cell? ⟨w.heap.size + 2, 4, none⟩ = some (.int .i64 c4)) ∧ (w'.cell? ⟨w.heap.size + 2, 5, none⟩ = some (.int .i64 c5)) ∧ (w'.cell? ⟨w.heap.size + 2, 6, none⟩ = some (.bool c6)) ∧ (w'.cell? ⟨w.heap.size + 2, 7, none⟩ = some (.int .i64 c7)) ∧ (w'.cell? ⟨bm, 0, none⟩ = some (.int .i64 a0)) ∧ (w'.cell? ⟨bm, 1, none⟩ = some (.int .i64 a1)) ∧ (w'.cell? ⟨bm, 2, none⟩ = some (.int .i64 a2)) ∧ (w'.cell? ⟨bm, 3, none⟩ = some (.int .i64 a3)) ∧ (w'.cell? ⟨bm, 4, none⟩ = some (.int .i64 a4)) ∧ (w'.cell? ⟨bm, 5, none⟩ = some (.int .i64 a5)) ∧ (w'.cell? ⟨bm, 6, none⟩ = some (.bool a6)) ∧ (w'.cell? ⟨bm, 7, none⟩ = some (.int .i64 a7)) ∧ (Below w.heap.size w w')) (first | (go_split_ands; refine ⟨?_, ?_, ?_, ?_, ?_, ?_, ?_, ?_, ?_, ?_, ?_, ?_, ?_, ?_, ?_, ?_, ?_, ?_, ?_, ?_, ?_, ?_, ?_, ?_, ?_, ?_, ?_, ?_, ?_, ?_, ?_, ?_, ?_⟩ <;> first | (exact cell_later (by assumption) (by assumption)) | (exact below_then (by assumption) (by assumption)) | (go_grown; done) | go_keep)) (first | (go_at_call 25; first | (with_reducible refine (HRa.out _).mono ?_; rintro e w9 ⟨rfl, hb9⟩)) | (go_at_call 26; first | (with_reducible refine (HRRa.out _).mono ?_; rintro e w9 ⟨rfl, hb9⟩) | (with_reducible refine (HRRb.out _).mono ?_; rintro e w9 ⟨rfl, hb9⟩) | (with_reducible refine (HRRc.out _).mono ?_; rintro e w9 ⟨rfl, hb9⟩)))
  all_goals
    rename_i hS
    clear hB2 x0 x1 x2 x3 x4 x5 x6 x7 y0 y1 y2 y3 y4 y5 y6 y7 v0 v1 v2 v3 v4 v5 v6 v7 u0 u1 u2 u3 u4 u5 u6 u7
    obtain ⟨x0, x1, x2, x3, x4, x5, x6, x7, y0, y1, y2, y3, y4, y5, y6, y7, v0, v1, v2, v3, v4, v5, v6, v7, u0, u1, u2, u3, u4, u5, u6, u7, h9⟩ := hS
    have zx := World.block_lt_of_cell? _ _ x0
    have zy := World.block_lt_of_cell? _ _ y0
    have zv := World.block_lt_of_cell? _ _ v0
    have zu := World.block_lt_of_cell? _ _ u0
    go_upto_region 6 with (first | (go_at_call 26; (first | (with_reducible refine (HRRa.out _).mono ?_) | (with_reducible refine (HRRb.out _).mono ?_) | (with_reducible refine (HRRc.out _).mono ?_)); rintro e w9 ⟨rfl, hb9⟩; replace x0 := cell_later hb9 x0; replace x1 := cell_later hb9 x1; replace x2 := cell_later hb9 x2; replace x3 := cell_later hb9 x3; replace x4 := cell_later hb9 x4; replace x5 := cell_later hb9 x5; replace x6 := cell_later hb9 x6; replace x7 := cell_later hb9 x7; replace y0 := cell_later hb9 y0; replace y1 := cell_later hb9 y1; replace y2 := cell_later hb9 y2; replace y3 := cell_later hb9 y3; replace y4 := cell_later hb9 y4; replace y5 := cell_later hb9 y5; replace y6 := cell_later hb9 y6; replace y7 := cell_later hb9 y7; replace v0 := cell_later hb9 v0; replace v1 := cell_later hb9 v1; replace v2 := cell_later hb9 v2; replace v3 := cell_later hb9 v3; replace v4 := cell_later hb9 v4; replace v5 := cell_later hb9 v5; replace v6 := cell_later hb9 v6; replace v7 := cell_later hb9 v7; replace u0 := cell_later hb9 u0; replace u1 := cell_later hb9 u1; replace u2 := cell_later hb9 u2; replace u3 := cell_later hb9 u3; replace u4 := cell_later hb9 u4; replace u5 := cell_later hb9 u5; replace u6 := cell_later hb9 u6; replace u7 := cell_later hb9 u7; replace h9 := below_then hb9 h9; clear hb9))
    have ea0 : (a0 == a0) = true := by simp
    have ea1 : (a1 == a1) = true := by simp
    have ea2 : (a2 == a2) = true := by simp
    have ea3 : (a3 == a3) = true := by simp
    have ea4 : (a4 == a4) = true := by simp
    have ea5 : (a5 == a5) = true := by simp
    have ea6 : (a6 == a6) = true := by simp
    have ea7 : (a7 == a7) = true := by simp
    have eb0 : (b0 == b0) = true := by simp
    have eb1 : (b1 == b1) = true := by simp
    have eb2 : (b2 == b2) = true := by simp
    have eb3 : (b3 == b3) = true := by simp
    have eb4 : (b4 == b4) = true := by simp
    have eb5 : (b5 == b5) = true := by simp
    have eb6 : (b6 == b6) = true := by simp
    have eb7 : (b7 == b7) = true := by simp
    have ep0 : (p0 == p0) = true := by simp
    have ep1 : (p1 == p1) = true := by simp
    have ep2 : (p2 == p2) = true := by simp
    have ep3 : (p3 == p3) = true := by simp
    have ep4 : (p4 == p4) = true := by simp
    have ep5 : (p5 == p5) = true := by simp
    have ep6 : (p6 == p6) = true := by simp
    have ep7 : (p7 == p7) = true := by simp
    go_region_held3 (fun w' => (w'.cell? ⟨w.heap.size, 0, none⟩ = some (.int .i64 a0)) ∧ (w'.cell? ⟨w.heap.size, 1, none⟩ = some (.int .i64 a1)) ∧ (w'.cell? ⟨w.heap.size, 2, none⟩ = some (.int .i64 a2)) ∧ (w'.cell? ⟨w.heap.size, 3, none⟩ = some (.int .i64 a3)) ∧ (w'.cell? ⟨w.heap.size, 4, none⟩ = some (.int .i64 a4)) ∧ (w'.cell? ⟨w.heap.size, 5, none⟩ = some (.int .i64 a5)) ∧ (w'.cell? ⟨w.heap.size, 6, none⟩ = some (.bool a6)) ∧ (w'.cell? ⟨w.heap.size, 7, none⟩ = some (.int .i64 a7)) ∧ (w'.cell? ⟨w.heap.size + 1, 0, none⟩ = some (.int .i64 b0)) ∧ (w'.cell? ⟨w.heap.size + 1, 1, none⟩ = some (.int .i64 b1)) ∧ (w'.cell? ⟨w.heap.size + 1, 2, none⟩ = some (.int .i64 b2)) ∧ (w'.cell? ⟨w.heap.size + 1, 3, none⟩ = some (.int .i64 b3)) ∧ (w'.cell? ⟨w.heap.size + 1, 4, none⟩ = some (.int .i64 b4)) ∧ (w'.cell? ⟨w.heap.size + 1, 5, none⟩ = some (.int .i64 b5)) ∧ (w'.cell? ⟨w.heap.size + 1, 6, none⟩ = some (.bool b6)) ∧ (w'.cell? ⟨w.heap.size + 1, 7, none⟩ = some (.int .i64 b7)) ∧ (w'.cell? ⟨w.heap.size + 2, 0, none⟩ = some (.int .i64 c0)) ∧ (w'.cell? ⟨w.heap.size + 2, 1, none⟩ = some (.int .i64 c1)) ∧ (w'.cell? ⟨w.heap.size + 2, 2, none⟩ = some (.int .i64 c2)) ∧ (w'.cell? ⟨w.heap.size + 2, 3, none⟩ = some (.int .i64 c3)) ∧ (w'.cell? ⟨w.heap.size + 2, 4, none⟩ = some (.int .i64 c4)) ∧ (w'.cell? ⟨w.heap.size + 2, 5, none⟩ = some (.int .i64 c5)) ∧ (w'.cell? ⟨w.heap.size + 2, 6, none⟩ = some (.bool c6)) ∧ (w'.cell? ⟨w.heap.size + 2, 7, none⟩ = some (.int .i64 c7)) ∧ (w'.cell? ⟨bm, 0, none⟩ = some (.int .i64 a0)) ∧ (w'.cell? ⟨bm, 1, none⟩ = some (.int .i64 a1)) ∧ (w'.cell? ⟨bm, 2, none⟩ = some (.int .i64 a2)) ∧ (w'.cell? ⟨bm, 3, none⟩ = some (.int .i64 a3)) ∧ (w'.cell? ⟨bm, 4, none⟩ = some (.int .i64 a4)) ∧ (w'.cell? ⟨bm, 5, none⟩ = some (.int .i64 a5)) ∧ (w'.cell? ⟨bm, 6, none⟩ = some (.bool a6)) ∧ (w'.cell? ⟨bm, 7, none⟩ = some (.int .i64 a7)) ∧ (Below w.heap.size w w')) (first | (go_split_ands; refine ⟨?_, ?_, ?_, ?_, ?_, ?_, ?_, ?_, ?_, ?_, ?_, ?_, ?_, ?_, ?_, ?_, ?_, ?_, ?_, ?_, ?_, ?_, ?_, ?_, ?_, ?_, ?_, ?_, ?_, ?_, ?_, ?_, ?_⟩ <;> first | (exact cell_later (by assumption) (by assumption)) | (exact below_then (by assumption) (by assumption)) | (go_grown; done) | go_keep)) (first | (go_at_call 24; first | (with_reducible refine (HMab.out _).mono ?_; rintro e w9 ⟨rfl, hb9⟩) | (with_reducible refine (HMba.out _).mono ?_; rintro e w9 ⟨rfl, hb9⟩) | (with_reducible refine (HMaa.out _).mono ?_; rintro e w9 ⟨rfl, hb9⟩) | (with_reducible refine (HMmc.out _).mono ?_; rintro e w9 ⟨rfl, hb9⟩) | (with_reducible refine (HMbc.out _).mono ?_; rintro e w9 ⟨rfl, hb9⟩) | (with_reducible refine (HMaq.out _).mono ?_; rintro e w9 ⟨rfl, hb9⟩)) | (go_at_call 28; first | (with_reducible refine (HRMab.out _).mono ?_; rintro e w9 ⟨rfl, hb9⟩)) | (go_at_call 25; first | (with_reducible refine (HRa.out _).mono ?_; rintro e w9 ⟨rfl, hb9⟩)))
    all_goals
      rename_i hS
      clear x0 x1 x2 x3 x4 x5 x6 x7 y0 y1 y2 y3 y4 y5 y6 y7 v0 v1 v2 v3 v4 v5 v6 v7 u0 u1 u2 u3 u4 u5 u6 u7 h9 zx zy zv zu
      obtain ⟨x0, x1, x2, x3, x4, x5, x6, x7, y0, y1, y2, y3, y4, y5, y6, y7, v0, v1, v2, v3, v4, v5, v6, v7, u0, u1, u2, u3, u4, u5, u6, u7, h9⟩ := hS
      have zx := World.block_lt_of_cell? _ _ x0
      have zy := World.block_lt_of_cell? _ _ y0
      have zv := World.block_lt_of_cell? _ _ v0
      have zu := World.block_lt_of_cell? _ _ u0
      go_upto_region 8 with fail
      go_region_held3 (fun w' => (w'.cell? ⟨w.heap.size, 0, none⟩ = some (.int .i64 a0)) ∧ (w'.cell? ⟨w.heap.size, 1, none⟩ = some (.int .i64 a1)) ∧ (w'.cell? ⟨w.heap.size, 2, none⟩ = some (.int .i64 a2)) ∧ (w'.cell? ⟨w.heap.size, 3, none⟩ = some (.int .i64 a3)) ∧ (w'.cell? ⟨w.heap.size, 4, none⟩ = some (.int .i64 a4)) ∧ (w'.cell? ⟨w.heap.size, 5, none⟩ = some (.int .i64 a5)) ∧ (w'.cell? ⟨w.heap.size, 6, none⟩ = some (.bool a6)) ∧ (w'.cell? ⟨w.heap.size, 7, none⟩ = some (.int .i64 a7)) ∧ (w'.cell? ⟨w.heap.size + 1, 0, none⟩ = some (.int .i64 b0)) ∧ (w'.cell? ⟨w.heap.size + 1, 1, none⟩ = some (.int .i64 b1)) ∧ (w'.cell? ⟨w.heap.size + 1, 2, none⟩ = some (.int .i64 b2)) ∧ (w'.cell? ⟨w.heap.size + 1, 3, none⟩ = some (.int .i64 b3)) ∧ (w'.cell? ⟨w.heap.size + 1, 4, none⟩ = some (.int .i64 b4)) ∧ (w'.cell? ⟨w.heap.size + 1, 5, none⟩ = some (.int .i64 b5)) ∧ (w'.cell? ⟨w.heap.size + 1, 6, none⟩ = some (.bool b6)) ∧ (w'.cell? ⟨w.heap.size + 1, 7, none⟩ = some (.int .i64 b7)) ∧ (w'.cell? ⟨w.heap.size + 2, 0, none⟩ = some (.int .i64 c0)) ∧ (w'.cell? ⟨w.heap.size + 2, 1, none⟩ = some (.int .i64 c1)) ∧ (w'.cell? ⟨w.heap.size + 2, 2, none⟩ = some (.int .i64 c2)) ∧ (w'.cell? ⟨w.heap.size + 2, 3, none⟩ = some (.int .i64 c3)) ∧ (w'.cell? ⟨w.heap.size + 2, 4, none⟩ = some (.int .i64 c4)) ∧ (w'.cell? ⟨w.heap.size + 2, 5, none⟩ = some (.int .i64 c5)) ∧ (w'.cell? ⟨w.heap.size + 2, 6, none⟩ = some (.bool c6)) ∧ (w'.cell? ⟨w.heap.size + 2, 7, none⟩ = some (.int .i64 c7)) ∧ (w'.cell? ⟨bm, 0, none⟩ = some (.int .i64 a0)) ∧ (w'.cell? ⟨bm, 1, none⟩ = some (.int .i64 a1)) ∧ (w'.cell? ⟨bm, 2, none⟩ = some (.int .i64 a2)) ∧ (w'.cell? ⟨bm, 3, none⟩ = some (.int .i64 a3)) ∧ (w'.cell? ⟨bm, 4, none⟩ = some (.int .i64 a4)) ∧ (w'.cell? ⟨bm, 5, none⟩ = some (.int .i64 a5)) ∧ (w'.cell? ⟨bm, 6, none⟩ = some (.bool a6)) ∧ (w'.cell? ⟨bm, 7, none⟩ = some (.int .i64 a7)) ∧ (Below w.heap.size w w')) (first | (go_split_ands; refine ⟨?_, ?_, ?_, ?_, ?_, ?_, ?_, ?_, ?_, ?_, ?_, ?_, ?_, ?_, ?_, ?_, ?_, ?_, ?_, ?_, ?_, ?_, ?_, ?_, ?_, ?_, ?_, ?_, ?_, ?_, ?_, ?_, ?_⟩ <;> first | (exact cell_later (by assumption) (by assumption)) | (exact below_then (by assumption) (by assumption)) | (go_grown; done) | go_keep)) (first | (go_at_call 26; first | (with_reducible refine (HRRa.out _).mono ?_; rintro e w9 ⟨rfl, hb9⟩) | (with_reducible refine (HRRb.out _).mono ?_; rintro e w9 ⟨rfl, hb9⟩) | (with_reducible refine (HRRc.out _).mono ?_; rintro e w9 ⟨rfl, hb9⟩)) | (go_at_call 24; first | (with_reducible refine (HMab.out _).mono ?_; rintro e w9 ⟨rfl, hb9⟩) | (with_reducible refine (HMba.out _).mono ?_; rintro e w9 ⟨rfl, hb9⟩) | (with_reducible refine (HMaa.out _).mono ?_; rintro e w9 ⟨rfl, hb9⟩) | (with_reducible refine (HMmc.out _).mono ?_; rintro e w9 ⟨rfl, hb9⟩) | (with_reducible refine (HMbc.out _).mono ?_; rintro e w9 ⟨rfl, hb9⟩) | (with_reducible refine (HMaq.out _).mono ?_; rintro e w9 ⟨rfl, hb9⟩)) | (go_at_call 27; first | (with_reducible refine (HNab.out _).mono ?_; rintro e w9 ⟨rfl, hb9⟩) | (with_reducible refine (HNaa.out _).mono ?_; rintro e w9 ⟨rfl, hb9⟩)) | (go_at_call 23; first | (with_reducible refine (HK.out _).mono ?_; rintro e w9 ⟨rfl, hb9⟩)))
      all_goals
        rename_i hS
        have h8 := hS.2.2.2.2.2.2.2.2.2.2.2.2.2.2.2.2.2.2.2.2.2.2.2.2.2.2.2.2.2.2.2.2
        clear hS x0 x1 x2 x3 x4 x5 x6 x7 y0 y1 y2 y3 y4 y5 y6 y7 v0 v1 v2 v3 v4 v5 v6 v7 u0 u1 u2 u3 u4 u5 u6 u7 h9 zx zy zv zu
        go_wp2
        go_ret
        exact ⟨rfl, h8⟩
end Go.Proofs.Ytjpjkoipmmcigaa.tokenMeetsA
