/- What must come of fixed calls (layer cell). -/
import Derived.Test.YtpbnbnhmlpjbjaaCellRef6
import Derived.RegionTactic
namespace Go.Proofs.Ytpbnbnhmlpjbjaa
set_option linter.unusedVariables false
set_option linter.unusedSimpArgs false
open Go.RowKit
theorem k_of (w : World) : Calls Try.prog 12 #[.agg #[.int .i64 5, .int .i64 9], .int .i64 15] w fun e w' => e = .returned (.tuple #[.agg #[.int .i64 15, .int .i64 2, .int .i64 4], .bool true]) ∧ Below w.heap.size w w' := by
  have := cof_at 15 5 9 (by omega) (by decide +kernel) w
  rwa [show ((15 : Nat) : Int) = 15 from rfl, show (5 : Int) / 2 ^ (16 - 15) = 2 by decide, show (9 : Int) / 2 ^ (16 - 15) = 4 by decide] at this
theorem k_code (w : World) : Calls Try.prog 37 #[.agg #[.int .i64 15, .int .i64 2, .int .i64 4]] w fun e w' => e = .returned (.tuple #[.int .u64 36, .bool true]) ∧ Below w.heap.size w w' := by
  have := code_yes 15 2 4 (by decide +kernel) w
  rwa [show ilv 15 2 4 = 36 by decide +kernel] at this
theorem k_box (w : World) : Calls Try.prog 14 #[.agg #[.int .i64 15, .int .i64 2, .int .i64 4]] w fun e w' => e = .returned (.tuple #[.agg #[.int .i64 4, .int .i64 8, .int .i64 5, .int .i64 9], .bool true]) ∧ Below w.heap.size w w' := by
  have := cbox_yes 15 2 4 2 (by omega) (by decide +kernel) (by decide) w
  simpa using this
theorem k_home (w : World) : Calls Try.prog 33 #[.agg #[.int .i64 5, .int .i64 9, .int .i64 6, .int .i64 9]] w fun e w' => e = .returned (.tuple #[.agg #[.int .i64 14, .int .i64 1, .int .i64 2], .bool true]) ∧ Below w.heap.size w w' := by
  have := home_yes 5 9 6 9 (by decide +kernel) w
  rwa [show hlv 5 9 6 9 16 = 14 by decide +kernel, show (5 : Int) / 2 ^ (16 - 14) = 1 by decide, show (9 : Int) / 2 ^ (16 - 14) = 2 by decide] at this
set_option maxHeartbeats 1000000 in
theorem at_any (a b c : Int) (w : World) :
    Calls Try.prog 45 #[.int .i64 a, .int .i64 b, .int .i64 c] w fun e w' => e = .returned (.agg #[.int .i64 a, .int .i64 b, .int .i64 c]) ∧ Below w.heap.size w w' := by
  go_enter Try.func45, Try.ntmps45
  go_wp2
  refine bodyPost_ret (v := .agg #[.int .i64 a, .int .i64 b, .int .i64 c]) ?_ rfl ⟨rfl, ?_⟩
  · simp [results, Try.results45, go_sem, *]
  · go_grown
set_option maxHeartbeats 2000000 in
theorem known_any  (w : World) :
    Calls Try.prog 18 #[] w fun e w' => e = .returned (.bool true) ∧ Below w.heap.size w w' := by
  go_enter Try.func18, Try.ntmps18
  go_wp2_with fail
  refine (k_of _).mono ?_
  rintro e w1 ⟨rfl, hb⟩
  have hB : Below w.heap.size w w1 := below_trans (by go_grown) hb
  have hsz := hb.size
  (try simp at hsz)
  clear hb
  go_wp2_with fail
  refine (k_code _).mono ?_
  rintro e w2 ⟨rfl, hb⟩
  have C : Blk w2 (w1.heap.size) 23 #[.int .i64 15, .int .i64 2, .int .i64 4] := Blk.thru0 (Blk.newAt (by simp)) hb
  have hs := hB.size
  replace hB : Below w.heap.size w w2 := below_trans (by go_grown) hb
  clear hs
  clear hsz
  have hsz := hb.size
  (try simp at hsz)
  clear hb
  have kC0 := C.cell 0
  have kC1 := C.cell 1
  have kC2 := C.cell 2
  simp only [List.getElem?_toArray, List.getElem?_cons_zero, List.getElem?_cons_succ] at kC0 kC1 kC2
  have zC := C.lt
  go_wp2_with fail
  refine (k_box _).mono ?_
  rintro e w3 ⟨rfl, hb⟩
  replace C : Blk w3 (w1.heap.size) 23 #[.int .i64 15, .int .i64 2, .int .i64 4] := Blk.thru0 (C) hb
  have hs := hB.size
  replace hB : Below w.heap.size w w3 := below_trans (by go_grown) hb
  clear hs
  clear hsz kC0 kC1 kC2 zC
  have hsz := hb.size
  (try simp at hsz)
  clear hb
  have kC0 := C.cell 0
  have kC1 := C.cell 1
  have kC2 := C.cell 2
  simp only [List.getElem?_toArray, List.getElem?_cons_zero, List.getElem?_cons_succ] at kC0 kC1 kC2
  have zC := C.lt
  go_wp2_with fail
  refine (k_home _).mono ?_
  rintro e w4 ⟨rfl, hb⟩
  replace C : Blk w4 (w1.heap.size) 23 #[.int .i64 15, .int .i64 2, .int .i64 4] := Blk.thru0 ((C).alloc _) hb
  have B : Blk w4 (w3.heap.size) 29 #[.int .i64 4, .int .i64 8, .int .i64 5, .int .i64 9] := Blk.thru0 (Blk.newAt (by simp)) hb
  have hs := hB.size
  replace hB : Below w.heap.size w w4 := below_trans (by go_grown) hb
  clear hs
  clear hsz kC0 kC1 kC2 zC
  have hsz := hb.size
  (try simp at hsz)
  clear hb
  have kC0 := C.cell 0
  have kC1 := C.cell 1
  have kC2 := C.cell 2
  have kB0 := B.cell 0
  have kB1 := B.cell 1
  have kB2 := B.cell 2
  have kB3 := B.cell 3
  simp only [List.getElem?_toArray, List.getElem?_cons_zero, List.getElem?_cons_succ] at kC0 kC1 kC2 kB0 kB1 kB2 kB3
  have zC := C.lt
  have zB := B.lt
  go_wp2_with fail
  have hB5 : Below w.heap.size w (w4.alloc (.cells #[.int .i64 14, .int .i64 1, .int .i64 2] 23)) := by have hs := hB.size; go_grown
  have H := Blk.new w4 23 #[.int .i64 14, .int .i64 1, .int .i64 2]
  have C5 := C.alloc (.cells #[.int .i64 14, .int .i64 1, .int .i64 2] 23)
  have B5 := B.alloc (.cells #[.int .i64 14, .int .i64 1, .int .i64 2] 23)
  generalize w4.alloc (.cells #[.int .i64 14, .int .i64 1, .int .i64 2] 23) = W at hB5 H C5 B5 ⊢
  clear hB C B hsz kC0 kC1 kC2 kB0 kB1 kB2 kB3 zC zB
  have kC50 := C5.cell 0
  have kC51 := C5.cell 1
  have kC52 := C5.cell 2
  have kB50 := B5.cell 0
  have kB51 := B5.cell 1
  have kB52 := B5.cell 2
  have kB53 := B5.cell 3
  have kH0 := H.cell 0
  have kH1 := H.cell 1
  have kH2 := H.cell 2
  simp only [List.getElem?_toArray, List.getElem?_cons_zero, List.getElem?_cons_succ] at kC50 kC51 kC52 kB50 kB51 kB52 kB53 kH0 kH1 kH2
  have zC5 := C5.lt
  have zB5 := B5.lt
  have zH := H.lt
  clear zC5 zB5 zH
  go_region_held3 (fun w' => (w'.cell? ⟨w1.heap.size, 0, none⟩ = some (.int .i64 15)) ∧ (w'.cell? ⟨w1.heap.size, 1, none⟩ = some (.int .i64 2)) ∧ (w'.cell? ⟨w1.heap.size, 2, none⟩ = some (.int .i64 4)) ∧ (w'.cell? ⟨w3.heap.size, 0, none⟩ = some (.int .i64 4)) ∧ (w'.cell? ⟨w3.heap.size, 1, none⟩ = some (.int .i64 8)) ∧ (w'.cell? ⟨w3.heap.size, 2, none⟩ = some (.int .i64 5)) ∧ (w'.cell? ⟨w3.heap.size, 3, none⟩ = some (.int .i64 9)) ∧ (w'.cell? ⟨w4.heap.size, 0, none⟩ = some (.int .i64 14)) ∧ (w'.cell? ⟨w4.heap.size, 1, none⟩ = some (.int .i64 1)) ∧ (w'.cell? ⟨w4.heap.size, 2, none⟩ = some (.int .i64 2)) ∧ (Below w.heap.size w w')) (first | (go_split_ands; refine ⟨?_, ?_, ?_, ?_, ?_, ?_, ?_, ?_, ?_, ?_, ?_⟩ <;> first | (exact cell_later (by assumption) (by assumption)) | (exact below_then (by assumption) (by assumption)) | (go_grown; done) | go_keep)) (first | (go_at_call 45; refine (at_any _ _ _ _).mono ?_; rintro e w9 ⟨rfl, hb9⟩))
  all_goals
    go_wp2
    go_ret
    refine ⟨rfl, ?_⟩
    (repeat' (first | (with_reducible assumption) | (go_grown; done) | (refine below_trans ?_ (by assumption))))
end Go.Proofs.Ytpbnbnhmlpjbjaa
