/- The document's Meet of grants, by contract. -/
import Derived.Test.YtjpjkoipmmcigaaTo24
import Derived.Test.YtjpjkoipmmcigaaGeomRef2
import Derived.StillTailTactics
namespace Go.Proofs.Ytjpjkoipmmcigaa
set_option linter.unusedVariables false
set_option linter.unusedSimpArgs false
open Go.RowKit
attribute [local go_sem high] run_max2 run_min2
set_option maxRecDepth 100000 in
set_option maxHeartbeats 8000000 in
theorem rtm_no (ao bo : Nat) (az ax ay aX aY at_ bz bx by_ bX bY bt : Int) (x y X Y : Int) (av bv : Bool) (HRI : Hid (∀ w, Calls Try.prog 45 #[.int .i64 ao, .int .i64 bo] w fun e w' => e = .returned (.int .i64 (ao &&& bo : Nat)) ∧ w = w')) (HG : Hid (∀ w, Calls Try.prog 47 #[.agg #[.int .i64 ax, .int .i64 ay, .int .i64 aX, .int .i64 aY], .agg #[.int .i64 bx, .int .i64 by_, .int .i64 bX, .int .i64 bY]] w fun e w' => e = .returned (.tuple #[.agg #[.int .i64 x, .int .i64 y, .int .i64 X, .int .i64 Y], .bool false]) ∧ Below w.heap.size w w')) (w : World) :
    Calls Try.prog 28 #[.agg #[.int .i64 ao, .int .i64 az, .int .i64 ax, .int .i64 ay, .int .i64 aX, .int .i64 aY, .bool av, .int .i64 at_], .agg #[.int .i64 bo, .int .i64 bz, .int .i64 bx, .int .i64 by_, .int .i64 bX, .int .i64 bY, .bool bv, .int .i64 bt]] w fun e w' => e = .returned (.agg #[.int .i64 (ao &&& bo : Nat), .int .i64 (min az bz), .int .i64 0, .int .i64 0, .int .i64 0, .int .i64 0, .bool true, .int .i64 (min at_ bt)]) ∧ Below w.heap.size w w' := by
  go_enter Try.func28, Try.ntmps28
  go_upto_region 1 with fail
  have A0 : Blk (((w.alloc (.cells #[.int .i64 ao, .int .i64 az, .int .i64 ax, .int .i64 ay, .int .i64 aX, .int .i64 aY, .bool av, .int .i64 at_] 30)).alloc (.cells #[.int .i64 bo, .int .i64 bz, .int .i64 bx, .int .i64 by_, .int .i64 bX, .int .i64 bY, .bool bv, .int .i64 bt] 30)).alloc (.cells #[.int .i64 0, .int .i64 0, .int .i64 0, .int .i64 0, .int .i64 0, .int .i64 0, .bool false, .int .i64 0] 30)) w.heap.size 30 #[.int .i64 ao, .int .i64 az, .int .i64 ax, .int .i64 ay, .int .i64 aX, .int .i64 aY, .bool av, .int .i64 at_] := ((Blk.newAt rfl).alloc _).alloc _
  have B0 : Blk (((w.alloc (.cells #[.int .i64 ao, .int .i64 az, .int .i64 ax, .int .i64 ay, .int .i64 aX, .int .i64 aY, .bool av, .int .i64 at_] 30)).alloc (.cells #[.int .i64 bo, .int .i64 bz, .int .i64 bx, .int .i64 by_, .int .i64 bX, .int .i64 bY, .bool bv, .int .i64 bt] 30)).alloc (.cells #[.int .i64 0, .int .i64 0, .int .i64 0, .int .i64 0, .int .i64 0, .int .i64 0, .bool false, .int .i64 0] 30)) (w.heap.size + 1) 30 #[.int .i64 bo, .int .i64 bz, .int .i64 bx, .int .i64 by_, .int .i64 bX, .int .i64 bY, .bool bv, .int .i64 bt] := (Blk.newAt (by simp)).alloc _
  have R0 : Blk (((w.alloc (.cells #[.int .i64 ao, .int .i64 az, .int .i64 ax, .int .i64 ay, .int .i64 aX, .int .i64 aY, .bool av, .int .i64 at_] 30)).alloc (.cells #[.int .i64 bo, .int .i64 bz, .int .i64 bx, .int .i64 by_, .int .i64 bX, .int .i64 bY, .bool bv, .int .i64 bt] 30)).alloc (.cells #[.int .i64 0, .int .i64 0, .int .i64 0, .int .i64 0, .int .i64 0, .int .i64 0, .bool false, .int .i64 0] 30)) (w.heap.size + 1 + 1) 30 #[.int .i64 0, .int .i64 0, .int .i64 0, .int .i64 0, .int .i64 0, .int .i64 0, .bool false, .int .i64 0] := Blk.newAt (by simp)
  have hB0 : Below w.heap.size w (((w.alloc (.cells #[.int .i64 ao, .int .i64 az, .int .i64 ax, .int .i64 ay, .int .i64 aX, .int .i64 aY, .bool av, .int .i64 at_] 30)).alloc (.cells #[.int .i64 bo, .int .i64 bz, .int .i64 bx, .int .i64 by_, .int .i64 bX, .int .i64 bY, .bool bv, .int .i64 bt] 30)).alloc (.cells #[.int .i64 0, .int .i64 0, .int .i64 0, .int .i64 0, .int .i64 0, .int .i64 0, .bool false, .int .i64 0] 30)) := by go_grown
  generalize (((w.alloc (.cells #[.int .i64 ao, .int .i64 az, .int .i64 ax, .int .i64 ay, .int .i64 aX, .int .i64 aY, .bool av, .int .i64 at_] 30)).alloc (.cells #[.int .i64 bo, .int .i64 bz, .int .i64 bx, .int .i64 by_, .int .i64 bX, .int .i64 bY, .bool bv, .int .i64 bt] 30)).alloc (.cells #[.int .i64 0, .int .i64 0, .int .i64 0, .int .i64 0, .int .i64 0, .int .i64 0, .bool false, .int .i64 0] 30)) = w0 at *
  have kA0 := A0.cell 0
  have kA1 := A0.cell 1
  have kA7 := A0.cell 7
  have kB0 := B0.cell 0
  have kB1 := B0.cell 1
  have kB7 := B0.cell 7
  simp only [List.getElem?_toArray, List.getElem?_cons_zero, List.getElem?_cons_succ] at kA0 kA1 kA7 kB0 kB1 kB7
  go_region_held3 (fun w' => (w'.cell? ⟨w.heap.size, 0, none⟩ = some (.int .i64 ao)) ∧ (w'.cell? ⟨w.heap.size, 1, none⟩ = some (.int .i64 az)) ∧ (w'.cell? ⟨w.heap.size, 7, none⟩ = some (.int .i64 at_)) ∧ (w'.cell? ⟨w.heap.size + 1, 0, none⟩ = some (.int .i64 bo)) ∧ (w'.cell? ⟨w.heap.size + 1, 1, none⟩ = some (.int .i64 bz)) ∧ (w'.cell? ⟨w.heap.size + 1, 7, none⟩ = some (.int .i64 bt))) (go_keep) (first | (go_at_call 45; refine (HRI.out _).mono ?_; rintro e w9 ⟨rfl, rfl⟩) | (go_at_call 46; refine (tless_any _ _ _).mono ?_; rintro e w9 ⟨rfl, rfl⟩))
  all_goals
    clear kA0 kA1 kA7 kB0 kB1 kB7
    have hRC := R0.lt
    have A : Blk (w0.alloc (.cells #[.int .i64 (ao &&& bo : Nat), .int .i64 (min az bz), .int .i64 0, .int .i64 0, .int .i64 0, .int .i64 0, .bool true, .int .i64 (min at_ bt)] 30)).drew w.heap.size 30 #[.int .i64 ao, .int .i64 az, .int .i64 ax, .int .i64 ay, .int .i64 aX, .int .i64 aY, .bool av, .int .i64 at_] := A0.alloc _
    have B : Blk (w0.alloc (.cells #[.int .i64 (ao &&& bo : Nat), .int .i64 (min az bz), .int .i64 0, .int .i64 0, .int .i64 0, .int .i64 0, .bool true, .int .i64 (min at_ bt)] 30)).drew (w.heap.size + 1) 30 #[.int .i64 bo, .int .i64 bz, .int .i64 bx, .int .i64 by_, .int .i64 bX, .int .i64 bY, .bool bv, .int .i64 bt] := B0.alloc _
    have R : Blk (w0.alloc (.cells #[.int .i64 (ao &&& bo : Nat), .int .i64 (min az bz), .int .i64 0, .int .i64 0, .int .i64 0, .int .i64 0, .bool true, .int .i64 (min at_ bt)] 30)).drew (w.heap.size + 1 + 1) 30 #[.int .i64 0, .int .i64 0, .int .i64 0, .int .i64 0, .int .i64 0, .int .i64 0, .bool false, .int .i64 0] := R0.alloc _
    have C : Blk (w0.alloc (.cells #[.int .i64 (ao &&& bo : Nat), .int .i64 (min az bz), .int .i64 0, .int .i64 0, .int .i64 0, .int .i64 0, .bool true, .int .i64 (min at_ bt)] 30)).drew w0.heap.size 30 #[.int .i64 (ao &&& bo : Nat), .int .i64 (min az bz), .int .i64 0, .int .i64 0, .int .i64 0, .int .i64 0, .bool true, .int .i64 (min at_ bt)] := Blk.newAt rfl
    have hB : Below w.heap.size w (w0.alloc (.cells #[.int .i64 (ao &&& bo : Nat), .int .i64 (min az bz), .int .i64 0, .int .i64 0, .int .i64 0, .int .i64 0, .bool true, .int .i64 (min at_ bt)] 30)).drew := below_drawn (hB0.alloc hB0.size _) 1
    go_upto_region 2 with fail
    generalize (w0.alloc (.cells #[.int .i64 (ao &&& bo : Nat), .int .i64 (min az bz), .int .i64 0, .int .i64 0, .int .i64 0, .int .i64 0, .bool true, .int .i64 (min at_ bt)] 30)).drew = w2 at *
    clear A0 B0 R0 hB0
    have kA0 := A.cell 0
    have kA1 := A.cell 1
    have kA2 := A.cell 2
    have kA3 := A.cell 3
    have kA4 := A.cell 4
    have kA5 := A.cell 5
    have kA6 := A.cell 6
    have kA7 := A.cell 7
    have kB0 := B.cell 0
    have kB1 := B.cell 1
    have kB2 := B.cell 2
    have kB3 := B.cell 3
    have kB4 := B.cell 4
    have kB5 := B.cell 5
    have kB6 := B.cell 6
    have kB7 := B.cell 7
    simp only [List.getElem?_toArray, List.getElem?_cons_zero, List.getElem?_cons_succ] at kA0 kA1 kA2 kA3 kA4 kA5 kA6 kA7 kB0 kB1 kB2 kB3 kB4 kB5 kB6 kB7
    have zA := A.lt
    have zB := B.lt
    have zR := R.lt
    have zC := C.lt
    go_wp2_with fail
    refine (HG.out _).mono ?_
    rintro e w3 ⟨rfl, hb⟩
    replace A : Blk w3 (w.heap.size) 30 #[.int .i64 ao, .int .i64 az, .int .i64 ax, .int .i64 ay, .int .i64 aX, .int .i64 aY, .bool av, .int .i64 at_] := Blk.thru0 (A) hb
    replace B : Blk w3 (w.heap.size + 1) 30 #[.int .i64 bo, .int .i64 bz, .int .i64 bx, .int .i64 by_, .int .i64 bX, .int .i64 bY, .bool bv, .int .i64 bt] := Blk.thru0 (B) hb
    replace R : Blk w3 (w.heap.size + 1 + 1) 30 #[.int .i64 0, .int .i64 0, .int .i64 0, .int .i64 0, .int .i64 0, .int .i64 0, .bool false, .int .i64 0] := Blk.thru0 (R) hb
    replace C : Blk w3 (w0.heap.size) 30 #[.int .i64 (ao &&& bo : Nat), .int .i64 (min az bz), .int .i64 0, .int .i64 0, .int .i64 0, .int .i64 0, .bool true, .int .i64 (min at_ bt)] := Blk.thru0 (C) hb
    have hs := hB.size
    replace hB : Below w.heap.size w w3 := below_trans (by go_grown) hb
    clear hs
    clear kA0 kA1 kA2 kA3 kA4 kA5 kA6 kA7 kB0 kB1 kB2 kB3 kB4 kB5 kB6 kB7 zA zB zR zC
    have hszw3 := hb.size
    (try simp at hszw3)
    clear hb
    have kR0 := R.cell 0
    have kR1 := R.cell 1
    have kR2 := R.cell 2
    have kR3 := R.cell 3
    have kR4 := R.cell 4
    have kR5 := R.cell 5
    have kR6 := R.cell 6
    have kR7 := R.cell 7
    have kC0 := C.cell 0
    have kC1 := C.cell 1
    have kC2 := C.cell 2
    have kC3 := C.cell 3
    have kC4 := C.cell 4
    have kC5 := C.cell 5
    have kC6 := C.cell 6
    have kC7 := C.cell 7
    simp only [List.getElem?_toArray, List.getElem?_cons_zero, List.getElem?_cons_succ] at kR0 kR1 kR2 kR3 kR4 kR5 kR6 kR7 kC0 kC1 kC2 kC3 kC4 kC5 kC6 kC7
    have zA := A.lt
    have zB := B.lt
    have zR := R.lt
    have zC := C.lt
    go_upto_region 3 with fail
    have hs := hB.size
    have hB9 : Below w.heap.size w (w3.alloc (.cells #[.int .i64 x, .int .i64 y, .int .i64 X, .int .i64 Y] 28)) := by go_grown
    have A9 : Blk (w3.alloc (.cells #[.int .i64 x, .int .i64 y, .int .i64 X, .int .i64 Y] 28)) (w.heap.size) 30 #[.int .i64 ao, .int .i64 az, .int .i64 ax, .int .i64 ay, .int .i64 aX, .int .i64 aY, .bool av, .int .i64 at_] := (A).alloc _
    have B9 : Blk (w3.alloc (.cells #[.int .i64 x, .int .i64 y, .int .i64 X, .int .i64 Y] 28)) (w.heap.size + 1) 30 #[.int .i64 bo, .int .i64 bz, .int .i64 bx, .int .i64 by_, .int .i64 bX, .int .i64 bY, .bool bv, .int .i64 bt] := (B).alloc _
    have R9 : Blk (w3.alloc (.cells #[.int .i64 x, .int .i64 y, .int .i64 X, .int .i64 Y] 28)) (w.heap.size + 1 + 1) 30 #[.int .i64 0, .int .i64 0, .int .i64 0, .int .i64 0, .int .i64 0, .int .i64 0, .bool false, .int .i64 0] := (R).alloc _
    have C9 : Blk (w3.alloc (.cells #[.int .i64 x, .int .i64 y, .int .i64 X, .int .i64 Y] 28)) (w0.heap.size) 30 #[.int .i64 (ao &&& bo : Nat), .int .i64 (min az bz), .int .i64 0, .int .i64 0, .int .i64 0, .int .i64 0, .bool true, .int .i64 (min at_ bt)] := (C).alloc _
    have T9 : Blk (w3.alloc (.cells #[.int .i64 x, .int .i64 y, .int .i64 X, .int .i64 Y] 28)) (w3.heap.size) 28 #[.int .i64 x, .int .i64 y, .int .i64 X, .int .i64 Y] := Blk.newAt (by simp)
    generalize w3.alloc (.cells #[.int .i64 x, .int .i64 y, .int .i64 X, .int .i64 Y] 28) = w9 at hB9 A9 B9 R9 C9 T9 ⊢
    clear kR0 kR1 kR2 kR3 kR4 kR5 kR6 kR7 kC0 kC1 kC2 kC3 kC4 kC5 kC6 kC7 zA zB zR zC
    clear hs hB A B R C
    have hB := hB9
    clear hB9
    have A := A9
    clear A9
    have B := B9
    clear B9
    have R := R9
    clear R9
    have C := C9
    clear C9
    have T := T9
    clear T9
    have kA0 := A.cell 0
    have kA1 := A.cell 1
    have kA2 := A.cell 2
    have kA3 := A.cell 3
    have kA4 := A.cell 4
    have kA5 := A.cell 5
    have kA6 := A.cell 6
    have kA7 := A.cell 7
    have kB0 := B.cell 0
    have kB1 := B.cell 1
    have kB2 := B.cell 2
    have kB3 := B.cell 3
    have kB4 := B.cell 4
    have kB5 := B.cell 5
    have kB6 := B.cell 6
    have kB7 := B.cell 7
    simp only [List.getElem?_toArray, List.getElem?_cons_zero, List.getElem?_cons_succ] at kA0 kA1 kA2 kA3 kA4 kA5 kA6 kA7 kB0 kB1 kB2 kB3 kB4 kB5 kB6 kB7
    have zA := A.lt
    have zB := B.lt
    have zR := R.lt
    have zC := C.lt
    have zT := T.lt
    go_upto_region 6 with fail
    clear kA0 kA1 kA2 kA3 kA4 kA5 kA6 kA7 kB0 kB1 kB2 kB3 kB4 kB5 kB6 kB7 zA zB zR zC zT
    have kR0 := R.cell 0
    have kR1 := R.cell 1
    have kR2 := R.cell 2
    have kR3 := R.cell 3
    have kR4 := R.cell 4
    have kR5 := R.cell 5
    have kR6 := R.cell 6
    have kR7 := R.cell 7
    have kC0 := C.cell 0
    have kC1 := C.cell 1
    have kC2 := C.cell 2
    have kC3 := C.cell 3
    have kC4 := C.cell 4
    have kC5 := C.cell 5
    have kC6 := C.cell 6
    have kC7 := C.cell 7
    simp only [List.getElem?_toArray, List.getElem?_cons_zero, List.getElem?_cons_succ] at kR0 kR1 kR2 kR3 kR4 kR5 kR6 kR7 kC0 kC1 kC2 kC3 kC4 kC5 kC6 kC7
    have zA := A.lt
    have zB := B.lt
    have zR := R.lt
    have fR0 := R.frozen 0
    have fR1 := R.frozen 1
    have fR2 := R.frozen 2
    have fR3 := R.frozen 3
    have fR4 := R.frozen 4
    have fR5 := R.frozen 5
    have fR6 := R.frozen 6
    have fR7 := R.frozen 7
    have zC := C.lt
    have zT := T.lt
    go_wp2
    refine bodyPost_ret (v := .agg #[.int .i64 (ao &&& bo : Nat), .int .i64 (min az bz), .int .i64 0, .int .i64 0, .int .i64 0, .int .i64 0, .bool true, .int .i64 (min at_ bt)]) ?_ rfl ⟨rfl, ?_⟩
    · simp [results, Try.results28, go_sem, *]
    · first | (go_grown; done) | exact below_drawn (by go_grown) _
set_option maxRecDepth 100000 in
set_option maxHeartbeats 8000000 in
theorem rtm_av (ao bo : Nat) (az ax ay aX aY at_ bz bx by_ bX bY bt : Int) (x y X Y : Int) (bv : Bool) (HRI : Hid (∀ w, Calls Try.prog 45 #[.int .i64 ao, .int .i64 bo] w fun e w' => e = .returned (.int .i64 (ao &&& bo : Nat)) ∧ w = w')) (HG : Hid (∀ w, Calls Try.prog 47 #[.agg #[.int .i64 ax, .int .i64 ay, .int .i64 aX, .int .i64 aY], .agg #[.int .i64 bx, .int .i64 by_, .int .i64 bX, .int .i64 bY]] w fun e w' => e = .returned (.tuple #[.agg #[.int .i64 x, .int .i64 y, .int .i64 X, .int .i64 Y], .bool true]) ∧ Below w.heap.size w w')) (w : World) :
    Calls Try.prog 28 #[.agg #[.int .i64 ao, .int .i64 az, .int .i64 ax, .int .i64 ay, .int .i64 aX, .int .i64 aY, .bool true, .int .i64 at_], .agg #[.int .i64 bo, .int .i64 bz, .int .i64 bx, .int .i64 by_, .int .i64 bX, .int .i64 bY, .bool bv, .int .i64 bt]] w fun e w' => e = .returned (.agg #[.int .i64 (ao &&& bo : Nat), .int .i64 (min az bz), .int .i64 0, .int .i64 0, .int .i64 0, .int .i64 0, .bool true, .int .i64 (min at_ bt)]) ∧ Below w.heap.size w w' := by
  go_enter Try.func28, Try.ntmps28
  go_upto_region 1 with fail
  have A0 : Blk (((w.alloc (.cells #[.int .i64 ao, .int .i64 az, .int .i64 ax, .int .i64 ay, .int .i64 aX, .int .i64 aY, .bool true, .int .i64 at_] 30)).alloc (.cells #[.int .i64 bo, .int .i64 bz, .int .i64 bx, .int .i64 by_, .int .i64 bX, .int .i64 bY, .bool bv, .int .i64 bt] 30)).alloc (.cells #[.int .i64 0, .int .i64 0, .int .i64 0, .int .i64 0, .int .i64 0, .int .i64 0, .bool false, .int .i64 0] 30)) w.heap.size 30 #[.int .i64 ao, .int .i64 az, .int .i64 ax, .int .i64 ay, .int .i64 aX, .int .i64 aY, .bool true, .int .i64 at_] := ((Blk.newAt rfl).alloc _).alloc _
  have B0 : Blk (((w.alloc (.cells #[.int .i64 ao, .int .i64 az, .int .i64 ax, .int .i64 ay, .int .i64 aX, .int .i64 aY, .bool true, .int .i64 at_] 30)).alloc (.cells #[.int .i64 bo, .int .i64 bz, .int .i64 bx, .int .i64 by_, .int .i64 bX, .int .i64 bY, .bool bv, .int .i64 bt] 30)).alloc (.cells #[.int .i64 0, .int .i64 0, .int .i64 0, .int .i64 0, .int .i64 0, .int .i64 0, .bool false, .int .i64 0] 30)) (w.heap.size + 1) 30 #[.int .i64 bo, .int .i64 bz, .int .i64 bx, .int .i64 by_, .int .i64 bX, .int .i64 bY, .bool bv, .int .i64 bt] := (Blk.newAt (by simp)).alloc _
  have R0 : Blk (((w.alloc (.cells #[.int .i64 ao, .int .i64 az, .int .i64 ax, .int .i64 ay, .int .i64 aX, .int .i64 aY, .bool true, .int .i64 at_] 30)).alloc (.cells #[.int .i64 bo, .int .i64 bz, .int .i64 bx, .int .i64 by_, .int .i64 bX, .int .i64 bY, .bool bv, .int .i64 bt] 30)).alloc (.cells #[.int .i64 0, .int .i64 0, .int .i64 0, .int .i64 0, .int .i64 0, .int .i64 0, .bool false, .int .i64 0] 30)) (w.heap.size + 1 + 1) 30 #[.int .i64 0, .int .i64 0, .int .i64 0, .int .i64 0, .int .i64 0, .int .i64 0, .bool false, .int .i64 0] := Blk.newAt (by simp)
  have hB0 : Below w.heap.size w (((w.alloc (.cells #[.int .i64 ao, .int .i64 az, .int .i64 ax, .int .i64 ay, .int .i64 aX, .int .i64 aY, .bool true, .int .i64 at_] 30)).alloc (.cells #[.int .i64 bo, .int .i64 bz, .int .i64 bx, .int .i64 by_, .int .i64 bX, .int .i64 bY, .bool bv, .int .i64 bt] 30)).alloc (.cells #[.int .i64 0, .int .i64 0, .int .i64 0, .int .i64 0, .int .i64 0, .int .i64 0, .bool false, .int .i64 0] 30)) := by go_grown
  generalize (((w.alloc (.cells #[.int .i64 ao, .int .i64 az, .int .i64 ax, .int .i64 ay, .int .i64 aX, .int .i64 aY, .bool true, .int .i64 at_] 30)).alloc (.cells #[.int .i64 bo, .int .i64 bz, .int .i64 bx, .int .i64 by_, .int .i64 bX, .int .i64 bY, .bool bv, .int .i64 bt] 30)).alloc (.cells #[.int .i64 0, .int .i64 0, .int .i64 0, .int .i64 0, .int .i64 0, .int .i64 0, .bool false, .int .i64 0] 30)) = w0 at *
  have kA0 := A0.cell 0
  have kA1 := A0.cell 1
  have kA7 := A0.cell 7
  have kB0 := B0.cell 0
  have kB1 := B0.cell 1
  have kB7 := B0.cell 7
  simp only [List.getElem?_toArray, List.getElem?_cons_zero, List.getElem?_cons_succ] at kA0 kA1 kA7 kB0 kB1 kB7
  go_region_held3 (fun w' => (w'.cell? ⟨w.heap.size, 0, none⟩ = some (.int .i64 ao)) ∧ (w'.cell? ⟨w.heap.size, 1, none⟩ = some (.int .i64 az)) ∧ (w'.cell? ⟨w.heap.size, 7, none⟩ = some (.int .i64 at_)) ∧ (w'.cell? ⟨w.heap.size + 1, 0, none⟩ = some (.int .i64 bo)) ∧ (w'.cell? ⟨w.heap.size + 1, 1, none⟩ = some (.int .i64 bz)) ∧ (w'.cell? ⟨w.heap.size + 1, 7, none⟩ = some (.int .i64 bt))) (go_keep) (first | (go_at_call 45; refine (HRI.out _).mono ?_; rintro e w9 ⟨rfl, rfl⟩) | (go_at_call 46; refine (tless_any _ _ _).mono ?_; rintro e w9 ⟨rfl, rfl⟩))
  all_goals
    clear kA0 kA1 kA7 kB0 kB1 kB7
    have hRC := R0.lt
    have A : Blk (w0.alloc (.cells #[.int .i64 (ao &&& bo : Nat), .int .i64 (min az bz), .int .i64 0, .int .i64 0, .int .i64 0, .int .i64 0, .bool true, .int .i64 (min at_ bt)] 30)).drew w.heap.size 30 #[.int .i64 ao, .int .i64 az, .int .i64 ax, .int .i64 ay, .int .i64 aX, .int .i64 aY, .bool true, .int .i64 at_] := A0.alloc _
    have B : Blk (w0.alloc (.cells #[.int .i64 (ao &&& bo : Nat), .int .i64 (min az bz), .int .i64 0, .int .i64 0, .int .i64 0, .int .i64 0, .bool true, .int .i64 (min at_ bt)] 30)).drew (w.heap.size + 1) 30 #[.int .i64 bo, .int .i64 bz, .int .i64 bx, .int .i64 by_, .int .i64 bX, .int .i64 bY, .bool bv, .int .i64 bt] := B0.alloc _
    have R : Blk (w0.alloc (.cells #[.int .i64 (ao &&& bo : Nat), .int .i64 (min az bz), .int .i64 0, .int .i64 0, .int .i64 0, .int .i64 0, .bool true, .int .i64 (min at_ bt)] 30)).drew (w.heap.size + 1 + 1) 30 #[.int .i64 0, .int .i64 0, .int .i64 0, .int .i64 0, .int .i64 0, .int .i64 0, .bool false, .int .i64 0] := R0.alloc _
    have C : Blk (w0.alloc (.cells #[.int .i64 (ao &&& bo : Nat), .int .i64 (min az bz), .int .i64 0, .int .i64 0, .int .i64 0, .int .i64 0, .bool true, .int .i64 (min at_ bt)] 30)).drew w0.heap.size 30 #[.int .i64 (ao &&& bo : Nat), .int .i64 (min az bz), .int .i64 0, .int .i64 0, .int .i64 0, .int .i64 0, .bool true, .int .i64 (min at_ bt)] := Blk.newAt rfl
    have hB : Below w.heap.size w (w0.alloc (.cells #[.int .i64 (ao &&& bo : Nat), .int .i64 (min az bz), .int .i64 0, .int .i64 0, .int .i64 0, .int .i64 0, .bool true, .int .i64 (min at_ bt)] 30)).drew := below_drawn (hB0.alloc hB0.size _) 1
    go_upto_region 2 with fail
    generalize (w0.alloc (.cells #[.int .i64 (ao &&& bo : Nat), .int .i64 (min az bz), .int .i64 0, .int .i64 0, .int .i64 0, .int .i64 0, .bool true, .int .i64 (min at_ bt)] 30)).drew = w2 at *
    clear A0 B0 R0 hB0
    have kA0 := A.cell 0
    have kA1 := A.cell 1
    have kA2 := A.cell 2
    have kA3 := A.cell 3
    have kA4 := A.cell 4
    have kA5 := A.cell 5
    have kA6 := A.cell 6
    have kA7 := A.cell 7
    have kB0 := B.cell 0
    have kB1 := B.cell 1
    have kB2 := B.cell 2
    have kB3 := B.cell 3
    have kB4 := B.cell 4
    have kB5 := B.cell 5
    have kB6 := B.cell 6
    have kB7 := B.cell 7
    simp only [List.getElem?_toArray, List.getElem?_cons_zero, List.getElem?_cons_succ] at kA0 kA1 kA2 kA3 kA4 kA5 kA6 kA7 kB0 kB1 kB2 kB3 kB4 kB5 kB6 kB7
    have zA := A.lt
    have zB := B.lt
    have zR := R.lt
    have zC := C.lt
    go_wp2_with fail
    refine (HG.out _).mono ?_
    rintro e w3 ⟨rfl, hb⟩
    replace A : Blk w3 (w.heap.size) 30 #[.int .i64 ao, .int .i64 az, .int .i64 ax, .int .i64 ay, .int .i64 aX, .int .i64 aY, .bool true, .int .i64 at_] := Blk.thru0 (A) hb
    replace B : Blk w3 (w.heap.size + 1) 30 #[.int .i64 bo, .int .i64 bz, .int .i64 bx, .int .i64 by_, .int .i64 bX, .int .i64 bY, .bool bv, .int .i64 bt] := Blk.thru0 (B) hb
    replace R : Blk w3 (w.heap.size + 1 + 1) 30 #[.int .i64 0, .int .i64 0, .int .i64 0, .int .i64 0, .int .i64 0, .int .i64 0, .bool false, .int .i64 0] := Blk.thru0 (R) hb
    replace C : Blk w3 (w0.heap.size) 30 #[.int .i64 (ao &&& bo : Nat), .int .i64 (min az bz), .int .i64 0, .int .i64 0, .int .i64 0, .int .i64 0, .bool true, .int .i64 (min at_ bt)] := Blk.thru0 (C) hb
    have hs := hB.size
    replace hB : Below w.heap.size w w3 := below_trans (by go_grown) hb
    clear hs
    clear kA0 kA1 kA2 kA3 kA4 kA5 kA6 kA7 kB0 kB1 kB2 kB3 kB4 kB5 kB6 kB7 zA zB zR zC
    have hszw3 := hb.size
    (try simp at hszw3)
    clear hb
    have kR0 := R.cell 0
    have kR1 := R.cell 1
    have kR2 := R.cell 2
    have kR3 := R.cell 3
    have kR4 := R.cell 4
    have kR5 := R.cell 5
    have kR6 := R.cell 6
    have kR7 := R.cell 7
    have kC0 := C.cell 0
    have kC1 := C.cell 1
    have kC2 := C.cell 2
    have kC3 := C.cell 3
    have kC4 := C.cell 4
    have kC5 := C.cell 5
    have kC6 := C.cell 6
    have kC7 := C.cell 7
    simp only [List.getElem?_toArray, List.getElem?_cons_zero, List.getElem?_cons_succ] at kR0 kR1 kR2 kR3 kR4 kR5 kR6 kR7 kC0 kC1 kC2 kC3 kC4 kC5 kC6 kC7
    have zA := A.lt
    have zB := B.lt
    have zR := R.lt
    have zC := C.lt
    go_upto_region 3 with fail
    have hs := hB.size
    have hB9 : Below w.heap.size w (w3.alloc (.cells #[.int .i64 x, .int .i64 y, .int .i64 X, .int .i64 Y] 28)) := by go_grown
    have A9 : Blk (w3.alloc (.cells #[.int .i64 x, .int .i64 y, .int .i64 X, .int .i64 Y] 28)) (w.heap.size) 30 #[.int .i64 ao, .int .i64 az, .int .i64 ax, .int .i64 ay, .int .i64 aX, .int .i64 aY, .bool true, .int .i64 at_] := (A).alloc _
    have B9 : Blk (w3.alloc (.cells #[.int .i64 x, .int .i64 y, .int .i64 X, .int .i64 Y] 28)) (w.heap.size + 1) 30 #[.int .i64 bo, .int .i64 bz, .int .i64 bx, .int .i64 by_, .int .i64 bX, .int .i64 bY, .bool bv, .int .i64 bt] := (B).alloc _
    have R9 : Blk (w3.alloc (.cells #[.int .i64 x, .int .i64 y, .int .i64 X, .int .i64 Y] 28)) (w.heap.size + 1 + 1) 30 #[.int .i64 0, .int .i64 0, .int .i64 0, .int .i64 0, .int .i64 0, .int .i64 0, .bool false, .int .i64 0] := (R).alloc _
    have C9 : Blk (w3.alloc (.cells #[.int .i64 x, .int .i64 y, .int .i64 X, .int .i64 Y] 28)) (w0.heap.size) 30 #[.int .i64 (ao &&& bo : Nat), .int .i64 (min az bz), .int .i64 0, .int .i64 0, .int .i64 0, .int .i64 0, .bool true, .int .i64 (min at_ bt)] := (C).alloc _
    have T9 : Blk (w3.alloc (.cells #[.int .i64 x, .int .i64 y, .int .i64 X, .int .i64 Y] 28)) (w3.heap.size) 28 #[.int .i64 x, .int .i64 y, .int .i64 X, .int .i64 Y] := Blk.newAt (by simp)
    generalize w3.alloc (.cells #[.int .i64 x, .int .i64 y, .int .i64 X, .int .i64 Y] 28) = w9 at hB9 A9 B9 R9 C9 T9 ⊢
    clear kR0 kR1 kR2 kR3 kR4 kR5 kR6 kR7 kC0 kC1 kC2 kC3 kC4 kC5 kC6 kC7 zA zB zR zC
    clear hs hB A B R C
    have hB := hB9
    clear hB9
    have A := A9
    clear A9
    have B := B9
    clear B9
    have R := R9
    clear R9
    have C := C9
    clear C9
    have T := T9
    clear T9
    have kA0 := A.cell 0
    have kA1 := A.cell 1
    have kA2 := A.cell 2
    have kA3 := A.cell 3
    have kA4 := A.cell 4
    have kA5 := A.cell 5
    have kA6 := A.cell 6
    have kA7 := A.cell 7
    have kB0 := B.cell 0
    have kB1 := B.cell 1
    have kB2 := B.cell 2
    have kB3 := B.cell 3
    have kB4 := B.cell 4
    have kB5 := B.cell 5
    have kB6 := B.cell 6
    have kB7 := B.cell 7
    simp only [List.getElem?_toArray, List.getElem?_cons_zero, List.getElem?_cons_succ] at kA0 kA1 kA2 kA3 kA4 kA5 kA6 kA7 kB0 kB1 kB2 kB3 kB4 kB5 kB6 kB7
    have zA := A.lt
    have zB := B.lt
    have zR := R.lt
    have zC := C.lt
    have zT := T.lt
    go_upto_region 6 with fail
    clear kA0 kA1 kA2 kA3 kA4 kA5 kA6 kA7 kB0 kB1 kB2 kB3 kB4 kB5 kB6 kB7 zA zB zR zC zT
    have kR0 := R.cell 0
    have kR1 := R.cell 1
    have kR2 := R.cell 2
    have kR3 := R.cell 3
    have kR4 := R.cell 4
    have kR5 := R.cell 5
    have kR6 := R.cell 6
    have kR7 := R.cell 7
    have kC0 := C.cell 0
    have kC1 := C.cell 1
    have kC2 := C.cell 2
    have kC3 := C.cell 3
    have kC4 := C.cell 4
    have kC5 := C.cell 5
    have kC6 := C.cell 6
    have kC7 := C.cell 7
    simp only [List.getElem?_toArray, List.getElem?_cons_zero, List.getElem?_cons_succ] at kR0 kR1 kR2 kR3 kR4 kR5 kR6 kR7 kC0 kC1 kC2 kC3 kC4 kC5 kC6 kC7
    have zA := A.lt
    have zB := B.lt
    have zR := R.lt
    have fR0 := R.frozen 0
    have fR1 := R.frozen 1
    have fR2 := R.frozen 2
    have fR3 := R.frozen 3
    have fR4 := R.frozen 4
    have fR5 := R.frozen 5
    have fR6 := R.frozen 6
    have fR7 := R.frozen 7
    have zC := C.lt
    have zT := T.lt
    go_wp2
    refine bodyPost_ret (v := .agg #[.int .i64 (ao &&& bo : Nat), .int .i64 (min az bz), .int .i64 0, .int .i64 0, .int .i64 0, .int .i64 0, .bool true, .int .i64 (min at_ bt)]) ?_ rfl ⟨rfl, ?_⟩
    · simp [results, Try.results28, go_sem, *]
    · first | (go_grown; done) | exact below_drawn (by go_grown) _
set_option maxRecDepth 100000 in
set_option maxHeartbeats 8000000 in
theorem rtm_bv (ao bo : Nat) (az ax ay aX aY at_ bz bx by_ bX bY bt : Int) (x y X Y : Int) (HRI : Hid (∀ w, Calls Try.prog 45 #[.int .i64 ao, .int .i64 bo] w fun e w' => e = .returned (.int .i64 (ao &&& bo : Nat)) ∧ w = w')) (HG : Hid (∀ w, Calls Try.prog 47 #[.agg #[.int .i64 ax, .int .i64 ay, .int .i64 aX, .int .i64 aY], .agg #[.int .i64 bx, .int .i64 by_, .int .i64 bX, .int .i64 bY]] w fun e w' => e = .returned (.tuple #[.agg #[.int .i64 x, .int .i64 y, .int .i64 X, .int .i64 Y], .bool true]) ∧ Below w.heap.size w w')) (w : World) :
    Calls Try.prog 28 #[.agg #[.int .i64 ao, .int .i64 az, .int .i64 ax, .int .i64 ay, .int .i64 aX, .int .i64 aY, .bool false, .int .i64 at_], .agg #[.int .i64 bo, .int .i64 bz, .int .i64 bx, .int .i64 by_, .int .i64 bX, .int .i64 bY, .bool true, .int .i64 bt]] w fun e w' => e = .returned (.agg #[.int .i64 (ao &&& bo : Nat), .int .i64 (min az bz), .int .i64 0, .int .i64 0, .int .i64 0, .int .i64 0, .bool true, .int .i64 (min at_ bt)]) ∧ Below w.heap.size w w' := by
  go_enter Try.func28, Try.ntmps28
  go_upto_region 1 with fail
  have A0 : Blk (((w.alloc (.cells #[.int .i64 ao, .int .i64 az, .int .i64 ax, .int .i64 ay, .int .i64 aX, .int .i64 aY, .bool false, .int .i64 at_] 30)).alloc (.cells #[.int .i64 bo, .int .i64 bz, .int .i64 bx, .int .i64 by_, .int .i64 bX, .int .i64 bY, .bool true, .int .i64 bt] 30)).alloc (.cells #[.int .i64 0, .int .i64 0, .int .i64 0, .int .i64 0, .int .i64 0, .int .i64 0, .bool false, .int .i64 0] 30)) w.heap.size 30 #[.int .i64 ao, .int .i64 az, .int .i64 ax, .int .i64 ay, .int .i64 aX, .int .i64 aY, .bool false, .int .i64 at_] := ((Blk.newAt rfl).alloc _).alloc _
  have B0 : Blk (((w.alloc (.cells #[.int .i64 ao, .int .i64 az, .int .i64 ax, .int .i64 ay, .int .i64 aX, .int .i64 aY, .bool false, .int .i64 at_] 30)).alloc (.cells #[.int .i64 bo, .int .i64 bz, .int .i64 bx, .int .i64 by_, .int .i64 bX, .int .i64 bY, .bool true, .int .i64 bt] 30)).alloc (.cells #[.int .i64 0, .int .i64 0, .int .i64 0, .int .i64 0, .int .i64 0, .int .i64 0, .bool false, .int .i64 0] 30)) (w.heap.size + 1) 30 #[.int .i64 bo, .int .i64 bz, .int .i64 bx, .int .i64 by_, .int .i64 bX, .int .i64 bY, .bool true, .int .i64 bt] := (Blk.newAt (by simp)).alloc _
  have R0 : Blk (((w.alloc (.cells #[.int .i64 ao, .int .i64 az, .int .i64 ax, .int .i64 ay, .int .i64 aX, .int .i64 aY, .bool false, .int .i64 at_] 30)).alloc (.cells #[.int .i64 bo, .int .i64 bz, .int .i64 bx, .int .i64 by_, .int .i64 bX, .int .i64 bY, .bool true, .int .i64 bt] 30)).alloc (.cells #[.int .i64 0, .int .i64 0, .int .i64 0, .int .i64 0, .int .i64 0, .int .i64 0, .bool false, .int .i64 0] 30)) (w.heap.size + 1 + 1) 30 #[.int .i64 0, .int .i64 0, .int .i64 0, .int .i64 0, .int .i64 0, .int .i64 0, .bool false, .int .i64 0] := Blk.newAt (by simp)
  have hB0 : Below w.heap.size w (((w.alloc (.cells #[.int .i64 ao, .int .i64 az, .int .i64 ax, .int .i64 ay, .int .i64 aX, .int .i64 aY, .bool false, .int .i64 at_] 30)).alloc (.cells #[.int .i64 bo, .int .i64 bz, .int .i64 bx, .int .i64 by_, .int .i64 bX, .int .i64 bY, .bool true, .int .i64 bt] 30)).alloc (.cells #[.int .i64 0, .int .i64 0, .int .i64 0, .int .i64 0, .int .i64 0, .int .i64 0, .bool false, .int .i64 0] 30)) := by go_grown
  generalize (((w.alloc (.cells #[.int .i64 ao, .int .i64 az, .int .i64 ax, .int .i64 ay, .int .i64 aX, .int .i64 aY, .bool false, .int .i64 at_] 30)).alloc (.cells #[.int .i64 bo, .int .i64 bz, .int .i64 bx, .int .i64 by_, .int .i64 bX, .int .i64 bY, .bool true, .int .i64 bt] 30)).alloc (.cells #[.int .i64 0, .int .i64 0, .int .i64 0, .int .i64 0, .int .i64 0, .int .i64 0, .bool false, .int .i64 0] 30)) = w0 at *
  have kA0 := A0.cell 0
  have kA1 := A0.cell 1
  have kA7 := A0.cell 7
  have kB0 := B0.cell 0
  have kB1 := B0.cell 1
  have kB7 := B0.cell 7
  simp only [List.getElem?_toArray, List.getElem?_cons_zero, List.getElem?_cons_succ] at kA0 kA1 kA7 kB0 kB1 kB7
  go_region_held3 (fun w' => (w'.cell? ⟨w.heap.size, 0, none⟩ = some (.int .i64 ao)) ∧ (w'.cell? ⟨w.heap.size, 1, none⟩ = some (.int .i64 az)) ∧ (w'.cell? ⟨w.heap.size, 7, none⟩ = some (.int .i64 at_)) ∧ (w'.cell? ⟨w.heap.size + 1, 0, none⟩ = some (.int .i64 bo)) ∧ (w'.cell? ⟨w.heap.size + 1, 1, none⟩ = some (.int .i64 bz)) ∧ (w'.cell? ⟨w.heap.size + 1, 7, none⟩ = some (.int .i64 bt))) (go_keep) (first | (go_at_call 45; refine (HRI.out _).mono ?_; rintro e w9 ⟨rfl, rfl⟩) | (go_at_call 46; refine (tless_any _ _ _).mono ?_; rintro e w9 ⟨rfl, rfl⟩))
  all_goals
    clear kA0 kA1 kA7 kB0 kB1 kB7
    have hRC := R0.lt
    have A : Blk (w0.alloc (.cells #[.int .i64 (ao &&& bo : Nat), .int .i64 (min az bz), .int .i64 0, .int .i64 0, .int .i64 0, .int .i64 0, .bool true, .int .i64 (min at_ bt)] 30)).drew w.heap.size 30 #[.int .i64 ao, .int .i64 az, .int .i64 ax, .int .i64 ay, .int .i64 aX, .int .i64 aY, .bool false, .int .i64 at_] := A0.alloc _
    have B : Blk (w0.alloc (.cells #[.int .i64 (ao &&& bo : Nat), .int .i64 (min az bz), .int .i64 0, .int .i64 0, .int .i64 0, .int .i64 0, .bool true, .int .i64 (min at_ bt)] 30)).drew (w.heap.size + 1) 30 #[.int .i64 bo, .int .i64 bz, .int .i64 bx, .int .i64 by_, .int .i64 bX, .int .i64 bY, .bool true, .int .i64 bt] := B0.alloc _
    have R : Blk (w0.alloc (.cells #[.int .i64 (ao &&& bo : Nat), .int .i64 (min az bz), .int .i64 0, .int .i64 0, .int .i64 0, .int .i64 0, .bool true, .int .i64 (min at_ bt)] 30)).drew (w.heap.size + 1 + 1) 30 #[.int .i64 0, .int .i64 0, .int .i64 0, .int .i64 0, .int .i64 0, .int .i64 0, .bool false, .int .i64 0] := R0.alloc _
    have C : Blk (w0.alloc (.cells #[.int .i64 (ao &&& bo : Nat), .int .i64 (min az bz), .int .i64 0, .int .i64 0, .int .i64 0, .int .i64 0, .bool true, .int .i64 (min at_ bt)] 30)).drew w0.heap.size 30 #[.int .i64 (ao &&& bo : Nat), .int .i64 (min az bz), .int .i64 0, .int .i64 0, .int .i64 0, .int .i64 0, .bool true, .int .i64 (min at_ bt)] := Blk.newAt rfl
    have hB : Below w.heap.size w (w0.alloc (.cells #[.int .i64 (ao &&& bo : Nat), .int .i64 (min az bz), .int .i64 0, .int .i64 0, .int .i64 0, .int .i64 0, .bool true, .int .i64 (min at_ bt)] 30)).drew := below_drawn (hB0.alloc hB0.size _) 1
    go_upto_region 2 with fail
    generalize (w0.alloc (.cells #[.int .i64 (ao &&& bo : Nat), .int .i64 (min az bz), .int .i64 0, .int .i64 0, .int .i64 0, .int .i64 0, .bool true, .int .i64 (min at_ bt)] 30)).drew = w2 at *
    clear A0 B0 R0 hB0
    have kA0 := A.cell 0
    have kA1 := A.cell 1
    have kA2 := A.cell 2
    have kA3 := A.cell 3
    have kA4 := A.cell 4
    have kA5 := A.cell 5
    have kA6 := A.cell 6
    have kA7 := A.cell 7
    have kB0 := B.cell 0
    have kB1 := B.cell 1
    have kB2 := B.cell 2
    have kB3 := B.cell 3
    have kB4 := B.cell 4
    have kB5 := B.cell 5
    have kB6 := B.cell 6
    have kB7 := B.cell 7
    simp only [List.getElem?_toArray, List.getElem?_cons_zero, List.getElem?_cons_succ] at kA0 kA1 kA2 kA3 kA4 kA5 kA6 kA7 kB0 kB1 kB2 kB3 kB4 kB5 kB6 kB7
    have zA := A.lt
    have zB := B.lt
    have zR := R.lt
    have zC := C.lt
    go_wp2_with fail
    refine (HG.out _).mono ?_
    rintro e w3 ⟨rfl, hb⟩
    replace A : Blk w3 (w.heap.size) 30 #[.int .i64 ao, .int .i64 az, .int .i64 ax, .int .i64 ay, .int .i64 aX, .int .i64 aY, .bool false, .int .i64 at_] := Blk.thru0 (A) hb
    replace B : Blk w3 (w.heap.size + 1) 30 #[.int .i64 bo, .int .i64 bz, .int .i64 bx, .int .i64 by_, .int .i64 bX, .int .i64 bY, .bool true, .int .i64 bt] := Blk.thru0 (B) hb
    replace R : Blk w3 (w.heap.size + 1 + 1) 30 #[.int .i64 0, .int .i64 0, .int .i64 0, .int .i64 0, .int .i64 0, .int .i64 0, .bool false, .int .i64 0] := Blk.thru0 (R) hb
    replace C : Blk w3 (w0.heap.size) 30 #[.int .i64 (ao &&& bo : Nat), .int .i64 (min az bz), .int .i64 0, .int .i64 0, .int .i64 0, .int .i64 0, .bool true, .int .i64 (min at_ bt)] := Blk.thru0 (C) hb
    have hs := hB.size
    replace hB : Below w.heap.size w w3 := below_trans (by go_grown) hb
    clear hs
    clear kA0 kA1 kA2 kA3 kA4 kA5 kA6 kA7 kB0 kB1 kB2 kB3 kB4 kB5 kB6 kB7 zA zB zR zC
    have hszw3 := hb.size
    (try simp at hszw3)
    clear hb
    have kR0 := R.cell 0
    have kR1 := R.cell 1
    have kR2 := R.cell 2
    have kR3 := R.cell 3
    have kR4 := R.cell 4
    have kR5 := R.cell 5
    have kR6 := R.cell 6
    have kR7 := R.cell 7
    have kC0 := C.cell 0
    have kC1 := C.cell 1
    have kC2 := C.cell 2
    have kC3 := C.cell 3
    have kC4 := C.cell 4
    have kC5 := C.cell 5
    have kC6 := C.cell 6
    have kC7 := C.cell 7
    simp only [List.getElem?_toArray, List.getElem?_cons_zero, List.getElem?_cons_succ] at kR0 kR1 kR2 kR3 kR4 kR5 kR6 kR7 kC0 kC1 kC2 kC3 kC4 kC5 kC6 kC7
    have zA := A.lt
    have zB := B.lt
    have zR := R.lt
    have zC := C.lt
    go_upto_region 3 with fail
    have hs := hB.size
    have hB9 : Below w.heap.size w (w3.alloc (.cells #[.int .i64 x, .int .i64 y, .int .i64 X, .int .i64 Y] 28)) := by go_grown
    have A9 : Blk (w3.alloc (.cells #[.int .i64 x, .int .i64 y, .int .i64 X, .int .i64 Y] 28)) (w.heap.size) 30 #[.int .i64 ao, .int .i64 az, .int .i64 ax, .int .i64 ay, .int .i64 aX, .int .i64 aY, .bool false, .int .i64 at_] := (A).alloc _
    have B9 : Blk (w3.alloc (.cells #[.int .i64 x, .int .i64 y, .int .i64 X, .int .i64 Y] 28)) (w.heap.size + 1) 30 #[.int .i64 bo, .int .i64 bz, .int .i64 bx, .int .i64 by_, .int .i64 bX, .int .i64 bY, .bool true, .int .i64 bt] := (B).alloc _
    have R9 : Blk (w3.alloc (.cells #[.int .i64 x, .int .i64 y, .int .i64 X, .int .i64 Y] 28)) (w.heap.size + 1 + 1) 30 #[.int .i64 0, .int .i64 0, .int .i64 0, .int .i64 0, .int .i64 0, .int .i64 0, .bool false, .int .i64 0] := (R).alloc _
    have C9 : Blk (w3.alloc (.cells #[.int .i64 x, .int .i64 y, .int .i64 X, .int .i64 Y] 28)) (w0.heap.size) 30 #[.int .i64 (ao &&& bo : Nat), .int .i64 (min az bz), .int .i64 0, .int .i64 0, .int .i64 0, .int .i64 0, .bool true, .int .i64 (min at_ bt)] := (C).alloc _
    have T9 : Blk (w3.alloc (.cells #[.int .i64 x, .int .i64 y, .int .i64 X, .int .i64 Y] 28)) (w3.heap.size) 28 #[.int .i64 x, .int .i64 y, .int .i64 X, .int .i64 Y] := Blk.newAt (by simp)
    generalize w3.alloc (.cells #[.int .i64 x, .int .i64 y, .int .i64 X, .int .i64 Y] 28) = w9 at hB9 A9 B9 R9 C9 T9 ⊢
    clear kR0 kR1 kR2 kR3 kR4 kR5 kR6 kR7 kC0 kC1 kC2 kC3 kC4 kC5 kC6 kC7 zA zB zR zC
    clear hs hB A B R C
    have hB := hB9
    clear hB9
    have A := A9
    clear A9
    have B := B9
    clear B9
    have R := R9
    clear R9
    have C := C9
    clear C9
    have T := T9
    clear T9
    have kA0 := A.cell 0
    have kA1 := A.cell 1
    have kA2 := A.cell 2
    have kA3 := A.cell 3
    have kA4 := A.cell 4
    have kA5 := A.cell 5
    have kA6 := A.cell 6
    have kA7 := A.cell 7
    have kB0 := B.cell 0
    have kB1 := B.cell 1
    have kB2 := B.cell 2
    have kB3 := B.cell 3
    have kB4 := B.cell 4
    have kB5 := B.cell 5
    have kB6 := B.cell 6
    have kB7 := B.cell 7
    simp only [List.getElem?_toArray, List.getElem?_cons_zero, List.getElem?_cons_succ] at kA0 kA1 kA2 kA3 kA4 kA5 kA6 kA7 kB0 kB1 kB2 kB3 kB4 kB5 kB6 kB7
    have zA := A.lt
    have zB := B.lt
    have zR := R.lt
    have zC := C.lt
    have zT := T.lt
    go_upto_region 6 with fail
    clear kA0 kA1 kA2 kA3 kA4 kA5 kA6 kA7 kB0 kB1 kB2 kB3 kB4 kB5 kB6 kB7 zA zB zR zC zT
    have kR0 := R.cell 0
    have kR1 := R.cell 1
    have kR2 := R.cell 2
    have kR3 := R.cell 3
    have kR4 := R.cell 4
    have kR5 := R.cell 5
    have kR6 := R.cell 6
    have kR7 := R.cell 7
    have kC0 := C.cell 0
    have kC1 := C.cell 1
    have kC2 := C.cell 2
    have kC3 := C.cell 3
    have kC4 := C.cell 4
    have kC5 := C.cell 5
    have kC6 := C.cell 6
    have kC7 := C.cell 7
    simp only [List.getElem?_toArray, List.getElem?_cons_zero, List.getElem?_cons_succ] at kR0 kR1 kR2 kR3 kR4 kR5 kR6 kR7 kC0 kC1 kC2 kC3 kC4 kC5 kC6 kC7
    have zA := A.lt
    have zB := B.lt
    have zR := R.lt
    have fR0 := R.frozen 0
    have fR1 := R.frozen 1
    have fR2 := R.frozen 2
    have fR3 := R.frozen 3
    have fR4 := R.frozen 4
    have fR5 := R.frozen 5
    have fR6 := R.frozen 6
    have fR7 := R.frozen 7
    have zC := C.lt
    have zT := T.lt
    go_wp2
    refine bodyPost_ret (v := .agg #[.int .i64 (ao &&& bo : Nat), .int .i64 (min az bz), .int .i64 0, .int .i64 0, .int .i64 0, .int .i64 0, .bool true, .int .i64 (min at_ bt)]) ?_ rfl ⟨rfl, ?_⟩
    · simp [results, Try.results28, go_sem, *]
    · first | (go_grown; done) | exact below_drawn (by go_grown) _
set_option maxRecDepth 100000 in
set_option maxHeartbeats 8000000 in
theorem rtm_yes (ao bo : Nat) (az ax ay aX aY at_ bz bx by_ bX bY bt : Int) (x y X Y : Int) (HRI : Hid (∀ w, Calls Try.prog 45 #[.int .i64 ao, .int .i64 bo] w fun e w' => e = .returned (.int .i64 (ao &&& bo : Nat)) ∧ w = w')) (HG : Hid (∀ w, Calls Try.prog 47 #[.agg #[.int .i64 ax, .int .i64 ay, .int .i64 aX, .int .i64 aY], .agg #[.int .i64 bx, .int .i64 by_, .int .i64 bX, .int .i64 bY]] w fun e w' => e = .returned (.tuple #[.agg #[.int .i64 x, .int .i64 y, .int .i64 X, .int .i64 Y], .bool true]) ∧ Below w.heap.size w w')) (w : World) :
    Calls Try.prog 28 #[.agg #[.int .i64 ao, .int .i64 az, .int .i64 ax, .int .i64 ay, .int .i64 aX, .int .i64 aY, .bool false, .int .i64 at_], .agg #[.int .i64 bo, .int .i64 bz, .int .i64 bx, .int .i64 by_, .int .i64 bX, .int .i64 bY, .bool false, .int .i64 bt]] w fun e w' => e = .returned (.agg #[.int .i64 (ao &&& bo : Nat), .int .i64 (min az bz), .int .i64 x, .int .i64 y, .int .i64 X, .int .i64 Y, .bool false, .int .i64 (min at_ bt)]) ∧ Below w.heap.size w w' := by
  go_enter Try.func28, Try.ntmps28
  go_upto_region 1 with fail
  have A0 : Blk (((w.alloc (.cells #[.int .i64 ao, .int .i64 az, .int .i64 ax, .int .i64 ay, .int .i64 aX, .int .i64 aY, .bool false, .int .i64 at_] 30)).alloc (.cells #[.int .i64 bo, .int .i64 bz, .int .i64 bx, .int .i64 by_, .int .i64 bX, .int .i64 bY, .bool false, .int .i64 bt] 30)).alloc (.cells #[.int .i64 0, .int .i64 0, .int .i64 0, .int .i64 0, .int .i64 0, .int .i64 0, .bool false, .int .i64 0] 30)) w.heap.size 30 #[.int .i64 ao, .int .i64 az, .int .i64 ax, .int .i64 ay, .int .i64 aX, .int .i64 aY, .bool false, .int .i64 at_] := ((Blk.newAt rfl).alloc _).alloc _
  have B0 : Blk (((w.alloc (.cells #[.int .i64 ao, .int .i64 az, .int .i64 ax, .int .i64 ay, .int .i64 aX, .int .i64 aY, .bool false, .int .i64 at_] 30)).alloc (.cells #[.int .i64 bo, .int .i64 bz, .int .i64 bx, .int .i64 by_, .int .i64 bX, .int .i64 bY, .bool false, .int .i64 bt] 30)).alloc (.cells #[.int .i64 0, .int .i64 0, .int .i64 0, .int .i64 0, .int .i64 0, .int .i64 0, .bool false, .int .i64 0] 30)) (w.heap.size + 1) 30 #[.int .i64 bo, .int .i64 bz, .int .i64 bx, .int .i64 by_, .int .i64 bX, .int .i64 bY, .bool false, .int .i64 bt] := (Blk.newAt (by simp)).alloc _
  have R0 : Blk (((w.alloc (.cells #[.int .i64 ao, .int .i64 az, .int .i64 ax, .int .i64 ay, .int .i64 aX, .int .i64 aY, .bool false, .int .i64 at_] 30)).alloc (.cells #[.int .i64 bo, .int .i64 bz, .int .i64 bx, .int .i64 by_, .int .i64 bX, .int .i64 bY, .bool false, .int .i64 bt] 30)).alloc (.cells #[.int .i64 0, .int .i64 0, .int .i64 0, .int .i64 0, .int .i64 0, .int .i64 0, .bool false, .int .i64 0] 30)) (w.heap.size + 1 + 1) 30 #[.int .i64 0, .int .i64 0, .int .i64 0, .int .i64 0, .int .i64 0, .int .i64 0, .bool false, .int .i64 0] := Blk.newAt (by simp)
  have hB0 : Below w.heap.size w (((w.alloc (.cells #[.int .i64 ao, .int .i64 az, .int .i64 ax, .int .i64 ay, .int .i64 aX, .int .i64 aY, .bool false, .int .i64 at_] 30)).alloc (.cells #[.int .i64 bo, .int .i64 bz, .int .i64 bx, .int .i64 by_, .int .i64 bX, .int .i64 bY, .bool false, .int .i64 bt] 30)).alloc (.cells #[.int .i64 0, .int .i64 0, .int .i64 0, .int .i64 0, .int .i64 0, .int .i64 0, .bool false, .int .i64 0] 30)) := by go_grown
  generalize (((w.alloc (.cells #[.int .i64 ao, .int .i64 az, .int .i64 ax, .int .i64 ay, .int .i64 aX, .int .i64 aY, .bool false, .int .i64 at_] 30)).alloc (.cells #[.int .i64 bo, .int .i64 bz, .int .i64 bx, .int .i64 by_, .int .i64 bX, .int .i64 bY, .bool false, .int .i64 bt] 30)).alloc (.cells #[.int .i64 0, .int .i64 0, .int .i64 0, .int .i64 0, .int .i64 0, .int .i64 0, .bool false, .int .i64 0] 30)) = w0 at *
  have kA0 := A0.cell 0
  have kA1 := A0.cell 1
  have kA7 := A0.cell 7
  have kB0 := B0.cell 0
  have kB1 := B0.cell 1
  have kB7 := B0.cell 7
  simp only [List.getElem?_toArray, List.getElem?_cons_zero, List.getElem?_cons_succ] at kA0 kA1 kA7 kB0 kB1 kB7
  go_region_held3 (fun w' => (w'.cell? ⟨w.heap.size, 0, none⟩ = some (.int .i64 ao)) ∧ (w'.cell? ⟨w.heap.size, 1, none⟩ = some (.int .i64 az)) ∧ (w'.cell? ⟨w.heap.size, 7, none⟩ = some (.int .i64 at_)) ∧ (w'.cell? ⟨w.heap.size + 1, 0, none⟩ = some (.int .i64 bo)) ∧ (w'.cell? ⟨w.heap.size + 1, 1, none⟩ = some (.int .i64 bz)) ∧ (w'.cell? ⟨w.heap.size + 1, 7, none⟩ = some (.int .i64 bt))) (go_keep) (first | (go_at_call 45; refine (HRI.out _).mono ?_; rintro e w9 ⟨rfl, rfl⟩) | (go_at_call 46; refine (tless_any _ _ _).mono ?_; rintro e w9 ⟨rfl, rfl⟩))
  all_goals
    clear kA0 kA1 kA7 kB0 kB1 kB7
    have hRC := R0.lt
    have A : Blk (w0.alloc (.cells #[.int .i64 (ao &&& bo : Nat), .int .i64 (min az bz), .int .i64 0, .int .i64 0, .int .i64 0, .int .i64 0, .bool true, .int .i64 (min at_ bt)] 30)).drew w.heap.size 30 #[.int .i64 ao, .int .i64 az, .int .i64 ax, .int .i64 ay, .int .i64 aX, .int .i64 aY, .bool false, .int .i64 at_] := A0.alloc _
    have B : Blk (w0.alloc (.cells #[.int .i64 (ao &&& bo : Nat), .int .i64 (min az bz), .int .i64 0, .int .i64 0, .int .i64 0, .int .i64 0, .bool true, .int .i64 (min at_ bt)] 30)).drew (w.heap.size + 1) 30 #[.int .i64 bo, .int .i64 bz, .int .i64 bx, .int .i64 by_, .int .i64 bX, .int .i64 bY, .bool false, .int .i64 bt] := B0.alloc _
    have R : Blk (w0.alloc (.cells #[.int .i64 (ao &&& bo : Nat), .int .i64 (min az bz), .int .i64 0, .int .i64 0, .int .i64 0, .int .i64 0, .bool true, .int .i64 (min at_ bt)] 30)).drew (w.heap.size + 1 + 1) 30 #[.int .i64 0, .int .i64 0, .int .i64 0, .int .i64 0, .int .i64 0, .int .i64 0, .bool false, .int .i64 0] := R0.alloc _
    have C : Blk (w0.alloc (.cells #[.int .i64 (ao &&& bo : Nat), .int .i64 (min az bz), .int .i64 0, .int .i64 0, .int .i64 0, .int .i64 0, .bool true, .int .i64 (min at_ bt)] 30)).drew w0.heap.size 30 #[.int .i64 (ao &&& bo : Nat), .int .i64 (min az bz), .int .i64 0, .int .i64 0, .int .i64 0, .int .i64 0, .bool true, .int .i64 (min at_ bt)] := Blk.newAt rfl
    have hB : Below w.heap.size w (w0.alloc (.cells #[.int .i64 (ao &&& bo : Nat), .int .i64 (min az bz), .int .i64 0, .int .i64 0, .int .i64 0, .int .i64 0, .bool true, .int .i64 (min at_ bt)] 30)).drew := below_drawn (hB0.alloc hB0.size _) 1
    go_upto_region 2 with fail
    generalize (w0.alloc (.cells #[.int .i64 (ao &&& bo : Nat), .int .i64 (min az bz), .int .i64 0, .int .i64 0, .int .i64 0, .int .i64 0, .bool true, .int .i64 (min at_ bt)] 30)).drew = w2 at *
    clear A0 B0 R0 hB0
    have kA0 := A.cell 0
    have kA1 := A.cell 1
    have kA2 := A.cell 2
    have kA3 := A.cell 3
    have kA4 := A.cell 4
    have kA5 := A.cell 5
    have kA6 := A.cell 6
    have kA7 := A.cell 7
    have kB0 := B.cell 0
    have kB1 := B.cell 1
    have kB2 := B.cell 2
    have kB3 := B.cell 3
    have kB4 := B.cell 4
    have kB5 := B.cell 5
    have kB6 := B.cell 6
    have kB7 := B.cell 7
    simp only [List.getElem?_toArray, List.getElem?_cons_zero, List.getElem?_cons_succ] at kA0 kA1 kA2 kA3 kA4 kA5 kA6 kA7 kB0 kB1 kB2 kB3 kB4 kB5 kB6 kB7
    have zA := A.lt
    have zB := B.lt
    have zR := R.lt
    have zC := C.lt
    go_wp2_with fail
    refine (HG.out _).mono ?_
    rintro e w3 ⟨rfl, hb⟩
    replace A : Blk w3 (w.heap.size) 30 #[.int .i64 ao, .int .i64 az, .int .i64 ax, .int .i64 ay, .int .i64 aX, .int .i64 aY, .bool false, .int .i64 at_] := Blk.thru0 (A) hb
    replace B : Blk w3 (w.heap.size + 1) 30 #[.int .i64 bo, .int .i64 bz, .int .i64 bx, .int .i64 by_, .int .i64 bX, .int .i64 bY, .bool false, .int .i64 bt] := Blk.thru0 (B) hb
    replace R : Blk w3 (w.heap.size + 1 + 1) 30 #[.int .i64 0, .int .i64 0, .int .i64 0, .int .i64 0, .int .i64 0, .int .i64 0, .bool false, .int .i64 0] := Blk.thru0 (R) hb
    replace C : Blk w3 (w0.heap.size) 30 #[.int .i64 (ao &&& bo : Nat), .int .i64 (min az bz), .int .i64 0, .int .i64 0, .int .i64 0, .int .i64 0, .bool true, .int .i64 (min at_ bt)] := Blk.thru0 (C) hb
    have hs := hB.size
    replace hB : Below w.heap.size w w3 := below_trans (by go_grown) hb
    clear hs
    clear kA0 kA1 kA2 kA3 kA4 kA5 kA6 kA7 kB0 kB1 kB2 kB3 kB4 kB5 kB6 kB7 zA zB zR zC
    have hszw3 := hb.size
    (try simp at hszw3)
    clear hb
    have kC0 := C.cell 0
    have kC1 := C.cell 1
    have kC2 := C.cell 2
    have kC3 := C.cell 3
    have kC4 := C.cell 4
    have kC5 := C.cell 5
    have kC6 := C.cell 6
    have kC7 := C.cell 7
    simp only [List.getElem?_toArray, List.getElem?_cons_zero, List.getElem?_cons_succ] at kC0 kC1 kC2 kC3 kC4 kC5 kC6 kC7
    have zA := A.lt
    have zB := B.lt
    have zR := R.lt
    have zC := C.lt
    go_upto_region 3 with fail
    have hne : w.heap.size + 1 + 1 < w0.heap.size := hRC
    have hs := hB.size
    have hB9 : Below w.heap.size w (w3.alloc (.cells #[.int .i64 x, .int .i64 y, .int .i64 X, .int .i64 Y] 28)) := by go_grown
    have A9 : Blk (w3.alloc (.cells #[.int .i64 x, .int .i64 y, .int .i64 X, .int .i64 Y] 28)) (w.heap.size) 30 #[.int .i64 ao, .int .i64 az, .int .i64 ax, .int .i64 ay, .int .i64 aX, .int .i64 aY, .bool false, .int .i64 at_] := (A).alloc _
    have B9 : Blk (w3.alloc (.cells #[.int .i64 x, .int .i64 y, .int .i64 X, .int .i64 Y] 28)) (w.heap.size + 1) 30 #[.int .i64 bo, .int .i64 bz, .int .i64 bx, .int .i64 by_, .int .i64 bX, .int .i64 bY, .bool false, .int .i64 bt] := (B).alloc _
    have R9 : Blk (w3.alloc (.cells #[.int .i64 x, .int .i64 y, .int .i64 X, .int .i64 Y] 28)) (w.heap.size + 1 + 1) 30 #[.int .i64 0, .int .i64 0, .int .i64 0, .int .i64 0, .int .i64 0, .int .i64 0, .bool false, .int .i64 0] := (R).alloc _
    have C9 : Blk (w3.alloc (.cells #[.int .i64 x, .int .i64 y, .int .i64 X, .int .i64 Y] 28)) (w0.heap.size) 30 #[.int .i64 (ao &&& bo : Nat), .int .i64 (min az bz), .int .i64 0, .int .i64 0, .int .i64 0, .int .i64 0, .bool true, .int .i64 (min at_ bt)] := (C).alloc _
    have T9 : Blk (w3.alloc (.cells #[.int .i64 x, .int .i64 y, .int .i64 X, .int .i64 Y] 28)) (w3.heap.size) 28 #[.int .i64 x, .int .i64 y, .int .i64 X, .int .i64 Y] := Blk.newAt (by simp)
    generalize w3.alloc (.cells #[.int .i64 x, .int .i64 y, .int .i64 X, .int .i64 Y] 28) = w9 at hB9 A9 B9 R9 C9 T9 ⊢
    clear kC0 kC1 kC2 kC3 kC4 kC5 kC6 kC7 zA zB zR zC
    clear hs hB A B R C
    have hB := hB9
    clear hB9
    have A := A9
    clear A9
    have B := B9
    clear B9
    have R := R9
    clear R9
    have C := C9
    clear C9
    have T := T9
    clear T9
    have kA0 := A.cell 0
    have kA1 := A.cell 1
    have kA2 := A.cell 2
    have kA3 := A.cell 3
    have kA4 := A.cell 4
    have kA5 := A.cell 5
    have kA6 := A.cell 6
    have kA7 := A.cell 7
    have kB0 := B.cell 0
    have kB1 := B.cell 1
    have kB2 := B.cell 2
    have kB3 := B.cell 3
    have kB4 := B.cell 4
    have kB5 := B.cell 5
    have kB6 := B.cell 6
    have kB7 := B.cell 7
    simp only [List.getElem?_toArray, List.getElem?_cons_zero, List.getElem?_cons_succ] at kA0 kA1 kA2 kA3 kA4 kA5 kA6 kA7 kB0 kB1 kB2 kB3 kB4 kB5 kB6 kB7
    have zA := A.lt
    have zB := B.lt
    have zR := R.lt
    have zC := C.lt
    have zT := T.lt
    go_upto_region 4 with fail
    clear kA0 kA1 kA2 kA3 kA4 kA5 kA6 kA7 kB0 kB1 kB2 kB3 kB4 kB5 kB6 kB7 zA zB zR zC zT
    have kC0 := C.cell 0
    have kC1 := C.cell 1
    have kC2 := C.cell 2
    have kC3 := C.cell 3
    have kC4 := C.cell 4
    have kC5 := C.cell 5
    have kC6 := C.cell 6
    have kC7 := C.cell 7
    have kT0 := T.cell 0
    have kT1 := T.cell 1
    have kT2 := T.cell 2
    have kT3 := T.cell 3
    simp only [List.getElem?_toArray, List.getElem?_cons_zero, List.getElem?_cons_succ] at kC0 kC1 kC2 kC3 kC4 kC5 kC6 kC7 kT0 kT1 kT2 kT3
    have zA := A.lt
    have zB := B.lt
    have zR := R.lt
    have zC := C.lt
    have fC0 := C.frozen 0
    have fC1 := C.frozen 1
    have fC2 := C.frozen 2
    have fC3 := C.frozen 3
    have fC4 := C.frozen 4
    have fC5 := C.frozen 5
    have fC6 := C.frozen 6
    have fC7 := C.frozen 7
    have zT := T.lt
    go_upto_region 6 with fail
    clear kC0 kC1 kC2 kC3 kC4 kC5 kC6 kC7 kT0 kT1 kT2 kT3 zA zB zR zC fC0 fC1 fC2 fC3 fC4 fC5 fC6 fC7 zT
    have C9 : Blk (((((w9.setCell ⟨w0.heap.size, 2, none⟩ (.int .i64 x)).setCell ⟨w0.heap.size, 3, none⟩ (.int .i64 y)).setCell ⟨w0.heap.size, 4, none⟩ (.int .i64 X)).setCell ⟨w0.heap.size, 5, none⟩ (.int .i64 Y)).setCell ⟨w0.heap.size, 6, none⟩ (.bool false)) w0.heap.size 30 #[.int .i64 (ao &&& bo : Nat), .int .i64 (min az bz), .int .i64 x, .int .i64 y, .int .i64 X, .int .i64 Y, .bool false, .int .i64 (min at_ bt)] := by have h9 := ((((C.set_ 2 (.int .i64 x)).set_ 3 (.int .i64 y)).set_ 4 (.int .i64 X)).set_ 5 (.int .i64 Y)).set_ 6 (.bool false); simpa using h9
    have R9 : Blk (((((w9.setCell ⟨w0.heap.size, 2, none⟩ (.int .i64 x)).setCell ⟨w0.heap.size, 3, none⟩ (.int .i64 y)).setCell ⟨w0.heap.size, 4, none⟩ (.int .i64 X)).setCell ⟨w0.heap.size, 5, none⟩ (.int .i64 Y)).setCell ⟨w0.heap.size, 6, none⟩ (.bool false)) (w.heap.size + 1 + 1) 30 #[.int .i64 0, .int .i64 0, .int .i64 0, .int .i64 0, .int .i64 0, .int .i64 0, .bool false, .int .i64 0] := (((((R.far (p := ⟨w0.heap.size, 2, none⟩) (show w.heap.size + 1 + 1 ≠ w0.heap.size by omega) (.int .i64 x)).far (p := ⟨w0.heap.size, 3, none⟩) (show w.heap.size + 1 + 1 ≠ w0.heap.size by omega) (.int .i64 y)).far (p := ⟨w0.heap.size, 4, none⟩) (show w.heap.size + 1 + 1 ≠ w0.heap.size by omega) (.int .i64 X)).far (p := ⟨w0.heap.size, 5, none⟩) (show w.heap.size + 1 + 1 ≠ w0.heap.size by omega) (.int .i64 Y)).far (p := ⟨w0.heap.size, 6, none⟩) (show w.heap.size + 1 + 1 ≠ w0.heap.size by omega) (.bool false))
    have hsb := hB.size
    have hB9 : Below w.heap.size w (((((w9.setCell ⟨w0.heap.size, 2, none⟩ (.int .i64 x)).setCell ⟨w0.heap.size, 3, none⟩ (.int .i64 y)).setCell ⟨w0.heap.size, 4, none⟩ (.int .i64 X)).setCell ⟨w0.heap.size, 5, none⟩ (.int .i64 Y)).setCell ⟨w0.heap.size, 6, none⟩ (.bool false)) := by go_grown
    clear hsb
    generalize (((((w9.setCell ⟨w0.heap.size, 2, none⟩ (.int .i64 x)).setCell ⟨w0.heap.size, 3, none⟩ (.int .i64 y)).setCell ⟨w0.heap.size, 4, none⟩ (.int .i64 X)).setCell ⟨w0.heap.size, 5, none⟩ (.int .i64 Y)).setCell ⟨w0.heap.size, 6, none⟩ (.bool false)) = wz at C9 R9 hB9 ⊢
    clear C R hB A B T
    have hB := hB9
    clear hB9
    have kC90 := C9.cell 0
    have kC91 := C9.cell 1
    have kC92 := C9.cell 2
    have kC93 := C9.cell 3
    have kC94 := C9.cell 4
    have kC95 := C9.cell 5
    have kC96 := C9.cell 6
    have kC97 := C9.cell 7
    have kR90 := R9.cell 0
    have kR91 := R9.cell 1
    have kR92 := R9.cell 2
    have kR93 := R9.cell 3
    have kR94 := R9.cell 4
    have kR95 := R9.cell 5
    have kR96 := R9.cell 6
    have kR97 := R9.cell 7
    simp only [List.getElem?_toArray, List.getElem?_cons_zero, List.getElem?_cons_succ] at kC90 kC91 kC92 kC93 kC94 kC95 kC96 kC97 kR90 kR91 kR92 kR93 kR94 kR95 kR96 kR97
    have zC9 := C9.lt
    have zR9 := R9.lt
    have fR90 := R9.frozen 0
    have fR91 := R9.frozen 1
    have fR92 := R9.frozen 2
    have fR93 := R9.frozen 3
    have fR94 := R9.frozen 4
    have fR95 := R9.frozen 5
    have fR96 := R9.frozen 6
    have fR97 := R9.frozen 7
    go_wp2
    refine bodyPost_ret (v := .agg #[.int .i64 (ao &&& bo : Nat), .int .i64 (min az bz), .int .i64 x, .int .i64 y, .int .i64 X, .int .i64 Y, .bool false, .int .i64 (min at_ bt)]) ?_ rfl ⟨rfl, ?_⟩
    · simp [results, Try.results28, go_sem, *]
    · first | (go_grown; done) | exact below_drawn (by go_grown) _
theorem rtmeet_any (a b : Gt) (ha : Rt a) (hb : Rt b) (w : World) :
    Calls Try.prog 28 #[a.V, b.V] w fun e w' => e = .returned (meetG a b).V ∧ Below w.heap.size w w' := by
  obtain ⟨ao, az, ax, ay, aX, aY, av, at_⟩ := a
  obtain ⟨bo, bz, bx, by_, bX, bY, bv, bt⟩ := b
  have oa := ha.o
  have ob := hb.o
  simp only at oa ob
  obtain ⟨ao, rfl⟩ := Int.eq_ofNat_of_zero_le oa.1
  obtain ⟨bo, rfl⟩ := Int.eq_ofNat_of_zero_le ob.1
  have h1 : rightB ax ay aX aY = true := by
    rw [rightB_iff]
    have := ha.b
    simp only at this
    omega
  have h2 : rightB bx by_ bX bY = true := by
    rw [rightB_iff]
    have := hb.b
    simp only at this
    omega
  have HRI := Lib.hid (fun w => rights_any ao bo (by omega) (by omega) w)
  cases h3 : rightB (max ax bx) (max ay by_) (min aX bX) (min aY bY) with
  | false =>
    have e1 : meetG ⟨ao, az, ax, ay, aX, aY, av, at_⟩ ⟨bo, bz, bx, by_, bX, bY, bv, bt⟩ = ⟨((ao &&& bo : Nat) : Int), min az bz, 0, 0, 0, 0, true, min at_ bt⟩ := by simp [meetG, h3]
    rw [e1]
    exact rtm_no ao bo az ax ay aX aY at_ bz bx by_ bX bY bt _ _ _ _ av bv HRI (Lib.hid fun w => rmeet_no3 ax ay aX aY bx by_ bX bY h1 h2 h3 w) w
  | true =>
    have HG := Lib.hid (fun w => rmeet_yes ax ay aX aY bx by_ bX bY h1 h2 h3 w)
    cases av with
    | true =>
      have e1 : meetG ⟨ao, az, ax, ay, aX, aY, true, at_⟩ ⟨bo, bz, bx, by_, bX, bY, bv, bt⟩ = ⟨((ao &&& bo : Nat) : Int), min az bz, 0, 0, 0, 0, true, min at_ bt⟩ := by simp [meetG]
      rw [e1]
      exact rtm_av ao bo az ax ay aX aY at_ bz bx by_ bX bY bt _ _ _ _ bv HRI HG w
    | false =>
      cases bv with
      | true =>
        have e1 : meetG ⟨ao, az, ax, ay, aX, aY, false, at_⟩ ⟨bo, bz, bx, by_, bX, bY, true, bt⟩ = ⟨((ao &&& bo : Nat) : Int), min az bz, 0, 0, 0, 0, true, min at_ bt⟩ := by simp [meetG]
        rw [e1]
        exact rtm_bv ao bo az ax ay aX aY at_ bz bx by_ bX bY bt _ _ _ _ HRI HG w
      | false =>
        have e1 : meetG ⟨ao, az, ax, ay, aX, aY, false, at_⟩ ⟨bo, bz, bx, by_, bX, bY, false, bt⟩ = ⟨((ao &&& bo : Nat) : Int), min az bz, max ax bx, max ay by_, min aX bX, min aY bY, false, min at_ bt⟩ := by simp [meetG, h3]
        rw [e1]
        exact rtm_yes ao bo az ax ay aX aY at_ bz bx by_ bX bY bt _ _ _ _ HRI HG w
end Go.Proofs.Ytjpjkoipmmcigaa
