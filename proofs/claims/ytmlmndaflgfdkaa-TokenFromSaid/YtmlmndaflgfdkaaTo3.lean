/- token: Meet, by contract. -/
import Derived.Test.YtmlmndaflgfdkaaTo1
import Derived.Test.YtmlmndaflgfdkaaTo2
namespace Go.Proofs.Ytmlmndaflgfdkaa
set_option linter.unusedVariables false
set_option linter.unusedSimpArgs false
open Go.RowKit
attribute [local go_sem high] run_max2 run_min2
set_option maxRecDepth 100000 in
set_option maxHeartbeats 4000000 in
theorem tmeet_bad1 (ao az ax ay aX aY at_ : Int) (av : Bool) (bo bz bx by_ bX bY bt : Int) (bv : Bool) (HA : Hid (∀ w, Calls Try.prog 25 #[.agg #[.int .i64 ao, .int .i64 az, .int .i64 ax, .int .i64 ay, .int .i64 aX, .int .i64 aY, .bool av, .int .i64 at_]] w fun e w' => e = .returned (.bool false) ∧ Below w.heap.size w w')) (w : World) :
    Calls Try.prog 24 #[.agg #[.int .i64 ao, .int .i64 az, .int .i64 ax, .int .i64 ay, .int .i64 aX, .int .i64 aY, .bool av, .int .i64 at_], .agg #[.int .i64 bo, .int .i64 bz, .int .i64 bx, .int .i64 by_, .int .i64 bX, .int .i64 bY, .bool bv, .int .i64 bt]] w fun e w' => e = .returned (.agg #[.int .i64 0, .int .i64 0, .int .i64 0, .int .i64 0, .int .i64 0, .int .i64 0, .bool false, .int .i64 0]) ∧ Below w.heap.size w w' := by
  go_enter Try.func24, Try.ntmps24
  go_wp2_with fail
  refine (HA.out _).mono ?_
  rintro e w1 ⟨rfl, hb⟩
  have A : Blk w1 (w.heap.size) 30 #[.int .i64 ao, .int .i64 az, .int .i64 ax, .int .i64 ay, .int .i64 aX, .int .i64 aY, .bool av, .int .i64 at_] := Blk.thru0 (((Blk.newAt (by simp)).alloc _).alloc _) hb
  have B : Blk w1 (w.heap.size + 1) 30 #[.int .i64 bo, .int .i64 bz, .int .i64 bx, .int .i64 by_, .int .i64 bX, .int .i64 bY, .bool bv, .int .i64 bt] := Blk.thru0 ((Blk.newAt (by simp)).alloc _) hb
  have R : Blk w1 (w.heap.size + 1 + 1) 30 #[.int .i64 0, .int .i64 0, .int .i64 0, .int .i64 0, .int .i64 0, .int .i64 0, .bool false, .int .i64 0] := Blk.thru0 (Blk.newAt (by simp)) hb
  have hB : Below w.heap.size w w1 := below_trans (by go_grown) hb
  have hszw1 := hb.size
  (try simp at hszw1)
  clear hb
  have kR0 := R.cell 0
  have kR1 := R.cell 1
  have kR2 := R.cell 2
  have kR3 := R.cell 3
  have kR4 := R.cell 4
  have kR5 := R.cell 5
  have kR6 := R.cell 6
  have kR7 := R.cell 7
  simp only [List.getElem?_toArray, List.getElem?_cons_zero, List.getElem?_cons_succ] at kR0 kR1 kR2 kR3 kR4 kR5 kR6 kR7
  have zA := A.lt
  have zB := B.lt
  have zR := R.lt
  have fR0 := R.frozen 0
  have fR1 := R.frozen 1
  have fR2 := R.frozen 2
  have fR3 := R.frozen 3
  have fR4 := R.frozen 4
  have fR5 := R.frozen 5
  have fR6 := R.frozen 6
  have fR7 := R.frozen 7
  go_wp2
  refine bodyPost_ret (v := .agg #[.int .i64 0, .int .i64 0, .int .i64 0, .int .i64 0, .int .i64 0, .int .i64 0, .bool false, .int .i64 0]) ?_ rfl ⟨rfl, ?_⟩
  · simp [results, Try.results24, go_sem, *]
  · first | (go_grown; done) | exact below_drawn (by go_grown) _
set_option maxRecDepth 100000 in
set_option maxHeartbeats 4000000 in
theorem tmeet_bad2 (ao az ax ay aX aY at_ : Int) (av : Bool) (bo bz bx by_ bX bY bt : Int) (bv : Bool) (HA : Hid (∀ w, Calls Try.prog 25 #[.agg #[.int .i64 ao, .int .i64 az, .int .i64 ax, .int .i64 ay, .int .i64 aX, .int .i64 aY, .bool av, .int .i64 at_]] w fun e w' => e = .returned (.bool true) ∧ Below w.heap.size w w')) (HB : Hid (∀ w, Calls Try.prog 25 #[.agg #[.int .i64 bo, .int .i64 bz, .int .i64 bx, .int .i64 by_, .int .i64 bX, .int .i64 bY, .bool bv, .int .i64 bt]] w fun e w' => e = .returned (.bool false) ∧ Below w.heap.size w w')) (w : World) :
    Calls Try.prog 24 #[.agg #[.int .i64 ao, .int .i64 az, .int .i64 ax, .int .i64 ay, .int .i64 aX, .int .i64 aY, .bool av, .int .i64 at_], .agg #[.int .i64 bo, .int .i64 bz, .int .i64 bx, .int .i64 by_, .int .i64 bX, .int .i64 bY, .bool bv, .int .i64 bt]] w fun e w' => e = .returned (.agg #[.int .i64 0, .int .i64 0, .int .i64 0, .int .i64 0, .int .i64 0, .int .i64 0, .bool false, .int .i64 0]) ∧ Below w.heap.size w w' := by
  go_enter Try.func24, Try.ntmps24
  go_wp2_with fail
  refine (HA.out _).mono ?_
  rintro e w1 ⟨rfl, hb⟩
  have A : Blk w1 (w.heap.size) 30 #[.int .i64 ao, .int .i64 az, .int .i64 ax, .int .i64 ay, .int .i64 aX, .int .i64 aY, .bool av, .int .i64 at_] := Blk.thru0 (((Blk.newAt (by simp)).alloc _).alloc _) hb
  have B : Blk w1 (w.heap.size + 1) 30 #[.int .i64 bo, .int .i64 bz, .int .i64 bx, .int .i64 by_, .int .i64 bX, .int .i64 bY, .bool bv, .int .i64 bt] := Blk.thru0 ((Blk.newAt (by simp)).alloc _) hb
  have R : Blk w1 (w.heap.size + 1 + 1) 30 #[.int .i64 0, .int .i64 0, .int .i64 0, .int .i64 0, .int .i64 0, .int .i64 0, .bool false, .int .i64 0] := Blk.thru0 (Blk.newAt (by simp)) hb
  have hB : Below w.heap.size w w1 := below_trans (by go_grown) hb
  have hszw1 := hb.size
  (try simp at hszw1)
  clear hb
  have kA0 := A.cell 0
  have kA1 := A.cell 1
  have kA2 := A.cell 2
  have kA3 := A.cell 3
  have kA4 := A.cell 4
  have kA5 := A.cell 5
  have kA6 := A.cell 6
  have kA7 := A.cell 7
  have kB0 := B.cell 0
  have kB1 := B.cell 1
  have kB2 := B.cell 2
  have kB3 := B.cell 3
  have kB4 := B.cell 4
  have kB5 := B.cell 5
  have kB6 := B.cell 6
  have kB7 := B.cell 7
  simp only [List.getElem?_toArray, List.getElem?_cons_zero, List.getElem?_cons_succ] at kA0 kA1 kA2 kA3 kA4 kA5 kA6 kA7 kB0 kB1 kB2 kB3 kB4 kB5 kB6 kB7
  have zA := A.lt
  have zB := B.lt
  have zR := R.lt
  go_wp2_with fail
  refine (HB.out _).mono ?_
  rintro e w2 ⟨rfl, hb⟩
  replace A : Blk w2 (w.heap.size) 30 #[.int .i64 ao, .int .i64 az, .int .i64 ax, .int .i64 ay, .int .i64 aX, .int .i64 aY, .bool av, .int .i64 at_] := Blk.thru0 (A) hb
  replace B : Blk w2 (w.heap.size + 1) 30 #[.int .i64 bo, .int .i64 bz, .int .i64 bx, .int .i64 by_, .int .i64 bX, .int .i64 bY, .bool bv, .int .i64 bt] := Blk.thru0 (B) hb
  replace R : Blk w2 (w.heap.size + 1 + 1) 30 #[.int .i64 0, .int .i64 0, .int .i64 0, .int .i64 0, .int .i64 0, .int .i64 0, .bool false, .int .i64 0] := Blk.thru0 (R) hb
  have hs := hB.size
  replace hB : Below w.heap.size w w2 := below_trans (by go_grown) hb
  clear hs
  clear kA0 kA1 kA2 kA3 kA4 kA5 kA6 kA7 kB0 kB1 kB2 kB3 kB4 kB5 kB6 kB7 zA zB zR
  have hszw2 := hb.size
  (try simp at hszw2)
  clear hb
  have kR0 := R.cell 0
  have kR1 := R.cell 1
  have kR2 := R.cell 2
  have kR3 := R.cell 3
  have kR4 := R.cell 4
  have kR5 := R.cell 5
  have kR6 := R.cell 6
  have kR7 := R.cell 7
  simp only [List.getElem?_toArray, List.getElem?_cons_zero, List.getElem?_cons_succ] at kR0 kR1 kR2 kR3 kR4 kR5 kR6 kR7
  have zA := A.lt
  have zB := B.lt
  have zR := R.lt
  have fR0 := R.frozen 0
  have fR1 := R.frozen 1
  have fR2 := R.frozen 2
  have fR3 := R.frozen 3
  have fR4 := R.frozen 4
  have fR5 := R.frozen 5
  have fR6 := R.frozen 6
  have fR7 := R.frozen 7
  go_wp2
  refine bodyPost_ret (v := .agg #[.int .i64 0, .int .i64 0, .int .i64 0, .int .i64 0, .int .i64 0, .int .i64 0, .bool false, .int .i64 0]) ?_ rfl ⟨rfl, ?_⟩
  · simp [results, Try.results24, go_sem, *]
  · first | (go_grown; done) | exact below_drawn (by go_grown) _
set_option maxRecDepth 100000 in
set_option maxHeartbeats 4000000 in
theorem tmeet_void1 (ao az ax ay aX aY at_ : Int) (bo bz bx by_ bX bY bt : Int) (bv : Bool) (m : Int) (hm : bits .and .i64 ao bo = m) (HA : Hid (∀ w, Calls Try.prog 25 #[.agg #[.int .i64 ao, .int .i64 az, .int .i64 ax, .int .i64 ay, .int .i64 aX, .int .i64 aY, .bool true, .int .i64 at_]] w fun e w' => e = .returned (.bool true) ∧ Below w.heap.size w w')) (HB : Hid (∀ w, Calls Try.prog 25 #[.agg #[.int .i64 bo, .int .i64 bz, .int .i64 bx, .int .i64 by_, .int .i64 bX, .int .i64 bY, .bool bv, .int .i64 bt]] w fun e w' => e = .returned (.bool true) ∧ Below w.heap.size w w')) (w : World) :
    Calls Try.prog 24 #[.agg #[.int .i64 ao, .int .i64 az, .int .i64 ax, .int .i64 ay, .int .i64 aX, .int .i64 aY, .bool true, .int .i64 at_], .agg #[.int .i64 bo, .int .i64 bz, .int .i64 bx, .int .i64 by_, .int .i64 bX, .int .i64 bY, .bool bv, .int .i64 bt]] w fun e w' => e = .returned (.agg #[.int .i64 m, .int .i64 (min az bz), .int .i64 0, .int .i64 0, .int .i64 0, .int .i64 0, .bool true, .int .i64 (min at_ bt)]) ∧ Below w.heap.size w w' := by
  go_enter Try.func24, Try.ntmps24
  go_wp2_with fail
  refine (HA.out _).mono ?_
  rintro e w1 ⟨rfl, hb⟩
  have A : Blk w1 (w.heap.size) 30 #[.int .i64 ao, .int .i64 az, .int .i64 ax, .int .i64 ay, .int .i64 aX, .int .i64 aY, .bool true, .int .i64 at_] := Blk.thru0 (((Blk.newAt (by simp)).alloc _).alloc _) hb
  have B : Blk w1 (w.heap.size + 1) 30 #[.int .i64 bo, .int .i64 bz, .int .i64 bx, .int .i64 by_, .int .i64 bX, .int .i64 bY, .bool bv, .int .i64 bt] := Blk.thru0 ((Blk.newAt (by simp)).alloc _) hb
  have R : Blk w1 (w.heap.size + 1 + 1) 30 #[.int .i64 0, .int .i64 0, .int .i64 0, .int .i64 0, .int .i64 0, .int .i64 0, .bool false, .int .i64 0] := Blk.thru0 (Blk.newAt (by simp)) hb
  have hB : Below w.heap.size w w1 := below_trans (by go_grown) hb
  have hszw1 := hb.size
  (try simp at hszw1)
  clear hb
  have kA0 := A.cell 0
  have kA1 := A.cell 1
  have kA2 := A.cell 2
  have kA3 := A.cell 3
  have kA4 := A.cell 4
  have kA5 := A.cell 5
  have kA6 := A.cell 6
  have kA7 := A.cell 7
  have kB0 := B.cell 0
  have kB1 := B.cell 1
  have kB2 := B.cell 2
  have kB3 := B.cell 3
  have kB4 := B.cell 4
  have kB5 := B.cell 5
  have kB6 := B.cell 6
  have kB7 := B.cell 7
  simp only [List.getElem?_toArray, List.getElem?_cons_zero, List.getElem?_cons_succ] at kA0 kA1 kA2 kA3 kA4 kA5 kA6 kA7 kB0 kB1 kB2 kB3 kB4 kB5 kB6 kB7
  have zA := A.lt
  have zB := B.lt
  have zR := R.lt
  go_wp2_with fail
  refine (HB.out _).mono ?_
  rintro e w2 ⟨rfl, hb⟩
  replace A : Blk w2 (w.heap.size) 30 #[.int .i64 ao, .int .i64 az, .int .i64 ax, .int .i64 ay, .int .i64 aX, .int .i64 aY, .bool true, .int .i64 at_] := Blk.thru0 (A) hb
  replace B : Blk w2 (w.heap.size + 1) 30 #[.int .i64 bo, .int .i64 bz, .int .i64 bx, .int .i64 by_, .int .i64 bX, .int .i64 bY, .bool bv, .int .i64 bt] := Blk.thru0 (B) hb
  replace R : Blk w2 (w.heap.size + 1 + 1) 30 #[.int .i64 0, .int .i64 0, .int .i64 0, .int .i64 0, .int .i64 0, .int .i64 0, .bool false, .int .i64 0] := Blk.thru0 (R) hb
  have hs := hB.size
  replace hB : Below w.heap.size w w2 := below_trans (by go_grown) hb
  clear hs
  clear kA0 kA1 kA2 kA3 kA4 kA5 kA6 kA7 kB0 kB1 kB2 kB3 kB4 kB5 kB6 kB7 zA zB zR
  have hszw2 := hb.size
  (try simp at hszw2)
  clear hb
  have kA0 := A.cell 0
  have kA1 := A.cell 1
  have kA2 := A.cell 2
  have kA3 := A.cell 3
  have kA4 := A.cell 4
  have kA5 := A.cell 5
  have kA6 := A.cell 6
  have kA7 := A.cell 7
  have kB0 := B.cell 0
  have kB1 := B.cell 1
  have kB2 := B.cell 2
  have kB3 := B.cell 3
  have kB4 := B.cell 4
  have kB5 := B.cell 5
  have kB6 := B.cell 6
  have kB7 := B.cell 7
  simp only [List.getElem?_toArray, List.getElem?_cons_zero, List.getElem?_cons_succ] at kA0 kA1 kA2 kA3 kA4 kA5 kA6 kA7 kB0 kB1 kB2 kB3 kB4 kB5 kB6 kB7
  have zA := A.lt
  have zB := B.lt
  have zR := R.lt
  go_upto_region 5 with fail
  have hs := hB.size
  have hB9 : Below w.heap.size w (w2.alloc (.cells #[.int .i64 m, .int .i64 (min az bz), .int .i64 0, .int .i64 0, .int .i64 0, .int .i64 0, .bool true, .int .i64 (min at_ bt)] 30)) := by go_grown
  have A9 : Blk (w2.alloc (.cells #[.int .i64 m, .int .i64 (min az bz), .int .i64 0, .int .i64 0, .int .i64 0, .int .i64 0, .bool true, .int .i64 (min at_ bt)] 30)) (w.heap.size) 30 #[.int .i64 ao, .int .i64 az, .int .i64 ax, .int .i64 ay, .int .i64 aX, .int .i64 aY, .bool true, .int .i64 at_] := (A).alloc _
  have B9 : Blk (w2.alloc (.cells #[.int .i64 m, .int .i64 (min az bz), .int .i64 0, .int .i64 0, .int .i64 0, .int .i64 0, .bool true, .int .i64 (min at_ bt)] 30)) (w.heap.size + 1) 30 #[.int .i64 bo, .int .i64 bz, .int .i64 bx, .int .i64 by_, .int .i64 bX, .int .i64 bY, .bool bv, .int .i64 bt] := (B).alloc _
  have R9 : Blk (w2.alloc (.cells #[.int .i64 m, .int .i64 (min az bz), .int .i64 0, .int .i64 0, .int .i64 0, .int .i64 0, .bool true, .int .i64 (min at_ bt)] 30)) (w.heap.size + 1 + 1) 30 #[.int .i64 0, .int .i64 0, .int .i64 0, .int .i64 0, .int .i64 0, .int .i64 0, .bool false, .int .i64 0] := (R).alloc _
  have C9 : Blk (w2.alloc (.cells #[.int .i64 m, .int .i64 (min az bz), .int .i64 0, .int .i64 0, .int .i64 0, .int .i64 0, .bool true, .int .i64 (min at_ bt)] 30)) (w2.heap.size) 30 #[.int .i64 m, .int .i64 (min az bz), .int .i64 0, .int .i64 0, .int .i64 0, .int .i64 0, .bool true, .int .i64 (min at_ bt)] := Blk.newAt (by simp)
  generalize w2.alloc (.cells #[.int .i64 m, .int .i64 (min az bz), .int .i64 0, .int .i64 0, .int .i64 0, .int .i64 0, .bool true, .int .i64 (min at_ bt)] 30) = w5 at hB9 A9 B9 R9 C9 ⊢
  clear kA0 kA1 kA2 kA3 kA4 kA5 kA6 kA7 kB0 kB1 kB2 kB3 kB4 kB5 kB6 kB7 zA zB zR
  clear hs hB A B R
  have hB := hB9
  clear hB9
  have A := A9
  clear A9
  have B := B9
  clear B9
  have R := R9
  clear R9
  have C := C9
  clear C9
  have kR0 := R.cell 0
  have kR1 := R.cell 1
  have kR2 := R.cell 2
  have kR3 := R.cell 3
  have kR4 := R.cell 4
  have kR5 := R.cell 5
  have kR6 := R.cell 6
  have kR7 := R.cell 7
  have kC0 := C.cell 0
  have kC1 := C.cell 1
  have kC2 := C.cell 2
  have kC3 := C.cell 3
  have kC4 := C.cell 4
  have kC5 := C.cell 5
  have kC6 := C.cell 6
  have kC7 := C.cell 7
  simp only [List.getElem?_toArray, List.getElem?_cons_zero, List.getElem?_cons_succ] at kR0 kR1 kR2 kR3 kR4 kR5 kR6 kR7 kC0 kC1 kC2 kC3 kC4 kC5 kC6 kC7
  have zA := A.lt
  have zB := B.lt
  have zR := R.lt
  have fR0 := R.frozen 0
  have fR1 := R.frozen 1
  have fR2 := R.frozen 2
  have fR3 := R.frozen 3
  have fR4 := R.frozen 4
  have fR5 := R.frozen 5
  have fR6 := R.frozen 6
  have fR7 := R.frozen 7
  have zC := C.lt
  go_wp2
  refine bodyPost_ret (v := .agg #[.int .i64 m, .int .i64 (min az bz), .int .i64 0, .int .i64 0, .int .i64 0, .int .i64 0, .bool true, .int .i64 (min at_ bt)]) ?_ rfl ⟨rfl, ?_⟩
  · simp [results, Try.results24, go_sem, *]
  · first | (go_grown; done) | exact below_drawn (by go_grown) _
set_option maxRecDepth 100000 in
set_option maxHeartbeats 4000000 in
theorem tmeet_void2 (ao az ax ay aX aY at_ : Int) (bo bz bx by_ bX bY bt : Int) (m : Int) (hm : bits .and .i64 ao bo = m) (HA : Hid (∀ w, Calls Try.prog 25 #[.agg #[.int .i64 ao, .int .i64 az, .int .i64 ax, .int .i64 ay, .int .i64 aX, .int .i64 aY, .bool false, .int .i64 at_]] w fun e w' => e = .returned (.bool true) ∧ Below w.heap.size w w')) (HB : Hid (∀ w, Calls Try.prog 25 #[.agg #[.int .i64 bo, .int .i64 bz, .int .i64 bx, .int .i64 by_, .int .i64 bX, .int .i64 bY, .bool true, .int .i64 bt]] w fun e w' => e = .returned (.bool true) ∧ Below w.heap.size w w')) (w : World) :
    Calls Try.prog 24 #[.agg #[.int .i64 ao, .int .i64 az, .int .i64 ax, .int .i64 ay, .int .i64 aX, .int .i64 aY, .bool false, .int .i64 at_], .agg #[.int .i64 bo, .int .i64 bz, .int .i64 bx, .int .i64 by_, .int .i64 bX, .int .i64 bY, .bool true, .int .i64 bt]] w fun e w' => e = .returned (.agg #[.int .i64 m, .int .i64 (min az bz), .int .i64 0, .int .i64 0, .int .i64 0, .int .i64 0, .bool true, .int .i64 (min at_ bt)]) ∧ Below w.heap.size w w' := by
  go_enter Try.func24, Try.ntmps24
  go_wp2_with fail
  refine (HA.out _).mono ?_
  rintro e w1 ⟨rfl, hb⟩
  have A : Blk w1 (w.heap.size) 30 #[.int .i64 ao, .int .i64 az, .int .i64 ax, .int .i64 ay, .int .i64 aX, .int .i64 aY, .bool false, .int .i64 at_] := Blk.thru0 (((Blk.newAt (by simp)).alloc _).alloc _) hb
  have B : Blk w1 (w.heap.size + 1) 30 #[.int .i64 bo, .int .i64 bz, .int .i64 bx, .int .i64 by_, .int .i64 bX, .int .i64 bY, .bool true, .int .i64 bt] := Blk.thru0 ((Blk.newAt (by simp)).alloc _) hb
  have R : Blk w1 (w.heap.size + 1 + 1) 30 #[.int .i64 0, .int .i64 0, .int .i64 0, .int .i64 0, .int .i64 0, .int .i64 0, .bool false, .int .i64 0] := Blk.thru0 (Blk.newAt (by simp)) hb
  have hB : Below w.heap.size w w1 := below_trans (by go_grown) hb
  have hszw1 := hb.size
  (try simp at hszw1)
  clear hb
  have kA0 := A.cell 0
  have kA1 := A.cell 1
  have kA2 := A.cell 2
  have kA3 := A.cell 3
  have kA4 := A.cell 4
  have kA5 := A.cell 5
  have kA6 := A.cell 6
  have kA7 := A.cell 7
  have kB0 := B.cell 0
  have kB1 := B.cell 1
  have kB2 := B.cell 2
  have kB3 := B.cell 3
  have kB4 := B.cell 4
  have kB5 := B.cell 5
  have kB6 := B.cell 6
  have kB7 := B.cell 7
  simp only [List.getElem?_toArray, List.getElem?_cons_zero, List.getElem?_cons_succ] at kA0 kA1 kA2 kA3 kA4 kA5 kA6 kA7 kB0 kB1 kB2 kB3 kB4 kB5 kB6 kB7
  have zA := A.lt
  have zB := B.lt
  have zR := R.lt
  go_wp2_with fail
  refine (HB.out _).mono ?_
  rintro e w2 ⟨rfl, hb⟩
  replace A : Blk w2 (w.heap.size) 30 #[.int .i64 ao, .int .i64 az, .int .i64 ax, .int .i64 ay, .int .i64 aX, .int .i64 aY, .bool false, .int .i64 at_] := Blk.thru0 (A) hb
  replace B : Blk w2 (w.heap.size + 1) 30 #[.int .i64 bo, .int .i64 bz, .int .i64 bx, .int .i64 by_, .int .i64 bX, .int .i64 bY, .bool true, .int .i64 bt] := Blk.thru0 (B) hb
  replace R : Blk w2 (w.heap.size + 1 + 1) 30 #[.int .i64 0, .int .i64 0, .int .i64 0, .int .i64 0, .int .i64 0, .int .i64 0, .bool false, .int .i64 0] := Blk.thru0 (R) hb
  have hs := hB.size
  replace hB : Below w.heap.size w w2 := below_trans (by go_grown) hb
  clear hs
  clear kA0 kA1 kA2 kA3 kA4 kA5 kA6 kA7 kB0 kB1 kB2 kB3 kB4 kB5 kB6 kB7 zA zB zR
  have hszw2 := hb.size
  (try simp at hszw2)
  clear hb
  have kA0 := A.cell 0
  have kA1 := A.cell 1
  have kA2 := A.cell 2
  have kA3 := A.cell 3
  have kA4 := A.cell 4
  have kA5 := A.cell 5
  have kA6 := A.cell 6
  have kA7 := A.cell 7
  have kB0 := B.cell 0
  have kB1 := B.cell 1
  have kB2 := B.cell 2
  have kB3 := B.cell 3
  have kB4 := B.cell 4
  have kB5 := B.cell 5
  have kB6 := B.cell 6
  have kB7 := B.cell 7
  simp only [List.getElem?_toArray, List.getElem?_cons_zero, List.getElem?_cons_succ] at kA0 kA1 kA2 kA3 kA4 kA5 kA6 kA7 kB0 kB1 kB2 kB3 kB4 kB5 kB6 kB7
  have zA := A.lt
  have zB := B.lt
  have zR := R.lt
  go_upto_region 5 with fail
  have hs := hB.size
  have hB9 : Below w.heap.size w (w2.alloc (.cells #[.int .i64 m, .int .i64 (min az bz), .int .i64 0, .int .i64 0, .int .i64 0, .int .i64 0, .bool true, .int .i64 (min at_ bt)] 30)) := by go_grown
  have A9 : Blk (w2.alloc (.cells #[.int .i64 m, .int .i64 (min az bz), .int .i64 0, .int .i64 0, .int .i64 0, .int .i64 0, .bool true, .int .i64 (min at_ bt)] 30)) (w.heap.size) 30 #[.int .i64 ao, .int .i64 az, .int .i64 ax, .int .i64 ay, .int .i64 aX, .int .i64 aY, .bool false, .int .i64 at_] := (A).alloc _
  have B9 : Blk (w2.alloc (.cells #[.int .i64 m, .int .i64 (min az bz), .int .i64 0, .int .i64 0, .int .i64 0, .int .i64 0, .bool true, .int .i64 (min at_ bt)] 30)) (w.heap.size + 1) 30 #[.int .i64 bo, .int .i64 bz, .int .i64 bx, .int .i64 by_, .int .i64 bX, .int .i64 bY, .bool true, .int .i64 bt] := (B).alloc _
  have R9 : Blk (w2.alloc (.cells #[.int .i64 m, .int .i64 (min az bz), .int .i64 0, .int .i64 0, .int .i64 0, .int .i64 0, .bool true, .int .i64 (min at_ bt)] 30)) (w.heap.size + 1 + 1) 30 #[.int .i64 0, .int .i64 0, .int .i64 0, .int .i64 0, .int .i64 0, .int .i64 0, .bool false, .int .i64 0] := (R).alloc _
  have C9 : Blk (w2.alloc (.cells #[.int .i64 m, .int .i64 (min az bz), .int .i64 0, .int .i64 0, .int .i64 0, .int .i64 0, .bool true, .int .i64 (min at_ bt)] 30)) (w2.heap.size) 30 #[.int .i64 m, .int .i64 (min az bz), .int .i64 0, .int .i64 0, .int .i64 0, .int .i64 0, .bool true, .int .i64 (min at_ bt)] := Blk.newAt (by simp)
  generalize w2.alloc (.cells #[.int .i64 m, .int .i64 (min az bz), .int .i64 0, .int .i64 0, .int .i64 0, .int .i64 0, .bool true, .int .i64 (min at_ bt)] 30) = w5 at hB9 A9 B9 R9 C9 ⊢
  clear kA0 kA1 kA2 kA3 kA4 kA5 kA6 kA7 kB0 kB1 kB2 kB3 kB4 kB5 kB6 kB7 zA zB zR
  clear hs hB A B R
  have hB := hB9
  clear hB9
  have A := A9
  clear A9
  have B := B9
  clear B9
  have R := R9
  clear R9
  have C := C9
  clear C9
  have kR0 := R.cell 0
  have kR1 := R.cell 1
  have kR2 := R.cell 2
  have kR3 := R.cell 3
  have kR4 := R.cell 4
  have kR5 := R.cell 5
  have kR6 := R.cell 6
  have kR7 := R.cell 7
  have kC0 := C.cell 0
  have kC1 := C.cell 1
  have kC2 := C.cell 2
  have kC3 := C.cell 3
  have kC4 := C.cell 4
  have kC5 := C.cell 5
  have kC6 := C.cell 6
  have kC7 := C.cell 7
  simp only [List.getElem?_toArray, List.getElem?_cons_zero, List.getElem?_cons_succ] at kR0 kR1 kR2 kR3 kR4 kR5 kR6 kR7 kC0 kC1 kC2 kC3 kC4 kC5 kC6 kC7
  have zA := A.lt
  have zB := B.lt
  have zR := R.lt
  have fR0 := R.frozen 0
  have fR1 := R.frozen 1
  have fR2 := R.frozen 2
  have fR3 := R.frozen 3
  have fR4 := R.frozen 4
  have fR5 := R.frozen 5
  have fR6 := R.frozen 6
  have fR7 := R.frozen 7
  have zC := C.lt
  go_wp2
  refine bodyPost_ret (v := .agg #[.int .i64 m, .int .i64 (min az bz), .int .i64 0, .int .i64 0, .int .i64 0, .int .i64 0, .bool true, .int .i64 (min at_ bt)]) ?_ rfl ⟨rfl, ?_⟩
  · simp [results, Try.results24, go_sem, *]
  · first | (go_grown; done) | exact below_drawn (by go_grown) _
set_option maxRecDepth 100000 in
set_option maxHeartbeats 4000000 in
theorem tmeet_apart (ao az ax ay aX aY at_ : Int) (bo bz bx by_ bX bY bt : Int) (m : Int) (hm : bits .and .i64 ao bo = m) (HA : Hid (∀ w, Calls Try.prog 25 #[.agg #[.int .i64 ao, .int .i64 az, .int .i64 ax, .int .i64 ay, .int .i64 aX, .int .i64 aY, .bool false, .int .i64 at_]] w fun e w' => e = .returned (.bool true) ∧ Below w.heap.size w w')) (HB : Hid (∀ w, Calls Try.prog 25 #[.agg #[.int .i64 bo, .int .i64 bz, .int .i64 bx, .int .i64 by_, .int .i64 bX, .int .i64 bY, .bool false, .int .i64 bt]] w fun e w' => e = .returned (.bool true) ∧ Below w.heap.size w w')) (HG : Hid (∀ w, Calls Try.prog 42 #[.agg #[.int .i64 ax, .int .i64 ay, .int .i64 aX, .int .i64 aY], .agg #[.int .i64 bx, .int .i64 by_, .int .i64 bX, .int .i64 bY]] w fun e w' => e = .returned (.tuple #[.agg #[.int .i64 0, .int .i64 0, .int .i64 0, .int .i64 0], .bool false]) ∧ Below w.heap.size w w')) (w : World) :
    Calls Try.prog 24 #[.agg #[.int .i64 ao, .int .i64 az, .int .i64 ax, .int .i64 ay, .int .i64 aX, .int .i64 aY, .bool false, .int .i64 at_], .agg #[.int .i64 bo, .int .i64 bz, .int .i64 bx, .int .i64 by_, .int .i64 bX, .int .i64 bY, .bool false, .int .i64 bt]] w fun e w' => e = .returned (.agg #[.int .i64 m, .int .i64 (min az bz), .int .i64 0, .int .i64 0, .int .i64 0, .int .i64 0, .bool true, .int .i64 (min at_ bt)]) ∧ Below w.heap.size w w' := by
  go_enter Try.func24, Try.ntmps24
  go_wp2_with fail
  refine (HA.out _).mono ?_
  rintro e w1 ⟨rfl, hb⟩
  have A : Blk w1 (w.heap.size) 30 #[.int .i64 ao, .int .i64 az, .int .i64 ax, .int .i64 ay, .int .i64 aX, .int .i64 aY, .bool false, .int .i64 at_] := Blk.thru0 (((Blk.newAt (by simp)).alloc _).alloc _) hb
  have B : Blk w1 (w.heap.size + 1) 30 #[.int .i64 bo, .int .i64 bz, .int .i64 bx, .int .i64 by_, .int .i64 bX, .int .i64 bY, .bool false, .int .i64 bt] := Blk.thru0 ((Blk.newAt (by simp)).alloc _) hb
  have R : Blk w1 (w.heap.size + 1 + 1) 30 #[.int .i64 0, .int .i64 0, .int .i64 0, .int .i64 0, .int .i64 0, .int .i64 0, .bool false, .int .i64 0] := Blk.thru0 (Blk.newAt (by simp)) hb
  have hB : Below w.heap.size w w1 := below_trans (by go_grown) hb
  have hszw1 := hb.size
  (try simp at hszw1)
  clear hb
  have kA0 := A.cell 0
  have kA1 := A.cell 1
  have kA2 := A.cell 2
  have kA3 := A.cell 3
  have kA4 := A.cell 4
  have kA5 := A.cell 5
  have kA6 := A.cell 6
  have kA7 := A.cell 7
  have kB0 := B.cell 0
  have kB1 := B.cell 1
  have kB2 := B.cell 2
  have kB3 := B.cell 3
  have kB4 := B.cell 4
  have kB5 := B.cell 5
  have kB6 := B.cell 6
  have kB7 := B.cell 7
  simp only [List.getElem?_toArray, List.getElem?_cons_zero, List.getElem?_cons_succ] at kA0 kA1 kA2 kA3 kA4 kA5 kA6 kA7 kB0 kB1 kB2 kB3 kB4 kB5 kB6 kB7
  have zA := A.lt
  have zB := B.lt
  have zR := R.lt
  go_wp2_with fail
  refine (HB.out _).mono ?_
  rintro e w2 ⟨rfl, hb⟩
  replace A : Blk w2 (w.heap.size) 30 #[.int .i64 ao, .int .i64 az, .int .i64 ax, .int .i64 ay, .int .i64 aX, .int .i64 aY, .bool false, .int .i64 at_] := Blk.thru0 (A) hb
  replace B : Blk w2 (w.heap.size + 1) 30 #[.int .i64 bo, .int .i64 bz, .int .i64 bx, .int .i64 by_, .int .i64 bX, .int .i64 bY, .bool false, .int .i64 bt] := Blk.thru0 (B) hb
  replace R : Blk w2 (w.heap.size + 1 + 1) 30 #[.int .i64 0, .int .i64 0, .int .i64 0, .int .i64 0, .int .i64 0, .int .i64 0, .bool false, .int .i64 0] := Blk.thru0 (R) hb
  have hs := hB.size
  replace hB : Below w.heap.size w w2 := below_trans (by go_grown) hb
  clear hs
  clear kA0 kA1 kA2 kA3 kA4 kA5 kA6 kA7 kB0 kB1 kB2 kB3 kB4 kB5 kB6 kB7 zA zB zR
  have hszw2 := hb.size
  (try simp at hszw2)
  clear hb
  have kA0 := A.cell 0
  have kA1 := A.cell 1
  have kA2 := A.cell 2
  have kA3 := A.cell 3
  have kA4 := A.cell 4
  have kA5 := A.cell 5
  have kA6 := A.cell 6
  have kA7 := A.cell 7
  have kB0 := B.cell 0
  have kB1 := B.cell 1
  have kB2 := B.cell 2
  have kB3 := B.cell 3
  have kB4 := B.cell 4
  have kB5 := B.cell 5
  have kB6 := B.cell 6
  have kB7 := B.cell 7
  simp only [List.getElem?_toArray, List.getElem?_cons_zero, List.getElem?_cons_succ] at kA0 kA1 kA2 kA3 kA4 kA5 kA6 kA7 kB0 kB1 kB2 kB3 kB4 kB5 kB6 kB7
  have zA := A.lt
  have zB := B.lt
  have zR := R.lt
  go_wp2_with fail
  refine (HG.out _).mono ?_
  rintro e w3 ⟨rfl, hb⟩
  replace A : Blk w3 (w.heap.size) 30 #[.int .i64 ao, .int .i64 az, .int .i64 ax, .int .i64 ay, .int .i64 aX, .int .i64 aY, .bool false, .int .i64 at_] := Blk.thru0 ((A).alloc _) hb
  replace B : Blk w3 (w.heap.size + 1) 30 #[.int .i64 bo, .int .i64 bz, .int .i64 bx, .int .i64 by_, .int .i64 bX, .int .i64 bY, .bool false, .int .i64 bt] := Blk.thru0 ((B).alloc _) hb
  replace R : Blk w3 (w.heap.size + 1 + 1) 30 #[.int .i64 0, .int .i64 0, .int .i64 0, .int .i64 0, .int .i64 0, .int .i64 0, .bool false, .int .i64 0] := Blk.thru0 ((R).alloc _) hb
  have C : Blk w3 (w2.heap.size) 30 #[.int .i64 m, .int .i64 (min az bz), .int .i64 0, .int .i64 0, .int .i64 0, .int .i64 0, .bool true, .int .i64 (min at_ bt)] := Blk.thru0 (Blk.newAt (by simp)) hb
  have hs := hB.size
  replace hB : Below w.heap.size w w3 := below_trans (by go_grown) hb
  clear hs
  clear kA0 kA1 kA2 kA3 kA4 kA5 kA6 kA7 kB0 kB1 kB2 kB3 kB4 kB5 kB6 kB7 zA zB zR
  have hszw3 := hb.size
  (try simp at hszw3)
  clear hb
  have kR0 := R.cell 0
  have kR1 := R.cell 1
  have kR2 := R.cell 2
  have kR3 := R.cell 3
  have kR4 := R.cell 4
  have kR5 := R.cell 5
  have kR6 := R.cell 6
  have kR7 := R.cell 7
  have kC0 := C.cell 0
  have kC1 := C.cell 1
  have kC2 := C.cell 2
  have kC3 := C.cell 3
  have kC4 := C.cell 4
  have kC5 := C.cell 5
  have kC6 := C.cell 6
  have kC7 := C.cell 7
  simp only [List.getElem?_toArray, List.getElem?_cons_zero, List.getElem?_cons_succ] at kR0 kR1 kR2 kR3 kR4 kR5 kR6 kR7 kC0 kC1 kC2 kC3 kC4 kC5 kC6 kC7
  have zA := A.lt
  have zB := B.lt
  have zR := R.lt
  have fR0 := R.frozen 0
  have fR1 := R.frozen 1
  have fR2 := R.frozen 2
  have fR3 := R.frozen 3
  have fR4 := R.frozen 4
  have fR5 := R.frozen 5
  have fR6 := R.frozen 6
  have fR7 := R.frozen 7
  have zC := C.lt
  have fC0 := C.frozen 0
  have fC1 := C.frozen 1
  have fC2 := C.frozen 2
  have fC3 := C.frozen 3
  have fC4 := C.frozen 4
  have fC5 := C.frozen 5
  have fC6 := C.frozen 6
  have fC7 := C.frozen 7
  go_upto_region 9 with fail
  have hs := hB.size
  have hB9 : Below w.heap.size w (w3.alloc (.cells #[.int .i64 0, .int .i64 0, .int .i64 0, .int .i64 0] 28)) := by go_grown
  have A9 : Blk (w3.alloc (.cells #[.int .i64 0, .int .i64 0, .int .i64 0, .int .i64 0] 28)) (w.heap.size) 30 #[.int .i64 ao, .int .i64 az, .int .i64 ax, .int .i64 ay, .int .i64 aX, .int .i64 aY, .bool false, .int .i64 at_] := (A).alloc _
  have B9 : Blk (w3.alloc (.cells #[.int .i64 0, .int .i64 0, .int .i64 0, .int .i64 0] 28)) (w.heap.size + 1) 30 #[.int .i64 bo, .int .i64 bz, .int .i64 bx, .int .i64 by_, .int .i64 bX, .int .i64 bY, .bool false, .int .i64 bt] := (B).alloc _
  have R9 : Blk (w3.alloc (.cells #[.int .i64 0, .int .i64 0, .int .i64 0, .int .i64 0] 28)) (w.heap.size + 1 + 1) 30 #[.int .i64 0, .int .i64 0, .int .i64 0, .int .i64 0, .int .i64 0, .int .i64 0, .bool false, .int .i64 0] := (R).alloc _
  have C9 : Blk (w3.alloc (.cells #[.int .i64 0, .int .i64 0, .int .i64 0, .int .i64 0] 28)) (w2.heap.size) 30 #[.int .i64 m, .int .i64 (min az bz), .int .i64 0, .int .i64 0, .int .i64 0, .int .i64 0, .bool true, .int .i64 (min at_ bt)] := (C).alloc _
  have T9 : Blk (w3.alloc (.cells #[.int .i64 0, .int .i64 0, .int .i64 0, .int .i64 0] 28)) (w3.heap.size) 28 #[.int .i64 0, .int .i64 0, .int .i64 0, .int .i64 0] := Blk.newAt (by simp)
  generalize w3.alloc (.cells #[.int .i64 0, .int .i64 0, .int .i64 0, .int .i64 0] 28) = w9 at hB9 A9 B9 R9 C9 T9 ⊢
  clear kR0 kR1 kR2 kR3 kR4 kR5 kR6 kR7 kC0 kC1 kC2 kC3 kC4 kC5 kC6 kC7 zA zB zR fR0 fR1 fR2 fR3 fR4 fR5 fR6 fR7 zC fC0 fC1 fC2 fC3 fC4 fC5 fC6 fC7
  clear hs hB A B R C
  have hB := hB9
  clear hB9
  have A := A9
  clear A9
  have B := B9
  clear B9
  have R := R9
  clear R9
  have C := C9
  clear C9
  have T := T9
  clear T9
  have kR0 := R.cell 0
  have kR1 := R.cell 1
  have kR2 := R.cell 2
  have kR3 := R.cell 3
  have kR4 := R.cell 4
  have kR5 := R.cell 5
  have kR6 := R.cell 6
  have kR7 := R.cell 7
  have kC0 := C.cell 0
  have kC1 := C.cell 1
  have kC2 := C.cell 2
  have kC3 := C.cell 3
  have kC4 := C.cell 4
  have kC5 := C.cell 5
  have kC6 := C.cell 6
  have kC7 := C.cell 7
  simp only [List.getElem?_toArray, List.getElem?_cons_zero, List.getElem?_cons_succ] at kR0 kR1 kR2 kR3 kR4 kR5 kR6 kR7 kC0 kC1 kC2 kC3 kC4 kC5 kC6 kC7
  have zA := A.lt
  have zB := B.lt
  have zR := R.lt
  have fR0 := R.frozen 0
  have fR1 := R.frozen 1
  have fR2 := R.frozen 2
  have fR3 := R.frozen 3
  have fR4 := R.frozen 4
  have fR5 := R.frozen 5
  have fR6 := R.frozen 6
  have fR7 := R.frozen 7
  have zC := C.lt
  have fC0 := C.frozen 0
  have fC1 := C.frozen 1
  have fC2 := C.frozen 2
  have fC3 := C.frozen 3
  have fC4 := C.frozen 4
  have fC5 := C.frozen 5
  have fC6 := C.frozen 6
  have fC7 := C.frozen 7
  have zT := T.lt
  go_wp2
  refine bodyPost_ret (v := .agg #[.int .i64 m, .int .i64 (min az bz), .int .i64 0, .int .i64 0, .int .i64 0, .int .i64 0, .bool true, .int .i64 (min at_ bt)]) ?_ rfl ⟨rfl, ?_⟩
  · simp [results, Try.results24, go_sem, *]
  · first | (go_grown; done) | exact below_drawn (by go_grown) _
set_option maxRecDepth 100000 in
set_option maxHeartbeats 4000000 in
theorem tmeet_both (x y X Y : Int) (ao az ax ay aX aY at_ : Int) (bo bz bx by_ bX bY bt : Int) (m : Int) (hm : bits .and .i64 ao bo = m) (HA : Hid (∀ w, Calls Try.prog 25 #[.agg #[.int .i64 ao, .int .i64 az, .int .i64 ax, .int .i64 ay, .int .i64 aX, .int .i64 aY, .bool false, .int .i64 at_]] w fun e w' => e = .returned (.bool true) ∧ Below w.heap.size w w')) (HB : Hid (∀ w, Calls Try.prog 25 #[.agg #[.int .i64 bo, .int .i64 bz, .int .i64 bx, .int .i64 by_, .int .i64 bX, .int .i64 bY, .bool false, .int .i64 bt]] w fun e w' => e = .returned (.bool true) ∧ Below w.heap.size w w')) (HG : Hid (∀ w, Calls Try.prog 42 #[.agg #[.int .i64 ax, .int .i64 ay, .int .i64 aX, .int .i64 aY], .agg #[.int .i64 bx, .int .i64 by_, .int .i64 bX, .int .i64 bY]] w fun e w' => e = .returned (.tuple #[.agg #[.int .i64 x, .int .i64 y, .int .i64 X, .int .i64 Y], .bool true]) ∧ Below w.heap.size w w')) (w : World) :
    Calls Try.prog 24 #[.agg #[.int .i64 ao, .int .i64 az, .int .i64 ax, .int .i64 ay, .int .i64 aX, .int .i64 aY, .bool false, .int .i64 at_], .agg #[.int .i64 bo, .int .i64 bz, .int .i64 bx, .int .i64 by_, .int .i64 bX, .int .i64 bY, .bool false, .int .i64 bt]] w fun e w' => e = .returned (.agg #[.int .i64 m, .int .i64 (min az bz), .int .i64 x, .int .i64 y, .int .i64 X, .int .i64 Y, .bool false, .int .i64 (min at_ bt)]) ∧ Below w.heap.size w w' := by
  go_enter Try.func24, Try.ntmps24
  go_wp2_with fail
  refine (HA.out _).mono ?_
  rintro e w1 ⟨rfl, hb⟩
  have A : Blk w1 (w.heap.size) 30 #[.int .i64 ao, .int .i64 az, .int .i64 ax, .int .i64 ay, .int .i64 aX, .int .i64 aY, .bool false, .int .i64 at_] := Blk.thru0 (((Blk.newAt (by simp)).alloc _).alloc _) hb
  have B : Blk w1 (w.heap.size + 1) 30 #[.int .i64 bo, .int .i64 bz, .int .i64 bx, .int .i64 by_, .int .i64 bX, .int .i64 bY, .bool false, .int .i64 bt] := Blk.thru0 ((Blk.newAt (by simp)).alloc _) hb
  have R : Blk w1 (w.heap.size + 1 + 1) 30 #[.int .i64 0, .int .i64 0, .int .i64 0, .int .i64 0, .int .i64 0, .int .i64 0, .bool false, .int .i64 0] := Blk.thru0 (Blk.newAt (by simp)) hb
  have hB : Below w.heap.size w w1 := below_trans (by go_grown) hb
  have hszw1 := hb.size
  (try simp at hszw1)
  clear hb
  have kA0 := A.cell 0
  have kA1 := A.cell 1
  have kA2 := A.cell 2
  have kA3 := A.cell 3
  have kA4 := A.cell 4
  have kA5 := A.cell 5
  have kA6 := A.cell 6
  have kA7 := A.cell 7
  have kB0 := B.cell 0
  have kB1 := B.cell 1
  have kB2 := B.cell 2
  have kB3 := B.cell 3
  have kB4 := B.cell 4
  have kB5 := B.cell 5
  have kB6 := B.cell 6
  have kB7 := B.cell 7
  simp only [List.getElem?_toArray, List.getElem?_cons_zero, List.getElem?_cons_succ] at kA0 kA1 kA2 kA3 kA4 kA5 kA6 kA7 kB0 kB1 kB2 kB3 kB4 kB5 kB6 kB7
  have zA := A.lt
  have zB := B.lt
  have zR := R.lt
  go_wp2_with fail
  refine (HB.out _).mono ?_
  rintro e w2 ⟨rfl, hb⟩
  replace A : Blk w2 (w.heap.size) 30 #[.int .i64 ao, .int .i64 az, .int .i64 ax, .int .i64 ay, .int .i64 aX, .int .i64 aY, .bool false, .int .i64 at_] := Blk.thru0 (A) hb
  replace B : Blk w2 (w.heap.size + 1) 30 #[.int .i64 bo, .int .i64 bz, .int .i64 bx, .int .i64 by_, .int .i64 bX, .int .i64 bY, .bool false, .int .i64 bt] := Blk.thru0 (B) hb
  replace R : Blk w2 (w.heap.size + 1 + 1) 30 #[.int .i64 0, .int .i64 0, .int .i64 0, .int .i64 0, .int .i64 0, .int .i64 0, .bool false, .int .i64 0] := Blk.thru0 (R) hb
  have hs := hB.size
  replace hB : Below w.heap.size w w2 := below_trans (by go_grown) hb
  clear hs
  clear kA0 kA1 kA2 kA3 kA4 kA5 kA6 kA7 kB0 kB1 kB2 kB3 kB4 kB5 kB6 kB7 zA zB zR
  have hszw2 := hb.size
  (try simp at hszw2)
  clear hb
  have kA0 := A.cell 0
  have kA1 := A.cell 1
  have kA2 := A.cell 2
  have kA3 := A.cell 3
  have kA4 := A.cell 4
  have kA5 := A.cell 5
  have kA6 := A.cell 6
  have kA7 := A.cell 7
  have kB0 := B.cell 0
  have kB1 := B.cell 1
  have kB2 := B.cell 2
  have kB3 := B.cell 3
  have kB4 := B.cell 4
  have kB5 := B.cell 5
  have kB6 := B.cell 6
  have kB7 := B.cell 7
  simp only [List.getElem?_toArray, List.getElem?_cons_zero, List.getElem?_cons_succ] at kA0 kA1 kA2 kA3 kA4 kA5 kA6 kA7 kB0 kB1 kB2 kB3 kB4 kB5 kB6 kB7
  have zA := A.lt
  have zB := B.lt
  have zR := R.lt
  have hne : w.heap.size + 1 + 1 < w2.heap.size := R.lt
  go_wp2_with fail
  refine (HG.out _).mono ?_
  rintro e w3 ⟨rfl, hb⟩
  replace A : Blk w3 (w.heap.size) 30 #[.int .i64 ao, .int .i64 az, .int .i64 ax, .int .i64 ay, .int .i64 aX, .int .i64 aY, .bool false, .int .i64 at_] := Blk.thru0 ((A).alloc _) hb
  replace B : Blk w3 (w.heap.size + 1) 30 #[.int .i64 bo, .int .i64 bz, .int .i64 bx, .int .i64 by_, .int .i64 bX, .int .i64 bY, .bool false, .int .i64 bt] := Blk.thru0 ((B).alloc _) hb
  replace R : Blk w3 (w.heap.size + 1 + 1) 30 #[.int .i64 0, .int .i64 0, .int .i64 0, .int .i64 0, .int .i64 0, .int .i64 0, .bool false, .int .i64 0] := Blk.thru0 ((R).alloc _) hb
  have C : Blk w3 (w2.heap.size) 30 #[.int .i64 m, .int .i64 (min az bz), .int .i64 0, .int .i64 0, .int .i64 0, .int .i64 0, .bool true, .int .i64 (min at_ bt)] := Blk.thru0 (Blk.newAt (by simp)) hb
  have hs := hB.size
  replace hB : Below w.heap.size w w3 := below_trans (by go_grown) hb
  clear hs
  clear kA0 kA1 kA2 kA3 kA4 kA5 kA6 kA7 kB0 kB1 kB2 kB3 kB4 kB5 kB6 kB7 zA zB zR
  have hszw3 := hb.size
  (try simp at hszw3)
  clear hb
  have kC0 := C.cell 0
  have kC1 := C.cell 1
  have kC2 := C.cell 2
  have kC3 := C.cell 3
  have kC4 := C.cell 4
  have kC5 := C.cell 5
  have kC6 := C.cell 6
  have kC7 := C.cell 7
  simp only [List.getElem?_toArray, List.getElem?_cons_zero, List.getElem?_cons_succ] at kC0 kC1 kC2 kC3 kC4 kC5 kC6 kC7
  have zA := A.lt
  have zB := B.lt
  have zR := R.lt
  have zC := C.lt
  have fC0 := C.frozen 0
  have fC1 := C.frozen 1
  have fC2 := C.frozen 2
  have fC3 := C.frozen 3
  have fC4 := C.frozen 4
  have fC5 := C.frozen 5
  have fC6 := C.frozen 6
  have fC7 := C.frozen 7
  go_upto_region 8 with fail
  have hs := hB.size
  have hB9 : Below w.heap.size w (w3.alloc (.cells #[.int .i64 x, .int .i64 y, .int .i64 X, .int .i64 Y] 28)) := by go_grown
  have A9 : Blk (w3.alloc (.cells #[.int .i64 x, .int .i64 y, .int .i64 X, .int .i64 Y] 28)) (w.heap.size) 30 #[.int .i64 ao, .int .i64 az, .int .i64 ax, .int .i64 ay, .int .i64 aX, .int .i64 aY, .bool false, .int .i64 at_] := (A).alloc _
  have B9 : Blk (w3.alloc (.cells #[.int .i64 x, .int .i64 y, .int .i64 X, .int .i64 Y] 28)) (w.heap.size + 1) 30 #[.int .i64 bo, .int .i64 bz, .int .i64 bx, .int .i64 by_, .int .i64 bX, .int .i64 bY, .bool false, .int .i64 bt] := (B).alloc _
  have R9 : Blk (w3.alloc (.cells #[.int .i64 x, .int .i64 y, .int .i64 X, .int .i64 Y] 28)) (w.heap.size + 1 + 1) 30 #[.int .i64 0, .int .i64 0, .int .i64 0, .int .i64 0, .int .i64 0, .int .i64 0, .bool false, .int .i64 0] := (R).alloc _
  have C9 : Blk (w3.alloc (.cells #[.int .i64 x, .int .i64 y, .int .i64 X, .int .i64 Y] 28)) (w2.heap.size) 30 #[.int .i64 m, .int .i64 (min az bz), .int .i64 0, .int .i64 0, .int .i64 0, .int .i64 0, .bool true, .int .i64 (min at_ bt)] := (C).alloc _
  have T9 : Blk (w3.alloc (.cells #[.int .i64 x, .int .i64 y, .int .i64 X, .int .i64 Y] 28)) (w3.heap.size) 28 #[.int .i64 x, .int .i64 y, .int .i64 X, .int .i64 Y] := Blk.newAt (by simp)
  generalize w3.alloc (.cells #[.int .i64 x, .int .i64 y, .int .i64 X, .int .i64 Y] 28) = w8 at hB9 A9 B9 R9 C9 T9 ⊢
  clear kC0 kC1 kC2 kC3 kC4 kC5 kC6 kC7 zA zB zR zC fC0 fC1 fC2 fC3 fC4 fC5 fC6 fC7
  clear hs hB A B R C
  have hB := hB9
  clear hB9
  have A := A9
  clear A9
  have B := B9
  clear B9
  have R := R9
  clear R9
  have C := C9
  clear C9
  have T := T9
  clear T9
  have kC0 := C.cell 0
  have kC1 := C.cell 1
  have kC2 := C.cell 2
  have kC3 := C.cell 3
  have kC4 := C.cell 4
  have kC5 := C.cell 5
  have kC6 := C.cell 6
  have kC7 := C.cell 7
  have kT0 := T.cell 0
  have kT1 := T.cell 1
  have kT2 := T.cell 2
  have kT3 := T.cell 3
  simp only [List.getElem?_toArray, List.getElem?_cons_zero, List.getElem?_cons_succ] at kC0 kC1 kC2 kC3 kC4 kC5 kC6 kC7 kT0 kT1 kT2 kT3
  have zA := A.lt
  have zB := B.lt
  have zR := R.lt
  have zC := C.lt
  have fC0 := C.frozen 0
  have fC1 := C.frozen 1
  have fC2 := C.frozen 2
  have fC3 := C.frozen 3
  have fC4 := C.frozen 4
  have fC5 := C.frozen 5
  have fC6 := C.frozen 6
  have fC7 := C.frozen 7
  have zT := T.lt
  go_upto_region 9 with fail
  clear kC0 kC1 kC2 kC3 kC4 kC5 kC6 kC7 kT0 kT1 kT2 kT3 zA zB zR zC fC0 fC1 fC2 fC3 fC4 fC5 fC6 fC7 zT
  have C9 : Blk (((((w8.setCell ⟨w2.heap.size, 2, none⟩ (.int .i64 x)).setCell ⟨w2.heap.size, 3, none⟩ (.int .i64 y)).setCell ⟨w2.heap.size, 4, none⟩ (.int .i64 X)).setCell ⟨w2.heap.size, 5, none⟩ (.int .i64 Y)).setCell ⟨w2.heap.size, 6, none⟩ (.bool false)) w2.heap.size 30 #[.int .i64 m, .int .i64 (min az bz), .int .i64 x, .int .i64 y, .int .i64 X, .int .i64 Y, .bool false, .int .i64 (min at_ bt)] := by have h9 := ((((C.set_ 2 (.int .i64 x)).set_ 3 (.int .i64 y)).set_ 4 (.int .i64 X)).set_ 5 (.int .i64 Y)).set_ 6 (.bool false); simpa using h9
  have R9 : Blk (((((w8.setCell ⟨w2.heap.size, 2, none⟩ (.int .i64 x)).setCell ⟨w2.heap.size, 3, none⟩ (.int .i64 y)).setCell ⟨w2.heap.size, 4, none⟩ (.int .i64 X)).setCell ⟨w2.heap.size, 5, none⟩ (.int .i64 Y)).setCell ⟨w2.heap.size, 6, none⟩ (.bool false)) (w.heap.size + 1 + 1) 30 #[.int .i64 0, .int .i64 0, .int .i64 0, .int .i64 0, .int .i64 0, .int .i64 0, .bool false, .int .i64 0] := (((((R.far (p := ⟨w2.heap.size, 2, none⟩) (show w.heap.size + 1 + 1 ≠ w2.heap.size by omega) (.int .i64 x)).far (p := ⟨w2.heap.size, 3, none⟩) (show w.heap.size + 1 + 1 ≠ w2.heap.size by omega) (.int .i64 y)).far (p := ⟨w2.heap.size, 4, none⟩) (show w.heap.size + 1 + 1 ≠ w2.heap.size by omega) (.int .i64 X)).far (p := ⟨w2.heap.size, 5, none⟩) (show w.heap.size + 1 + 1 ≠ w2.heap.size by omega) (.int .i64 Y)).far (p := ⟨w2.heap.size, 6, none⟩) (show w.heap.size + 1 + 1 ≠ w2.heap.size by omega) (.bool false))
  have hB9 : Below w.heap.size w (((((w8.setCell ⟨w2.heap.size, 2, none⟩ (.int .i64 x)).setCell ⟨w2.heap.size, 3, none⟩ (.int .i64 y)).setCell ⟨w2.heap.size, 4, none⟩ (.int .i64 X)).setCell ⟨w2.heap.size, 5, none⟩ (.int .i64 Y)).setCell ⟨w2.heap.size, 6, none⟩ (.bool false)) := by go_grown
  generalize (((((w8.setCell ⟨w2.heap.size, 2, none⟩ (.int .i64 x)).setCell ⟨w2.heap.size, 3, none⟩ (.int .i64 y)).setCell ⟨w2.heap.size, 4, none⟩ (.int .i64 X)).setCell ⟨w2.heap.size, 5, none⟩ (.int .i64 Y)).setCell ⟨w2.heap.size, 6, none⟩ (.bool false)) = w9 at C9 R9 hB9 ⊢
  clear C R hB A B T
  have hB := hB9
  clear hB9
  have kC90 := C9.cell 0
  have kC91 := C9.cell 1
  have kC92 := C9.cell 2
  have kC93 := C9.cell 3
  have kC94 := C9.cell 4
  have kC95 := C9.cell 5
  have kC96 := C9.cell 6
  have kC97 := C9.cell 7
  have kR90 := R9.cell 0
  have kR91 := R9.cell 1
  have kR92 := R9.cell 2
  have kR93 := R9.cell 3
  have kR94 := R9.cell 4
  have kR95 := R9.cell 5
  have kR96 := R9.cell 6
  have kR97 := R9.cell 7
  simp only [List.getElem?_toArray, List.getElem?_cons_zero, List.getElem?_cons_succ] at kC90 kC91 kC92 kC93 kC94 kC95 kC96 kC97 kR90 kR91 kR92 kR93 kR94 kR95 kR96 kR97
  have zC9 := C9.lt
  have zR9 := R9.lt
  have fR90 := R9.frozen 0
  have fR91 := R9.frozen 1
  have fR92 := R9.frozen 2
  have fR93 := R9.frozen 3
  have fR94 := R9.frozen 4
  have fR95 := R9.frozen 5
  have fR96 := R9.frozen 6
  have fR97 := R9.frozen 7
  go_wp2
  refine bodyPost_ret (v := .agg #[.int .i64 m, .int .i64 (min az bz), .int .i64 x, .int .i64 y, .int .i64 X, .int .i64 Y, .bool false, .int .i64 (min at_ bt)]) ?_ rfl ⟨rfl, ?_⟩
  · simp [results, Try.results24, go_sem, *]
  · first | (go_grown; done) | exact below_drawn (by go_grown) _
end Go.Proofs.Ytmlmndaflgfdkaa
