/- cell.boxAt, Snap by contract. -/
import Derived.Test.YtpbnbnhmlpjbjaaCellAbove
import Derived.Test.YtpbnbnhmlpjbjaaCellBox
import Derived.Test.YtpbnbnhmlpjbjaaGeomArea
import Derived.Test.YtpbnbnhmlpjbjaaBlk
namespace Go.Proofs.Ytpbnbnhmlpjbjaa
set_option linter.unusedVariables false
set_option linter.unusedSimpArgs false
open Go.RowKit
theorem cof_at (l : Nat) (x y : Int) (hl : l ≤ 16) (h : fitsB x y = true) (w : World) : Calls Try.prog 12 #[.agg #[.int .i64 x, .int .i64 y], .int .i64 (l : Int)] w fun e w' => e = .returned (.tuple #[.agg #[.int .i64 (l : Int), .int .i64 (x / 2 ^ (16 - l)), .int .i64 (y / 2 ^ (16 - l))], .bool true]) ∧ Below w.heap.size w w' := by
  have hk : okA 16 x y (l : Int) = true := by
    have h1 := (fitsB_iff _ _).1 h
    have h2 : okC 16 x y = true := (okC_iff _ _ _).2 (by simp; omega)
    rw [okA, h2, show decide (0 ≤ (l : Int) ∧ (l : Int) ≤ 16) = true from decide_eq_true (by omega)]; rfl
  have := cof_u x y l w
  have e : ((16 : Int) - l).toNat = 16 - l := by omega
  simpa [a0, a1, a2, hk, e] using this
theorem of_okC (l : Nat) (x y : Int) (hl : l ≤ 16) (h : fitsB x y = true) : okC (l : Int) (x / 2 ^ (16 - l)) (y / 2 ^ (16 - l)) = true := by
  have h1 := (fitsB_iff _ _).1 h
  have hx := div_bd 16 (16 - l) (by omega) x (by omega) (by omega)
  have hy := div_bd 16 (16 - l) (by omega) y (by omega) (by omega)
  rw [show 16 - (16 - l) = l by omega] at hx hy
  refine (okC_iff _ _ _).2 ⟨by omega, by omega, hx.1, ?_, hy.1, ?_⟩
  · simpa using hx.2
  · simpa using hy.2
set_option maxHeartbeats 1000000 in
theorem boxat_any (l : Nat) (x y s : Int) (hl : l ≤ 16) (h : fitsB x y = true) (hs : (2 : Int) ^ (16 - l) = s) (w : World) :
    Calls Try.prog 53 #[.agg #[.int .i64 x, .int .i64 y], .int .i64 (l : Int)] w fun e w' => e = .returned (.agg #[.int .i64 (x / s * s), .int .i64 (y / s * s), .int .i64 (x / s * s + s - 1), .int .i64 (y / s * s + s - 1)]) ∧ Below w.heap.size w w' := by
  have hb1 := cof_at l x y hl h
  have hok := of_okC l x y hl h
  have hbx := cbox_yes l (x / 2 ^ (16 - l)) (y / 2 ^ (16 - l)) s hl hok hs
  rw [hs] at hb1 hbx
  have HB1 := Lib.hid hb1
  have HBX := Lib.hid hbx
  clear hb1 hbx hok hs
  go_enter Try.func53, Try.ntmps53
  go_wp2_with fail
  refine (HB1.out _).mono ?_
  rintro e w1 ⟨rfl, hb⟩
  have P : Blk w1 (w.heap.size) 25 #[.int .i64 x, .int .i64 y] := Blk.thru0 ((Blk.newAt (by simp)).alloc _) hb
  have R : Blk w1 (w.heap.size + 1) 29 #[.int .i64 0, .int .i64 0, .int .i64 0, .int .i64 0] := Blk.thru0 (Blk.newAt (by simp)) hb
  have hB : Below w.heap.size w w1 := below_trans (by go_grown) hb
  have hsz := hb.size
  (try simp at hsz)
  clear hb
  have kP0 := P.cell 0
  have kP1 := P.cell 1
  have kR0 := R.cell 0
  have kR1 := R.cell 1
  have kR2 := R.cell 2
  have kR3 := R.cell 3
  simp only [List.getElem?_toArray, List.getElem?_cons_zero, List.getElem?_cons_succ] at kP0 kP1 kR0 kR1 kR2 kR3
  have zP := P.lt
  have zR := R.lt
  go_wp2_with fail
  refine (HBX.out _).mono ?_
  rintro e w2 ⟨rfl, hb⟩
  replace P : Blk w2 (w.heap.size) 25 #[.int .i64 x, .int .i64 y] := Blk.thru0 ((P).alloc _) hb
  replace R : Blk w2 (w.heap.size + 1) 29 #[.int .i64 0, .int .i64 0, .int .i64 0, .int .i64 0] := Blk.thru0 ((R).alloc _) hb
  have C : Blk w2 (w1.heap.size) 23 #[.int .i64 (l : Int), .int .i64 (x / s), .int .i64 (y / s)] := Blk.thru0 (Blk.newAt (by simp)) hb
  have hs := hB.size
  replace hB : Below w.heap.size w w2 := below_trans (by go_grown) hb
  clear hs
  have hsz := hb.size
  (try simp at hsz)
  clear hb
  clear kP0 kP1 kR0 kR1 kR2 kR3 zP zR hsz
  have kP0 := P.cell 0
  have kP1 := P.cell 1
  have kR0 := R.cell 0
  have kR1 := R.cell 1
  have kR2 := R.cell 2
  have kR3 := R.cell 3
  have kC0 := C.cell 0
  have kC1 := C.cell 1
  have kC2 := C.cell 2
  simp only [List.getElem?_toArray, List.getElem?_cons_zero, List.getElem?_cons_succ] at kP0 kP1 kR0 kR1 kR2 kR3 kC0 kC1 kC2
  have zP := P.lt
  have zR := R.lt
  have fR0 := R.frozen 0
  have fR1 := R.frozen 1
  have fR2 := R.frozen 2
  have fR3 := R.frozen 3
  have zC := C.lt
  go_wp2
  refine bodyPost_ret (v := .agg #[.int .i64 (x / s * s), .int .i64 (y / s * s), .int .i64 (x / s * s + s - 1), .int .i64 (y / s * s + s - 1)]) ?_ rfl ⟨rfl, ?_⟩
  · simp [results, Try.results53, go_sem, *]
  · first | (go_grown; done) | exact below_drawn (by go_grown) _
theorem snap_math (l : Nat) (a c s : Int) (hl : l ≤ 16) (h0 : 0 ≤ a) (h1 : a ≤ c) (h2 : c ≤ 65535) (hs : (2 : Int) ^ (16 - l) = s) : 0 < s ∧ s ≤ 65536 ∧ 0 ≤ a / s * s ∧ a / s * s ≤ c / s * s ∧ c / s * s + s ≤ 65536 ∧ a / s * s ≤ a ∧ c < c / s * s + s ∧ a < a / s * s + s ∧ c / s * s ≤ c := by
  have sp := pow_pos' (16 - l)
  have sl := pow_le16 (16 - l) (by omega)
  have hd := div_bd 16 (16 - l) (by omega) c (by omega) (by omega)
  have hm := side_mul l hl
  rw [show 16 - (16 - l) = l by omega] at hd
  rw [hs] at sp sl hd hm
  have e1 := Int.emod_add_mul_ediv a s
  have e2 := Int.emod_add_mul_ediv c s
  have m1 := Int.emod_nonneg a (show s ≠ 0 by omega)
  have m2 := Int.emod_lt_of_pos a sp
  have m3 := Int.emod_nonneg c (show s ≠ 0 by omega)
  have m4 := Int.emod_lt_of_pos c sp
  rw [Int.mul_comm s] at e1 e2
  have h3 : (c / s + 1) * s ≤ 2 ^ l * s := Int.mul_le_mul_of_nonneg_right (by omega) (by omega)
  have h4 : a / s * s ≤ c / s * s := Int.mul_le_mul_of_nonneg_right (Int.ediv_le_ediv sp h1) (by omega)
  have h5 : 0 ≤ a / s * s := Int.mul_nonneg (Int.ediv_nonneg h0 (by omega)) (by omega)
  rw [hm, Int.add_mul, Int.one_mul] at h3
  generalize a / s * s = A at *
  generalize c / s * s = B at *
  omega
theorem hull_snap (l : Nat) (a b c d s : Int) (hl : l ≤ 16) (h : rightB a b c d = true) (hs : (2 : Int) ^ (16 - l) = s) (w : World) :
    Calls Try.prog 54 #[.agg #[.int .i64 (a / s * s), .int .i64 (b / s * s), .int .i64 (a / s * s + s - 1), .int .i64 (b / s * s + s - 1)], .agg #[.int .i64 (c / s * s), .int .i64 (d / s * s), .int .i64 (c / s * s + s - 1), .int .i64 (d / s * s + s - 1)]] w fun e w' => e = .returned (.agg #[.int .i64 (a / s * s), .int .i64 (b / s * s), .int .i64 (c / s * s + s - 1), .int .i64 (d / s * s + s - 1)]) ∧ Below w.heap.size w w' := by
  have hr := (rightB_iff _ _ _ _).1 h
  have hx := snap_math l a c s hl (by omega) (by omega) (by omega) hs
  have hy := snap_math l b d s hl (by omega) (by omega) (by omega) hs
  generalize a / s * s = A at *
  generalize b / s * s = B at *
  generalize c / s * s = C at *
  generalize d / s * s = D at *
  have h1 : rightB A B (A + s - 1) (B + s - 1) = true := (rightB_iff _ _ _ _).2 (by omega)
  have h2 : rightB C D (C + s - 1) (D + s - 1) = true := (rightB_iff _ _ _ _).2 (by omega)
  have := hull_yes _ _ _ _ _ _ _ _ h1 h2 w
  rwa [show min A C = A by omega, show min B D = B by omega, show max (A + s - 1) (C + s - 1) = C + s - 1 by omega, show max (B + s - 1) (D + s - 1) = D + s - 1 by omega] at this
set_option maxHeartbeats 1000000 in
theorem snap_yes (l : Nat) (a b c d s : Int) (hl : l ≤ 16) (h : rightB a b c d = true) (hs : (2 : Int) ^ (16 - l) = s) (w : World) :
    Calls Try.prog 31 #[.agg #[.int .i64 a, .int .i64 b, .int .i64 c, .int .i64 d], .int .i64 (l : Int)] w fun e w' => e = .returned (.tuple #[.agg #[.int .i64 (a / s * s), .int .i64 (b / s * s), .int .i64 (c / s * s + s - 1), .int .i64 (d / s * s + s - 1)], .bool true]) ∧ Below w.heap.size w w' := by
  have hr := (rightB_iff _ _ _ _).1 h
  have hlv : levB (l : Int) = true := (levB_iff _).2 (by omega)
  have HA := Lib.hid (boxat_any l a b s hl ((fitsB_iff _ _).2 (by omega)) hs)
  have HC := Lib.hid (boxat_any l c d s hl ((fitsB_iff _ _).2 (by omega)) hs)
  have HH := Lib.hid (hull_snap l a b c d s hl h hs)
  clear hs hr
  go_enter Try.func31, Try.ntmps31
  go_wp2_with fail
  refine (right_any _ _ _ _ _).mono ?_
  rintro e w1 ⟨rfl, hb⟩
  have P : Blk w1 (w.heap.size) 29 #[.int .i64 a, .int .i64 b, .int .i64 c, .int .i64 d] := Blk.thru0 ((Blk.newAt (by simp)).alloc _) hb
  have R : Blk w1 (w.heap.size + 1) 29 #[.int .i64 0, .int .i64 0, .int .i64 0, .int .i64 0] := Blk.thru0 (Blk.newAt (by simp)) hb
  have hB : Below w.heap.size w w1 := below_trans (by go_grown) hb
  have hsz := hb.size
  (try simp at hsz)
  clear hb
  have kP0 := P.cell 0
  have kP1 := P.cell 1
  have kP2 := P.cell 2
  have kP3 := P.cell 3
  have kR0 := R.cell 0
  have kR1 := R.cell 1
  have kR2 := R.cell 2
  have kR3 := R.cell 3
  simp only [List.getElem?_toArray, List.getElem?_cons_zero, List.getElem?_cons_succ] at kP0 kP1 kP2 kP3 kR0 kR1 kR2 kR3
  have zP := P.lt
  have zR := R.lt
  have fR0 := R.frozen 0
  have fR1 := R.frozen 1
  have fR2 := R.frozen 2
  have fR3 := R.frozen 3
  go_wp2_with fail
  refine (islevel_any _ _).mono ?_
  rintro e w9 ⟨rfl, hw9⟩
  subst hw9
  go_wp2_with fail
  refine (HA.out _).mono ?_
  rintro e w2 ⟨rfl, hb⟩
  replace P : Blk w2 (w.heap.size) 29 #[.int .i64 a, .int .i64 b, .int .i64 c, .int .i64 d] := Blk.thru0 (P) hb
  replace R : Blk w2 (w.heap.size + 1) 29 #[.int .i64 0, .int .i64 0, .int .i64 0, .int .i64 0] := Blk.thru0 (R) hb
  have hs := hB.size
  replace hB : Below w.heap.size w w2 := below_trans (by go_grown) hb
  clear hs
  have hsz := hb.size
  (try simp at hsz)
  clear hb
  clear kP0 kP1 kP2 kP3 kR0 kR1 kR2 kR3 zP zR fR0 fR1 fR2 fR3 hsz
  have kP0 := P.cell 0
  have kP1 := P.cell 1
  have kP2 := P.cell 2
  have kP3 := P.cell 3
  have kR0 := R.cell 0
  have kR1 := R.cell 1
  have kR2 := R.cell 2
  have kR3 := R.cell 3
  simp only [List.getElem?_toArray, List.getElem?_cons_zero, List.getElem?_cons_succ] at kP0 kP1 kP2 kP3 kR0 kR1 kR2 kR3
  have zP := P.lt
  have zR := R.lt
  have fR0 := R.frozen 0
  have fR1 := R.frozen 1
  have fR2 := R.frozen 2
  have fR3 := R.frozen 3
  go_wp2_with fail
  refine (HC.out _).mono ?_
  rintro e w3 ⟨rfl, hb⟩
  replace P : Blk w3 (w.heap.size) 29 #[.int .i64 a, .int .i64 b, .int .i64 c, .int .i64 d] := Blk.thru0 ((P).alloc _) hb
  replace R : Blk w3 (w.heap.size + 1) 29 #[.int .i64 0, .int .i64 0, .int .i64 0, .int .i64 0] := Blk.thru0 ((R).alloc _) hb
  have A : Blk w3 (w2.heap.size) 29 #[.int .i64 (a / s * s), .int .i64 (b / s * s), .int .i64 (a / s * s + s - 1), .int .i64 (b / s * s + s - 1)] := Blk.thru0 (Blk.newAt (by simp)) hb
  have hs := hB.size
  replace hB : Below w.heap.size w w3 := below_trans (by go_grown) hb
  clear hs
  have hsz := hb.size
  (try simp at hsz)
  clear hb
  clear kP0 kP1 kP2 kP3 kR0 kR1 kR2 kR3 zP zR fR0 fR1 fR2 fR3 hsz
  have kP0 := P.cell 0
  have kP1 := P.cell 1
  have kP2 := P.cell 2
  have kP3 := P.cell 3
  have kR0 := R.cell 0
  have kR1 := R.cell 1
  have kR2 := R.cell 2
  have kR3 := R.cell 3
  have kA0 := A.cell 0
  have kA1 := A.cell 1
  have kA2 := A.cell 2
  have kA3 := A.cell 3
  simp only [List.getElem?_toArray, List.getElem?_cons_zero, List.getElem?_cons_succ] at kP0 kP1 kP2 kP3 kR0 kR1 kR2 kR3 kA0 kA1 kA2 kA3
  have zP := P.lt
  have zR := R.lt
  have fR0 := R.frozen 0
  have fR1 := R.frozen 1
  have fR2 := R.frozen 2
  have fR3 := R.frozen 3
  have zA := A.lt
  go_wp2_with fail
  refine (HH.out _).mono ?_
  rintro e w4 ⟨rfl, hb⟩
  replace P : Blk w4 (w.heap.size) 29 #[.int .i64 a, .int .i64 b, .int .i64 c, .int .i64 d] := Blk.thru0 ((P).alloc _) hb
  replace R : Blk w4 (w.heap.size + 1) 29 #[.int .i64 0, .int .i64 0, .int .i64 0, .int .i64 0] := Blk.thru0 ((R).alloc _) hb
  replace A : Blk w4 (w2.heap.size) 29 #[.int .i64 (a / s * s), .int .i64 (b / s * s), .int .i64 (a / s * s + s - 1), .int .i64 (b / s * s + s - 1)] := Blk.thru0 ((A).alloc _) hb
  have C : Blk w4 (w3.heap.size) 29 #[.int .i64 (c / s * s), .int .i64 (d / s * s), .int .i64 (c / s * s + s - 1), .int .i64 (d / s * s + s - 1)] := Blk.thru0 (Blk.newAt (by simp)) hb
  have hs := hB.size
  replace hB : Below w.heap.size w w4 := below_trans (by go_grown) hb
  clear hs
  have hsz := hb.size
  (try simp at hsz)
  clear hb
  clear kP0 kP1 kP2 kP3 kR0 kR1 kR2 kR3 kA0 kA1 kA2 kA3 zP zR fR0 fR1 fR2 fR3 zA hsz
  have kP0 := P.cell 0
  have kP1 := P.cell 1
  have kP2 := P.cell 2
  have kP3 := P.cell 3
  have kR0 := R.cell 0
  have kR1 := R.cell 1
  have kR2 := R.cell 2
  have kR3 := R.cell 3
  have kA0 := A.cell 0
  have kA1 := A.cell 1
  have kA2 := A.cell 2
  have kA3 := A.cell 3
  have kC0 := C.cell 0
  have kC1 := C.cell 1
  have kC2 := C.cell 2
  have kC3 := C.cell 3
  simp only [List.getElem?_toArray, List.getElem?_cons_zero, List.getElem?_cons_succ] at kP0 kP1 kP2 kP3 kR0 kR1 kR2 kR3 kA0 kA1 kA2 kA3 kC0 kC1 kC2 kC3
  have zP := P.lt
  have zR := R.lt
  have fR0 := R.frozen 0
  have fR1 := R.frozen 1
  have fR2 := R.frozen 2
  have fR3 := R.frozen 3
  have zA := A.lt
  have zC := C.lt
  go_wp2
  refine bodyPost_ret (v := .tuple #[.agg #[.int .i64 (a / s * s), .int .i64 (b / s * s), .int .i64 (c / s * s + s - 1), .int .i64 (d / s * s + s - 1)], .bool true]) ?_ rfl ⟨rfl, ?_⟩
  · simp [results, Try.results31, go_sem, *]
  · first | (go_grown; done) | exact below_drawn (by go_grown) _
set_option maxHeartbeats 1000000 in
theorem snap_no1 (a b c d lv : Int) (h : rightB a b c d = false) (w : World) :
    Calls Try.prog 31 #[.agg #[.int .i64 a, .int .i64 b, .int .i64 c, .int .i64 d], .int .i64 lv] w fun e w' => e = .returned (.tuple #[.agg #[.int .i64 0, .int .i64 0, .int .i64 0, .int .i64 0], .bool false]) ∧ Below w.heap.size w w' := by
  go_enter Try.func31, Try.ntmps31
  go_wp2_with (first | (go_at_call 44; refine (islevel_any _ _).mono ?_; rintro e w9 ⟨rfl, rfl⟩) | (go_at_call 36; refine (right_any _ _ _ _ _).mono ?_; rintro e w1 ⟨rfl, hb⟩; have hB : Below w.heap.size w w1 := below_trans (by go_grown) hb; have hz := hb.size; (try simp at hz); obtain ⟨hc, hf⟩ := bcell hb; have hz0 : w.heap.size < w1.heap.size := (by omega); have hz1 : w.heap.size + 1 < w1.heap.size := (by omega)))
  refine bodyPost_ret (v := .tuple #[.agg #[.int .i64 0, .int .i64 0, .int .i64 0, .int .i64 0], .bool false]) ?_ rfl ⟨rfl, ?_⟩
  · simp [results, Try.results31, go_sem, *]
  · first | (go_grown; done) | exact below_drawn (by go_grown) _
set_option maxHeartbeats 1000000 in
theorem snap_no2 (a b c d lv : Int) (h : rightB a b c d = true) (h2 : levB lv = false) (w : World) :
    Calls Try.prog 31 #[.agg #[.int .i64 a, .int .i64 b, .int .i64 c, .int .i64 d], .int .i64 lv] w fun e w' => e = .returned (.tuple #[.agg #[.int .i64 0, .int .i64 0, .int .i64 0, .int .i64 0], .bool false]) ∧ Below w.heap.size w w' := by
  go_enter Try.func31, Try.ntmps31
  go_wp2_with (first | (go_at_call 44; refine (islevel_any _ _).mono ?_; rintro e w9 ⟨rfl, rfl⟩) | (go_at_call 36; refine (right_any _ _ _ _ _).mono ?_; rintro e w1 ⟨rfl, hb⟩; have hB : Below w.heap.size w w1 := below_trans (by go_grown) hb; have hz := hb.size; (try simp at hz); obtain ⟨hc, hf⟩ := bcell hb; have hz0 : w.heap.size < w1.heap.size := (by omega); have hz1 : w.heap.size + 1 < w1.heap.size := (by omega)))
  refine bodyPost_ret (v := .tuple #[.agg #[.int .i64 0, .int .i64 0, .int .i64 0, .int .i64 0], .bool false]) ?_ rfl ⟨rfl, ?_⟩
  · simp [results, Try.results31, go_sem, *]
  · first | (go_grown; done) | exact below_drawn (by go_grown) _
def okS (a b c d lv : Int) : Bool := rightB a b c d && levB lv
def s0 (a b c d lv : Int) : Int := if okS a b c d lv = true then a / sideI lv * sideI lv else 0
def s1 (a b c d lv : Int) : Int := if okS a b c d lv = true then b / sideI lv * sideI lv else 0
def s2 (a b c d lv : Int) : Int := if okS a b c d lv = true then c / sideI lv * sideI lv + sideI lv - 1 else 0
def s3 (a b c d lv : Int) : Int := if okS a b c d lv = true then d / sideI lv * sideI lv + sideI lv - 1 else 0
theorem snap_u (a b c d lv : Int) (w : World) : Calls Try.prog 31 #[.agg #[.int .i64 a, .int .i64 b, .int .i64 c, .int .i64 d], .int .i64 lv] w fun e w' => e = .returned (.tuple #[.agg #[.int .i64 (s0 a b c d lv), .int .i64 (s1 a b c d lv), .int .i64 (s2 a b c d lv), .int .i64 (s3 a b c d lv)], .bool (okS a b c d lv)]) ∧ Below w.heap.size w w' := by
  rcases Bool.eq_false_or_eq_true (rightB a b c d) with h | h
  · rcases Bool.eq_false_or_eq_true (levB lv) with h2 | h2
    · obtain ⟨l, hl, rfl⟩ := lev lv ((levB_iff _).1 h2).1 ((levB_iff _).1 h2).2
      have := snap_yes l a b c d _ hl h rfl w
      simpa [okS, s0, s1, s2, s3, h, h2, sideI_nat l hl] using this
    · have := snap_no2 a b c d lv h h2 w
      simpa [okS, s0, s1, s2, s3, h, h2] using this
  · have := snap_no1 a b c d lv h w
    simpa [okS, s0, s1, s2, s3, h] using this
end Go.Proofs.Ytpbnbnhmlpjbjaa
