/- The document's homes; what must come of fixed calls. -/
import Derived.Test.YtpbnbnhmlpjbjaaCellRef5
import Derived.Test.YtpbnbnhmlpjbjaaCellFrom
import Derived.Deep.LoopGhost
import Derived.Deep.RegionHeld3
namespace Go.Proofs.Ytpbnbnhmlpjbjaa
set_option linter.unusedVariables false
set_option linter.unusedSimpArgs false
open Go.RowKit
theorem in_sm (l : Nat) (a b c d s : Int) (hl : l ≤ 16) (h : rightB a b c d = true) (hs : (2 : Int) ^ (16 - l) = s) : insB a b c d (a / s * s) (b / s * s) (a / s * s + s - 1) (b / s * s + s - 1) = smB a b c d l := by
  have hr := (rightB_iff _ _ _ _).1 h
  obtain ⟨sp, sl, x0, x1, x2, x3, x4, x5, x6⟩ := snap_math l a c s hl (by omega) (by omega) (by omega) hs
  obtain ⟨_, _, y0, y1, y2, y3, y4, y5, y6⟩ := snap_math l b d s hl (by omega) (by omega) (by omega) hs
  rw [Bool.eq_iff_iff, insB_iff, smB_iff, hs]
  have ex : c < a / s * s + s ↔ c / s = a / s := by
    constructor
    · intro h1
      have h2 : a / s ≤ c / s := Int.ediv_le_ediv sp (by omega)
      have h3 : c / s < a / s + 1 := Int.ediv_lt_of_lt_mul sp (by rw [Int.add_mul, Int.one_mul]; exact h1)
      omega
    · intro h1; rw [← h1]; exact x4
  have ey : d < b / s * s + s ↔ d / s = b / s := by
    constructor
    · intro h1
      have h2 : b / s ≤ d / s := Int.ediv_le_ediv sp (by omega)
      have h3 : d / s < b / s + 1 := Int.ediv_lt_of_lt_mul sp (by rw [Int.add_mul, Int.one_mul]; exact h1)
      omega
    · intro h1; rw [← h1]; exact y4
  rw [← ex, ← ey]
  generalize a / s * s = A at *
  generalize b / s * s = B at *
  generalize c / s * s = C at *
  generalize d / s * s = D at *
  omega
theorem hlv_pred (a b c d : Int) (k : Nat) (h : smB a b c d (k + 1) = false) : hlv a b c d (k + 1) = hlv a b c d k := by rw [hlv, if_neg (by simp [h])]
theorem hlv_here (a b c d : Int) (k : Nat) (h : smB a b c d (k + 1) = true) : hlv a b c d (k + 1) = k + 1 := by rw [hlv, if_pos h]
set_option maxHeartbeats 2000000 in
theorem rhome_yes (a b c d : Int) (h : rightB a b c d = true) (w : World) :
    Calls Try.prog 34 #[.agg #[.int .i64 a, .int .i64 b, .int .i64 c, .int .i64 d]] w fun e w' => e = .returned (.tuple #[.agg #[.int .i64 (hlv a b c d 16 : Int), .int .i64 (a / 2 ^ (16 - hlv a b c d 16)), .int .i64 (b / 2 ^ (16 - hlv a b c d 16))], .bool true]) ∧ Below w.heap.size w w' := by
  have hr := (rightB_iff _ _ _ _).1 h
  have fab : fitsB a b = true := (fitsB_iff _ _).2 (by omega)
  go_enter Try.func34, Try.ntmps34
  go_wp2_with fail
  refine (ref_right _ _ _ _ _).mono ?_
  rintro e w1 ⟨rfl, hb⟩
  have P : Blk w1 (w.heap.size) 29 #[.int .i64 a, .int .i64 b, .int .i64 c, .int .i64 d] := Blk.thru0 ((Blk.newAt (by simp)).alloc _) hb
  have R : Blk w1 (w.heap.size + 1) 23 #[.int .i64 0, .int .i64 0, .int .i64 0] := Blk.thru0 (Blk.newAt (by simp)) hb
  have hB : Below w.heap.size w w1 := below_trans (by go_grown) hb
  have hsz := hb.size
  (try simp at hsz)
  clear hb
  have kP0 := P.cell 0
  have kP1 := P.cell 1
  have kP2 := P.cell 2
  have kP3 := P.cell 3
  have kR0 := R.cell 0
  have kR1 := R.cell 1
  have kR2 := R.cell 2
  simp only [List.getElem?_toArray, List.getElem?_cons_zero, List.getElem?_cons_succ] at kP0 kP1 kP2 kP3 kR0 kR1 kR2
  have zP := P.lt
  have zR := R.lt
  have fR0 := R.frozen 0
  have fR1 := R.frozen 1
  have fR2 := R.frozen 2
  go_wp2
  clear hsz kP0 kP1 kP2 kP3 kR0 kR1 kR2 zP zR fR0 fR1 fR2
  go_loopg [4] 16 (fun g i wr => ∃ k : Nat, i = .int .i64 k ∧ Hid (g = k) ∧ k ≤ 16 ∧ Hid (hlv a b c d 16 = hlv a b c d k) ∧ Below w.heap.size w wr ∧ Blk wr w.heap.size 29 #[.int .i64 a, .int .i64 b, .int .i64 c, .int .i64 d] ∧ Blk wr (w.heap.size + 1) 23 #[.int .i64 0, .int .i64 0, .int .i64 0])
  case atStart => exact ⟨16, rfl, rfl, by omega, rfl, hB, P, R⟩
  case round =>
    clear hB P R
    obtain ⟨k, rfl, hg, hk, hv, hB, P, R⟩ := hrel
    cases k with
    | zero =>
      have kP0 := P.cell 0
      have kP1 := P.cell 1
      have kP2 := P.cell 2
      have kP3 := P.cell 3
      have kR0 := R.cell 0
      have kR1 := R.cell 1
      have kR2 := R.cell 2
      simp only [List.getElem?_toArray, List.getElem?_cons_zero, List.getElem?_cons_succ] at kP0 kP1 kP2 kP3 kR0 kR1 kR2
      have zP := P.lt
      have zR := R.lt
      have fR0 := R.frozen 0
      have fR1 := R.frozen 1
      have fR2 := R.frozen 2
      go_wp2
      refine bodyPost_ret (v := .tuple #[.agg #[.int .i64 0, .int .i64 0, .int .i64 0], .bool true]) ?_ rfl ?_
      · simp [results, Try.results34, go_sem, *]
      · refine ⟨?_, by go_grown⟩
        rw [hv.out, show hlv a b c d 0 = 0 from rfl, show (2 : Int) ^ (16 - 0) = 65536 by decide, show a / 65536 = 0 by omega, show b / 65536 = 0 by omega]; rfl
    | succ k =>
      have hof := rof_yes (k + 1) a b _ hk fab rfl
      have hok := of_okC (k + 1) a b hk fab
      have hbx := rbox_yes (k + 1) (a / 2 ^ (16 - (k + 1))) (b / 2 ^ (16 - (k + 1))) _ hk hok rfl
      have hin := in_sm (k + 1) a b c d _ hk h rfl
      have hp := hlv_pred a b c d k
      have hh := hlv_here a b c d k
      generalize hq : (2 : Int) ^ (16 - (k + 1)) = q at hof hok hbx hin
      have e1 : ((k + 1 : Nat) : Int) = (k : Int) + 1 := by push_cast; rfl
      rw [e1] at hof hbx hok ⊢
      have HO := Lib.hid hof; have HB := Lib.hid hbx; have HI := Lib.hid hin; have HP := Lib.hid hp; have HH := Lib.hid hh; have HQ := Lib.hid hq
      have hkk : (k : Int) ≤ 15 := by omega
      clear hof hok hbx hin hp hh hq e1
      rcases Bool.eq_false_or_eq_true (smB a b c d (k + 1)) with hs | hs
      all_goals
        have HS := Lib.hid hs; clear hs
        have kP0 := P.cell 0
        have kP1 := P.cell 1
        have kP2 := P.cell 2
        have kP3 := P.cell 3
        have kR0 := R.cell 0
        have kR1 := R.cell 1
        have kR2 := R.cell 2
        simp only [List.getElem?_toArray, List.getElem?_cons_zero, List.getElem?_cons_succ] at kP0 kP1 kP2 kP3 kR0 kR1 kR2
        have zP := P.lt
        have zR := R.lt
        have fR0 := R.frozen 0
        have fR1 := R.frozen 1
        have fR2 := R.frozen 2
        go_wp2_with fail
        refine (HO.out _).mono ?_
        rintro e w3 ⟨rfl, hb⟩
        replace P : Blk w3 (w.heap.size) 29 #[.int .i64 a, .int .i64 b, .int .i64 c, .int .i64 d] := Blk.thru0 (P) hb
        replace R : Blk w3 (w.heap.size + 1) 23 #[.int .i64 0, .int .i64 0, .int .i64 0] := Blk.thru0 (R) hb
        have hs := hB.size
        replace hB : Below w.heap.size w w3 := below_trans (by go_grown) hb
        clear hs
        clear kP0 kP1 kP2 kP3 kR0 kR1 kR2 zP zR fR0 fR1 fR2
        have hsz := hb.size
        (try simp at hsz)
        clear hb
        have kP0 := P.cell 0
        have kP1 := P.cell 1
        have kP2 := P.cell 2
        have kP3 := P.cell 3
        have kR0 := R.cell 0
        have kR1 := R.cell 1
        have kR2 := R.cell 2
        simp only [List.getElem?_toArray, List.getElem?_cons_zero, List.getElem?_cons_succ] at kP0 kP1 kP2 kP3 kR0 kR1 kR2
        have zP := P.lt
        have zR := R.lt
        have fR0 := R.frozen 0
        have fR1 := R.frozen 1
        have fR2 := R.frozen 2
        go_wp2_with fail
        refine (HB.out _).mono ?_
        rintro e w4 ⟨rfl, hb⟩
        replace P : Blk w4 (w.heap.size) 29 #[.int .i64 a, .int .i64 b, .int .i64 c, .int .i64 d] := Blk.thru0 ((P).alloc _) hb
        replace R : Blk w4 (w.heap.size + 1) 23 #[.int .i64 0, .int .i64 0, .int .i64 0] := Blk.thru0 ((R).alloc _) hb
        have C : Blk w4 (w3.heap.size) 23 #[.int .i64 ((k : Int) + 1), .int .i64 (a / q), .int .i64 (b / q)] := Blk.thru0 (Blk.newAt (by simp)) hb
        have hs := hB.size
        replace hB : Below w.heap.size w w4 := below_trans (by go_grown) hb
        clear hs
        clear hsz kP0 kP1 kP2 kP3 kR0 kR1 kR2 zP zR fR0 fR1 fR2
        have hsz := hb.size
        (try simp at hsz)
        clear hb
        have kP0 := P.cell 0
        have kP1 := P.cell 1
        have kP2 := P.cell 2
        have kP3 := P.cell 3
        have kR0 := R.cell 0
        have kR1 := R.cell 1
        have kR2 := R.cell 2
        have kC0 := C.cell 0
        have kC1 := C.cell 1
        have kC2 := C.cell 2
        simp only [List.getElem?_toArray, List.getElem?_cons_zero, List.getElem?_cons_succ] at kP0 kP1 kP2 kP3 kR0 kR1 kR2 kC0 kC1 kC2
        have zP := P.lt
        have zR := R.lt
        have fR0 := R.frozen 0
        have fR1 := R.frozen 1
        have fR2 := R.frozen 2
        have zC := C.lt
        go_wp2_with fail
        refine (ref_in _ _ _ _ _ _ _ _ _).mono ?_
        rintro e w5 ⟨rfl, hb⟩
        replace P : Blk w5 (w.heap.size) 29 #[.int .i64 a, .int .i64 b, .int .i64 c, .int .i64 d] := Blk.thru0 ((P).alloc _) hb
        replace R : Blk w5 (w.heap.size + 1) 23 #[.int .i64 0, .int .i64 0, .int .i64 0] := Blk.thru0 ((R).alloc _) hb
        replace C : Blk w5 (w3.heap.size) 23 #[.int .i64 ((k : Int) + 1), .int .i64 (a / q), .int .i64 (b / q)] := Blk.thru0 ((C).alloc _) hb
        have B : Blk w5 (w4.heap.size) 29 #[.int .i64 (a / q * q), .int .i64 (b / q * q), .int .i64 (a / q * q + q - 1), .int .i64 (b / q * q + q - 1)] := Blk.thru0 (Blk.newAt (by simp)) hb
        have hs := hB.size
        replace hB : Below w.heap.size w w5 := below_trans (by go_grown) hb
        clear hs
        clear hsz kP0 kP1 kP2 kP3 kR0 kR1 kR2 kC0 kC1 kC2 zP zR fR0 fR1 fR2 zC
        have hsz := hb.size
        (try simp at hsz)
        clear hb
        have kP0 := P.cell 0
        have kP1 := P.cell 1
        have kP2 := P.cell 2
        have kP3 := P.cell 3
        have kR0 := R.cell 0
        have kR1 := R.cell 1
        have kR2 := R.cell 2
        have kC0 := C.cell 0
        have kC1 := C.cell 1
        have kC2 := C.cell 2
        have kB0 := B.cell 0
        have kB1 := B.cell 1
        have kB2 := B.cell 2
        have kB3 := B.cell 3
        simp only [List.getElem?_toArray, List.getElem?_cons_zero, List.getElem?_cons_succ] at kP0 kP1 kP2 kP3 kR0 kR1 kR2 kC0 kC1 kC2 kB0 kB1 kB2 kB3
        have zP := P.lt
        have zR := R.lt
        have fR0 := R.frozen 0
        have fR1 := R.frozen 1
        have fR2 := R.frozen 2
        have zC := C.lt
        have zB := B.lt
        have hi := HI.out
        rw [HS.out] at hi
        go_wp2
      · refine bodyPost_ret (v := .tuple #[.agg #[.int .i64 ((k : Int) + 1), .int .i64 (a / q), .int .i64 (b / q)], .bool true]) ?_ rfl ?_
        · simp [results, Try.results34, go_sem, *]
        · exact ⟨by rw [hv.out, HH.out HS.out, HQ.out]; rfl, by go_grown⟩
      · go_roundg k
        case rel => exact ⟨k, by go_num, rfl, by omega, by have h9 := hv.out; rw [HP.out HS.out] at h9; exact h9, hB, P, R⟩
        case measure => have h9 := hg.out; omega
set_option maxHeartbeats 1000000 in
theorem rhome_no (a b c d : Int) (h : rightB a b c d = false) (w : World) :
    Calls Try.prog 34 #[.agg #[.int .i64 a, .int .i64 b, .int .i64 c, .int .i64 d]] w fun e w' => e = .returned (.tuple #[.agg #[.int .i64 0, .int .i64 0, .int .i64 0], .bool false]) ∧ Below w.heap.size w w' := by
  go_enter Try.func34, Try.ntmps34
  go_wp2_with ((go_at_call 55; refine (ref_right _ _ _ _ _).mono ?_; rintro e w1 ⟨rfl, hb⟩; have hB : Below w.heap.size w w1 := below_trans (by go_grown) hb; have hz := hb.size; (try simp at hz); obtain ⟨hc, hf⟩ := bcell hb; have hz0 : w.heap.size < w1.heap.size := (by omega); have hz1 : w.heap.size + 1 < w1.heap.size := (by omega)))
  refine bodyPost_ret (v := .tuple #[.agg #[.int .i64 0, .int .i64 0, .int .i64 0], .bool false]) ?_ rfl ⟨rfl, ?_⟩
  · simp [results, Try.results34, go_sem, *]
  · go_grown
theorem rhome_u (a b c d : Int) (w : World) : Calls Try.prog 34 #[.agg #[.int .i64 a, .int .i64 b, .int .i64 c, .int .i64 d]] w fun e w' => e = .returned (.tuple #[.agg #[.int .i64 (h0 a b c d), .int .i64 (h1 a b c d), .int .i64 (h2 a b c d)], .bool (rightB a b c d)]) ∧ Below w.heap.size w w' := by
  rcases Bool.eq_false_or_eq_true (rightB a b c d) with h | h
  · have := rhome_yes a b c d h w
    simpa [h0, h1, h2, h] using this
  · have := rhome_no a b c d h w
    simpa [h0, h1, h2, h] using this
end Go.Proofs.Ytpbnbnhmlpjbjaa
