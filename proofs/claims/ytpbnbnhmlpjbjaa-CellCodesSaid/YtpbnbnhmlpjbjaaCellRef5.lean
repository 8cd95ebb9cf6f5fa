/- The document's cells by contract (5): snapped, homes. -/
import Derived.Test.YtpbnbnhmlpjbjaaCellRef4
namespace Go.Proofs.Ytpbnbnhmlpjbjaa
set_option linter.unusedVariables false
set_option linter.unusedSimpArgs false
open Go.RowKit
theorem wrap_tmod (x s : Int) (h0 : 0 ≤ x) (h1 : x ≤ 4294967296) (hq : 0 < s) (hs : s ≤ 65536) : IntKind.i64.wrap (x.tmod s) = x % s ∧ x - x % s = x / s * s ∧ 0 ≤ x % s ∧ x % s ≤ 65536 := by
  rw [Int.tmod_eq_emod_of_nonneg h0]
  have h2 := Int.emod_nonneg x (show s ≠ 0 by omega)
  have h3 := Int.emod_lt_of_pos x hq
  have h4 := Int.emod_add_mul_ediv x s
  rw [Int.mul_comm] at h4
  exact ⟨IntWalk.i64_in _ (by omega), by omega, h2, by omega⟩
set_option maxHeartbeats 1000000 in
theorem rsnap_yes (l : Nat) (a b c d s : Int) (hl : l ≤ 16) (h : rightB a b c d = true) (hs : (2 : Int) ^ (16 - l) = s) (w : World) :
    Calls Try.prog 32 #[.agg #[.int .i64 a, .int .i64 b, .int .i64 c, .int .i64 d], .int .i64 (l : Int)] w fun e w' => e = .returned (.tuple #[.agg #[.int .i64 (a / s * s), .int .i64 (b / s * s), .int .i64 (c / s * s + s - 1), .int .i64 (d / s * s + s - 1)], .bool true]) ∧ Below w.heap.size w w' := by
  have hr := (rightB_iff _ _ _ _).1 h
  have hlv : levB (l : Int) = true := (levB_iff _).2 (by omega)
  have sp := pow_pos' (16 - l)
  have sl := pow_le16 (16 - l) (by omega)
  have hside := fun w => side_any l hl w
  rw [hs] at sp sl hside
  have HSI := Lib.hid hside; clear hside hs
  obtain ⟨wa, ea, ma, na⟩ := wrap_tmod a s (by omega) (by omega) sp sl
  obtain ⟨wb, eb, mb, nb⟩ := wrap_tmod b s (by omega) (by omega) sp sl
  obtain ⟨wc, ec, mc, nc⟩ := wrap_tmod c s (by omega) (by omega) sp sl
  obtain ⟨wd, ed, md, nd⟩ := wrap_tmod d s (by omega) (by omega) sp sl
  have WA := Lib.hid wa; have WB := Lib.hid wb; have WC := Lib.hid wc; have WD := Lib.hid wd
  have EA := Lib.hid ea; have EB := Lib.hid eb; have EC := Lib.hid ec; have ED := Lib.hid ed
  clear wa wb wc wd ea eb ec ed
  go_enter Try.func32, Try.ntmps32
  go_wp2_with ((go_at_call 40; refine (rlevel_any _ _).mono ?_; rintro e w9 ⟨rfl, rfl⟩))
  refine (ref_right _ _ _ _ _).mono ?_
  rintro e w1 ⟨rfl, hb⟩
  have P : Blk w1 (w.heap.size) 29 #[.int .i64 a, .int .i64 b, .int .i64 c, .int .i64 d] := Blk.thru0 ((Blk.newAt (by simp)).alloc _) hb
  have R : Blk w1 (w.heap.size + 1) 29 #[.int .i64 0, .int .i64 0, .int .i64 0, .int .i64 0] := Blk.thru0 (Blk.newAt (by simp)) hb
  have hB : Below w.heap.size w w1 := below_trans (by go_grown) hb
  have hsz := hb.size
  (try simp at hsz)
  clear hb
  have kP0 := P.cell 0
  have kP1 := P.cell 1
  have kP2 := P.cell 2
  have kP3 := P.cell 3
  have kR0 := R.cell 0
  have kR1 := R.cell 1
  have kR2 := R.cell 2
  have kR3 := R.cell 3
  simp only [List.getElem?_toArray, List.getElem?_cons_zero, List.getElem?_cons_succ] at kP0 kP1 kP2 kP3 kR0 kR1 kR2 kR3
  have zP := P.lt
  have zR := R.lt
  have fR0 := R.frozen 0
  have fR1 := R.frozen 1
  have fR2 := R.frozen 2
  have fR3 := R.frozen 3
  go_wp2_with fail
  refine (HSI.out _).mono ?_
  rintro e w9 ⟨rfl, hw9⟩
  subst hw9
  go_wp2
  have hrr : (0 ≤ a ∧ a ≤ 65535) ∧ (0 ≤ b ∧ b ≤ 65535) ∧ (0 ≤ c ∧ c ≤ 65535) ∧ (0 ≤ d ∧ d ≤ 65535) := by omega
  obtain ⟨⟨ra0, ra1⟩, ⟨rb0, rb1⟩, ⟨rc0, rc1⟩, ⟨rd0, rd1⟩⟩ := hrr
  have s0' : ¬ s = 0 := by omega
  have v1 : IntKind.i64.wrap (a - a % s) = a - a % s := IntWalk.i64_in _ (by omega)
  have v2 : IntKind.i64.wrap (b - b % s) = b - b % s := IntWalk.i64_in _ (by omega)
  have v3 : IntKind.i64.wrap (c - c % s) = c - c % s := IntWalk.i64_in _ (by omega)
  have v4 : IntKind.i64.wrap (d - d % s) = d - d % s := IntWalk.i64_in _ (by omega)
  have v5 : IntKind.i64.wrap (c - c % s + s) = c - c % s + s := IntWalk.i64_in _ (by omega)
  have v6 : IntKind.i64.wrap (d - d % s + s) = d - d % s + s := IntWalk.i64_in _ (by omega)
  have v7 : IntKind.i64.wrap (c - c % s + s - 1) = c - c % s + s - 1 := IntWalk.i64_in _ (by omega)
  have v8 : IntKind.i64.wrap (d - d % s + s - 1) = d - d % s + s - 1 := IntWalk.i64_in _ (by omega)
  have v9 := WA.out; have v10 := WB.out; have v11 := WC.out; have v12 := WD.out
  go_region_held3 (fun w' => w'.cell? ⟨w.heap.size, 0, none⟩ = some (.int .i64 a) ∧ w'.cell? ⟨w.heap.size, 1, none⟩ = some (.int .i64 b) ∧ w'.cell? ⟨w.heap.size, 2, none⟩ = some (.int .i64 c) ∧ w'.cell? ⟨w.heap.size, 3, none⟩ = some (.int .i64 d)) (go_keep) (fail)
  clear v1 v2 v3 v4 v5 v6 v7 v8 v9 v10 v11 v12
  go_wp2
  rw [← EA.out, ← EB.out, ← EC.out, ← ED.out]
  refine bodyPost_ret (v := .tuple #[.agg #[.int .i64 (a - a % s), .int .i64 (b - b % s), .int .i64 (c - c % s + s - 1), .int .i64 (d - d % s + s - 1)], .bool true]) ?_ rfl ⟨rfl, ?_⟩
  · simp [results, Try.results32, go_sem, *]
    refine ⟨?_, ?_, ?_, ?_⟩ <;> (rw [Int.tmod_eq_emod_of_nonneg (by omega)]; simp only [IntKind.wrap_i64]; omega)
  · first | (go_grown; done) | exact below_drawn (by go_grown) _
set_option maxHeartbeats 1000000 in
theorem rsnap_no1 (a b c d lv : Int) (h : rightB a b c d = false) (w : World) :
    Calls Try.prog 32 #[.agg #[.int .i64 a, .int .i64 b, .int .i64 c, .int .i64 d], .int .i64 lv] w fun e w' => e = .returned (.tuple #[.agg #[.int .i64 0, .int .i64 0, .int .i64 0, .int .i64 0], .bool false]) ∧ Below w.heap.size w w' := by
  rcases Bool.eq_false_or_eq_true (levB lv) with hv | hv
  all_goals
    go_enter Try.func32, Try.ntmps32
    go_wp2_with (first | (go_at_call 40; refine (rlevel_any _ _).mono ?_; rintro e w9 ⟨rfl, rfl⟩) | (go_at_call 55; refine (ref_right _ _ _ _ _).mono ?_; rintro e w1 ⟨rfl, hb⟩; have hB : Below w.heap.size w w1 := below_trans (by go_grown) hb; have hz := hb.size; (try simp at hz); obtain ⟨hc, hf⟩ := bcell hb; have hz0 : w.heap.size < w1.heap.size := (by omega); have hz1 : w.heap.size + 1 ≤ w1.heap.size := (by omega); have hz1 : w.heap.size + 1 < w1.heap.size := (by omega)))
    refine bodyPost_ret (v := .tuple #[.agg #[.int .i64 0, .int .i64 0, .int .i64 0, .int .i64 0], .bool false]) ?_ rfl ⟨rfl, ?_⟩
    · simp [results, Try.results32, go_sem, *]
    · go_grown
set_option maxHeartbeats 1000000 in
theorem rsnap_no2 (a b c d lv : Int) (h : rightB a b c d = true) (h2 : levB lv = false) (w : World) :
    Calls Try.prog 32 #[.agg #[.int .i64 a, .int .i64 b, .int .i64 c, .int .i64 d], .int .i64 lv] w fun e w' => e = .returned (.tuple #[.agg #[.int .i64 0, .int .i64 0, .int .i64 0, .int .i64 0], .bool false]) ∧ Below w.heap.size w w' := by
  go_enter Try.func32, Try.ntmps32
  go_wp2_with (first | (go_at_call 40; refine (rlevel_any _ _).mono ?_; rintro e w9 ⟨rfl, rfl⟩) | (go_at_call 55; refine (ref_right _ _ _ _ _).mono ?_; rintro e w1 ⟨rfl, hb⟩; have hB : Below w.heap.size w w1 := below_trans (by go_grown) hb; have hz := hb.size; (try simp at hz); obtain ⟨hc, hf⟩ := bcell hb; have hz0 : w.heap.size < w1.heap.size := (by omega); have hz1 : w.heap.size + 1 ≤ w1.heap.size := (by omega); have hz1 : w.heap.size + 1 < w1.heap.size := (by omega)))
  refine bodyPost_ret (v := .tuple #[.agg #[.int .i64 0, .int .i64 0, .int .i64 0, .int .i64 0], .bool false]) ?_ rfl ⟨rfl, ?_⟩
  · simp [results, Try.results32, go_sem, *]
  · go_grown
theorem rsnap_u (a b c d lv : Int) (w : World) : Calls Try.prog 32 #[.agg #[.int .i64 a, .int .i64 b, .int .i64 c, .int .i64 d], .int .i64 lv] w fun e w' => e = .returned (.tuple #[.agg #[.int .i64 (s0 a b c d lv), .int .i64 (s1 a b c d lv), .int .i64 (s2 a b c d lv), .int .i64 (s3 a b c d lv)], .bool (okS a b c d lv)]) ∧ Below w.heap.size w w' := by
  rcases Bool.eq_false_or_eq_true (rightB a b c d) with h | h
  · rcases Bool.eq_false_or_eq_true (levB lv) with h2 | h2
    · obtain ⟨l, hl, rfl⟩ := lev lv ((levB_iff _).1 h2).1 ((levB_iff _).1 h2).2
      have := rsnap_yes l a b c d _ hl h rfl w
      simpa [okS, s0, s1, s2, s3, h, h2, sideI_nat l hl] using this
    · have := rsnap_no2 a b c d lv h h2 w
      simpa [okS, s0, s1, s2, s3, h, h2] using this
  · have := rsnap_no1 a b c d lv h w
    simpa [okS, s0, s1, s2, s3, h] using this
end Go.Proofs.Ytpbnbnhmlpjbjaa
