/- QueueOrder: (P4.2) of any entries one is ahead, or they are the same; what is ahead of what is ahead is ahead. Conditions: none. -/
import Derived.Test.YtlohbmbahagjbaaQRLess
import Derived.Test.YtlohbmbahagjbaaFrame
import Derived.Lib.SmallJoins
namespace Go.Proofs.Ytlohbmbahagjbaa.queueOrder
set_option linter.unusedVariables false
set_option linter.unusedSimpArgs false
open Go.ChangeShapes Go.WideShapes Go.ChangeAt Go.RowKit
open Go.ChangeMaps (open_string shut_string)
set_option maxRecDepth 100000 in
set_option maxHeartbeats 8000000 in
theorem walk0 (ka ta ia kb tb ib kc tc ic : Int) (w : World) :
    Calls Try.prog 6 #[.agg #[.int .u64 ka, .int .u64 ta, .int .i64 ia], .agg #[.int .u64 kb, .int .u64 tb, .int .i64 ib], .agg #[.int .u64 kc, .int .u64 tc, .int .i64 ic]] w fun e w' => e = .returned (.bool true) ∧ Below w.heap.size w w' := by
  have haa : ltE (ka, ta, ia) (ka, ta, ia) = false := ltE_false.2 (LtE.irrefl _)
  by_cases hab : LtE (ka, ta, ia) (kb, tb, ib)
  · have eab : ltE (ka, ta, ia) (kb, tb, ib) = true := ltE_true.2 hab
    by_cases hbc : LtE (kb, tb, ib) (kc, tc, ic)
    · have ebc : ltE (kb, tb, ib) (kc, tc, ic) = true := ltE_true.2 hbc
      have eac : ltE (ka, ta, ia) (kc, tc, ic) = true := ltE_true.2 (hab.trans hbc)
      clear hab hbc
      go_enter Try.func6, Try.ntmps6
      go_wp2_with fail
      have hB0 : Below w.heap.size w (((w.alloc (.cells #[.int .u64 ka, .int .u64 ta, .int .i64 ia] 29)).alloc (.cells #[.int .u64 kb, .int .u64 tb, .int .i64 ib] 29)).alloc (.cells #[.int .u64 kc, .int .u64 tc, .int .i64 ic] 29)) := ((((Below.refl _ _).alloc (Nat.le_refl _) _).alloc (by simp) _).alloc (by simp; omega) _)
      have KA : Blk (((w.alloc (.cells #[.int .u64 ka, .int .u64 ta, .int .i64 ia] 29)).alloc (.cells #[.int .u64 kb, .int .u64 tb, .int .i64 ib] 29)).alloc (.cells #[.int .u64 kc, .int .u64 tc, .int .i64 ic] 29)) w.heap.size 29 #[.int .u64 ka, .int .u64 ta, .int .i64 ia] := ((Blk.new w _ _).alloc _).alloc _
      have KB : Blk (((w.alloc (.cells #[.int .u64 ka, .int .u64 ta, .int .i64 ia] 29)).alloc (.cells #[.int .u64 kb, .int .u64 tb, .int .i64 ib] 29)).alloc (.cells #[.int .u64 kc, .int .u64 tc, .int .i64 ic] 29)) (w.heap.size + 1) 29 #[.int .u64 kb, .int .u64 tb, .int .i64 ib] := (Blk.newAt (by simp)).alloc _
      have KC : Blk (((w.alloc (.cells #[.int .u64 ka, .int .u64 ta, .int .i64 ia] 29)).alloc (.cells #[.int .u64 kb, .int .u64 tb, .int .i64 ib] 29)).alloc (.cells #[.int .u64 kc, .int .u64 tc, .int .i64 ic] 29)) (w.heap.size + 2) 29 #[.int .u64 kc, .int .u64 tc, .int .i64 ic] := Blk.newAt (by simp)
      generalize (((w.alloc (.cells #[.int .u64 ka, .int .u64 ta, .int .i64 ia] 29)).alloc (.cells #[.int .u64 kb, .int .u64 tb, .int .i64 ib] 29)).alloc (.cells #[.int .u64 kc, .int .u64 tc, .int .i64 ic] 29)) = W at *
      have a0 := KA.cell 0
      have a1 := KA.cell 1
      have a2 := KA.cell 2
      have b0 := KB.cell 0
      have b1 := KB.cell 1
      have b2 := KB.cell 2
      have c0 := KC.cell 0
      have c1 := KC.cell 1
      have c2 := KC.cell 2
      simp only [List.getElem?_toArray, List.getElem?_cons_zero, List.getElem?_cons_succ] at a0 a1 a2 b0 b1 b2 c0 c1 c2
      clear KA KB KC
      go_region_held3 (fun w' => w'.cell? ⟨w.heap.size, 0, none⟩ = some (.int .u64 ka) ∧ w'.cell? ⟨w.heap.size, 1, none⟩ = some (.int .u64 ta) ∧ w'.cell? ⟨w.heap.size, 2, none⟩ = some (.int .i64 ia) ∧ w'.cell? ⟨w.heap.size + 1, 0, none⟩ = some (.int .u64 kb) ∧ w'.cell? ⟨w.heap.size + 1, 1, none⟩ = some (.int .u64 tb) ∧ w'.cell? ⟨w.heap.size + 1, 2, none⟩ = some (.int .i64 ib) ∧ w'.cell? ⟨w.heap.size + 2, 0, none⟩ = some (.int .u64 kc) ∧ w'.cell? ⟨w.heap.size + 2, 1, none⟩ = some (.int .u64 tc) ∧ w'.cell? ⟨w.heap.size + 2, 2, none⟩ = some (.int .i64 ic) ∧ Below w.heap.size w w') (first | (refine ⟨?_, ?_, ?_, ?_, ?_, ?_, ?_, ?_, ?_, ?_⟩ <;> first | (exact cell_later (by assumption) (by assumption)) | (exact below_then (by assumption) (by assumption))) | (go_split_ands; refine ⟨?_, ?_, ?_, ?_, ?_, ?_, ?_, ?_, ?_, ?_⟩ <;> first | (exact cell_later (by assumption) (by assumption)) | (exact below_then (by assumption) (by assumption)) | (go_grown; done) | go_keep)) (first
        | (go_at_call 18; refine (less_any _ _ _ _ _ _ _).mono ?_; rintro e w9 ⟨rfl, hb9⟩)
        | (go_at_call 20; refine (rless_any _ _ _ _ _ _ _).mono ?_; rintro e w9 ⟨rfl, hb9⟩))
      all_goals
        have hS : w9.cell? ⟨w.heap.size, 0, none⟩ = some (.int .u64 ka) ∧ w9.cell? ⟨w.heap.size, 1, none⟩ = some (.int .u64 ta) ∧ w9.cell? ⟨w.heap.size, 2, none⟩ = some (.int .i64 ia) ∧ w9.cell? ⟨w.heap.size + 1, 0, none⟩ = some (.int .u64 kb) ∧ w9.cell? ⟨w.heap.size + 1, 1, none⟩ = some (.int .u64 tb) ∧ w9.cell? ⟨w.heap.size + 1, 2, none⟩ = some (.int .i64 ib) ∧ w9.cell? ⟨w.heap.size + 2, 0, none⟩ = some (.int .u64 kc) ∧ w9.cell? ⟨w.heap.size + 2, 1, none⟩ = some (.int .u64 tc) ∧ w9.cell? ⟨w.heap.size + 2, 2, none⟩ = some (.int .i64 ic) ∧ Below w.heap.size w w9 := by assumption
        clear a0 a1 a2 b0 b1 b2 c0 c1 c2 hB0
        obtain ⟨a0, a1, a2, b0, b1, b2, c0, c1, c2, hB9⟩ := hS
        go_wp2_with fail
        refine (less_any _ _ _ _ _ _ _).mono ?_
        rintro e wn ⟨rfl, hbn⟩
        replace a0 := cell_later hbn a0
        replace a1 := cell_later hbn a1
        replace a2 := cell_later hbn a2
        replace b0 := cell_later hbn b0
        replace b1 := cell_later hbn b1
        replace b2 := cell_later hbn b2
        replace c0 := cell_later hbn c0
        replace c1 := cell_later hbn c1
        replace c2 := cell_later hbn c2
        replace hB9 := below_trans hB9 hbn
        clear hbn
        go_wp2_with fail
        refine (less_any _ _ _ _ _ _ _).mono ?_
        rintro e wn ⟨rfl, hbn⟩
        replace a0 := cell_later hbn a0
        replace a1 := cell_later hbn a1
        replace a2 := cell_later hbn a2
        replace b0 := cell_later hbn b0
        replace b1 := cell_later hbn b1
        replace b2 := cell_later hbn b2
        replace c0 := cell_later hbn c0
        replace c1 := cell_later hbn c1
        replace c2 := cell_later hbn c2
        replace hB9 := below_trans hB9 hbn
        clear hbn
        go_wp2_with fail
        refine (less_any _ _ _ _ _ _ _).mono ?_
        rintro e wn ⟨rfl, hbn⟩
        replace a0 := cell_later hbn a0
        replace a1 := cell_later hbn a1
        replace a2 := cell_later hbn a2
        replace b0 := cell_later hbn b0
        replace b1 := cell_later hbn b1
        replace b2 := cell_later hbn b2
        replace c0 := cell_later hbn c0
        replace c1 := cell_later hbn c1
        replace c2 := cell_later hbn c2
        replace hB9 := below_trans hB9 hbn
        clear hbn
        go_wp2_with fail
        refine (less_any _ _ _ _ _ _ _).mono ?_
        rintro e wn ⟨rfl, hbn⟩
        replace a0 := cell_later hbn a0
        replace a1 := cell_later hbn a1
        replace a2 := cell_later hbn a2
        replace b0 := cell_later hbn b0
        replace b1 := cell_later hbn b1
        replace b2 := cell_later hbn b2
        replace c0 := cell_later hbn c0
        replace c1 := cell_later hbn c1
        replace c2 := cell_later hbn c2
        replace hB9 := below_trans hB9 hbn
        clear hbn
        go_wp2_with fail
        refine (known_any _).mono ?_
        rintro e wk ⟨rfl, hbk⟩
        go_wp2
        go_ret
        exact ⟨rfl, below_trans hB9 hbk⟩
    · have ebc : ltE (kb, tb, ib) (kc, tc, ic) = false := ltE_false.2 hbc
      clear hab hbc
      go_enter Try.func6, Try.ntmps6
      go_wp2_with fail
      have hB0 : Below w.heap.size w (((w.alloc (.cells #[.int .u64 ka, .int .u64 ta, .int .i64 ia] 29)).alloc (.cells #[.int .u64 kb, .int .u64 tb, .int .i64 ib] 29)).alloc (.cells #[.int .u64 kc, .int .u64 tc, .int .i64 ic] 29)) := ((((Below.refl _ _).alloc (Nat.le_refl _) _).alloc (by simp) _).alloc (by simp; omega) _)
      have KA : Blk (((w.alloc (.cells #[.int .u64 ka, .int .u64 ta, .int .i64 ia] 29)).alloc (.cells #[.int .u64 kb, .int .u64 tb, .int .i64 ib] 29)).alloc (.cells #[.int .u64 kc, .int .u64 tc, .int .i64 ic] 29)) w.heap.size 29 #[.int .u64 ka, .int .u64 ta, .int .i64 ia] := ((Blk.new w _ _).alloc _).alloc _
      have KB : Blk (((w.alloc (.cells #[.int .u64 ka, .int .u64 ta, .int .i64 ia] 29)).alloc (.cells #[.int .u64 kb, .int .u64 tb, .int .i64 ib] 29)).alloc (.cells #[.int .u64 kc, .int .u64 tc, .int .i64 ic] 29)) (w.heap.size + 1) 29 #[.int .u64 kb, .int .u64 tb, .int .i64 ib] := (Blk.newAt (by simp)).alloc _
      have KC : Blk (((w.alloc (.cells #[.int .u64 ka, .int .u64 ta, .int .i64 ia] 29)).alloc (.cells #[.int .u64 kb, .int .u64 tb, .int .i64 ib] 29)).alloc (.cells #[.int .u64 kc, .int .u64 tc, .int .i64 ic] 29)) (w.heap.size + 2) 29 #[.int .u64 kc, .int .u64 tc, .int .i64 ic] := Blk.newAt (by simp)
      generalize (((w.alloc (.cells #[.int .u64 ka, .int .u64 ta, .int .i64 ia] 29)).alloc (.cells #[.int .u64 kb, .int .u64 tb, .int .i64 ib] 29)).alloc (.cells #[.int .u64 kc, .int .u64 tc, .int .i64 ic] 29)) = W at *
      have a0 := KA.cell 0
      have a1 := KA.cell 1
      have a2 := KA.cell 2
      have b0 := KB.cell 0
      have b1 := KB.cell 1
      have b2 := KB.cell 2
      have c0 := KC.cell 0
      have c1 := KC.cell 1
      have c2 := KC.cell 2
      simp only [List.getElem?_toArray, List.getElem?_cons_zero, List.getElem?_cons_succ] at a0 a1 a2 b0 b1 b2 c0 c1 c2
      clear KA KB KC
      go_region_held3 (fun w' => w'.cell? ⟨w.heap.size, 0, none⟩ = some (.int .u64 ka) ∧ w'.cell? ⟨w.heap.size, 1, none⟩ = some (.int .u64 ta) ∧ w'.cell? ⟨w.heap.size, 2, none⟩ = some (.int .i64 ia) ∧ w'.cell? ⟨w.heap.size + 1, 0, none⟩ = some (.int .u64 kb) ∧ w'.cell? ⟨w.heap.size + 1, 1, none⟩ = some (.int .u64 tb) ∧ w'.cell? ⟨w.heap.size + 1, 2, none⟩ = some (.int .i64 ib) ∧ w'.cell? ⟨w.heap.size + 2, 0, none⟩ = some (.int .u64 kc) ∧ w'.cell? ⟨w.heap.size + 2, 1, none⟩ = some (.int .u64 tc) ∧ w'.cell? ⟨w.heap.size + 2, 2, none⟩ = some (.int .i64 ic) ∧ Below w.heap.size w w') (first | (refine ⟨?_, ?_, ?_, ?_, ?_, ?_, ?_, ?_, ?_, ?_⟩ <;> first | (exact cell_later (by assumption) (by assumption)) | (exact below_then (by assumption) (by assumption))) | (go_split_ands; refine ⟨?_, ?_, ?_, ?_, ?_, ?_, ?_, ?_, ?_, ?_⟩ <;> first | (exact cell_later (by assumption) (by assumption)) | (exact below_then (by assumption) (by assumption)) | (go_grown; done) | go_keep)) (first
        | (go_at_call 18; refine (less_any _ _ _ _ _ _ _).mono ?_; rintro e w9 ⟨rfl, hb9⟩)
        | (go_at_call 20; refine (rless_any _ _ _ _ _ _ _).mono ?_; rintro e w9 ⟨rfl, hb9⟩))
      all_goals
        have hS : w9.cell? ⟨w.heap.size, 0, none⟩ = some (.int .u64 ka) ∧ w9.cell? ⟨w.heap.size, 1, none⟩ = some (.int .u64 ta) ∧ w9.cell? ⟨w.heap.size, 2, none⟩ = some (.int .i64 ia) ∧ w9.cell? ⟨w.heap.size + 1, 0, none⟩ = some (.int .u64 kb) ∧ w9.cell? ⟨w.heap.size + 1, 1, none⟩ = some (.int .u64 tb) ∧ w9.cell? ⟨w.heap.size + 1, 2, none⟩ = some (.int .i64 ib) ∧ w9.cell? ⟨w.heap.size + 2, 0, none⟩ = some (.int .u64 kc) ∧ w9.cell? ⟨w.heap.size + 2, 1, none⟩ = some (.int .u64 tc) ∧ w9.cell? ⟨w.heap.size + 2, 2, none⟩ = some (.int .i64 ic) ∧ Below w.heap.size w w9 := by assumption
        clear a0 a1 a2 b0 b1 b2 c0 c1 c2 hB0
        obtain ⟨a0, a1, a2, b0, b1, b2, c0, c1, c2, hB9⟩ := hS
        go_wp2_with fail
        refine (less_any _ _ _ _ _ _ _).mono ?_
        rintro e wn ⟨rfl, hbn⟩
        replace a0 := cell_later hbn a0
        replace a1 := cell_later hbn a1
        replace a2 := cell_later hbn a2
        replace b0 := cell_later hbn b0
        replace b1 := cell_later hbn b1
        replace b2 := cell_later hbn b2
        replace c0 := cell_later hbn c0
        replace c1 := cell_later hbn c1
        replace c2 := cell_later hbn c2
        replace hB9 := below_trans hB9 hbn
        clear hbn
        go_wp2_with fail
        refine (less_any _ _ _ _ _ _ _).mono ?_
        rintro e wn ⟨rfl, hbn⟩
        replace a0 := cell_later hbn a0
        replace a1 := cell_later hbn a1
        replace a2 := cell_later hbn a2
        replace b0 := cell_later hbn b0
        replace b1 := cell_later hbn b1
        replace b2 := cell_later hbn b2
        replace c0 := cell_later hbn c0
        replace c1 := cell_later hbn c1
        replace c2 := cell_later hbn c2
        replace hB9 := below_trans hB9 hbn
        clear hbn
        go_wp2_with fail
        refine (less_any _ _ _ _ _ _ _).mono ?_
        rintro e wn ⟨rfl, hbn⟩
        replace a0 := cell_later hbn a0
        replace a1 := cell_later hbn a1
        replace a2 := cell_later hbn a2
        replace b0 := cell_later hbn b0
        replace b1 := cell_later hbn b1
        replace b2 := cell_later hbn b2
        replace c0 := cell_later hbn c0
        replace c1 := cell_later hbn c1
        replace c2 := cell_later hbn c2
        replace hB9 := below_trans hB9 hbn
        clear hbn
        go_wp2_with fail
        refine (known_any _).mono ?_
        rintro e wk ⟨rfl, hbk⟩
        go_wp2
        go_ret
        exact ⟨rfl, below_trans hB9 hbk⟩
  · have eab : ltE (ka, ta, ia) (kb, tb, ib) = false := ltE_false.2 hab
    by_cases hba : LtE (kb, tb, ib) (ka, ta, ia)
    · have eba : ltE (kb, tb, ib) (ka, ta, ia) = true := ltE_true.2 hba
      clear hab hba
      go_enter Try.func6, Try.ntmps6
      go_wp2_with fail
      have hB0 : Below w.heap.size w (((w.alloc (.cells #[.int .u64 ka, .int .u64 ta, .int .i64 ia] 29)).alloc (.cells #[.int .u64 kb, .int .u64 tb, .int .i64 ib] 29)).alloc (.cells #[.int .u64 kc, .int .u64 tc, .int .i64 ic] 29)) := ((((Below.refl _ _).alloc (Nat.le_refl _) _).alloc (by simp) _).alloc (by simp; omega) _)
      have KA : Blk (((w.alloc (.cells #[.int .u64 ka, .int .u64 ta, .int .i64 ia] 29)).alloc (.cells #[.int .u64 kb, .int .u64 tb, .int .i64 ib] 29)).alloc (.cells #[.int .u64 kc, .int .u64 tc, .int .i64 ic] 29)) w.heap.size 29 #[.int .u64 ka, .int .u64 ta, .int .i64 ia] := ((Blk.new w _ _).alloc _).alloc _
      have KB : Blk (((w.alloc (.cells #[.int .u64 ka, .int .u64 ta, .int .i64 ia] 29)).alloc (.cells #[.int .u64 kb, .int .u64 tb, .int .i64 ib] 29)).alloc (.cells #[.int .u64 kc, .int .u64 tc, .int .i64 ic] 29)) (w.heap.size + 1) 29 #[.int .u64 kb, .int .u64 tb, .int .i64 ib] := (Blk.newAt (by simp)).alloc _
      have KC : Blk (((w.alloc (.cells #[.int .u64 ka, .int .u64 ta, .int .i64 ia] 29)).alloc (.cells #[.int .u64 kb, .int .u64 tb, .int .i64 ib] 29)).alloc (.cells #[.int .u64 kc, .int .u64 tc, .int .i64 ic] 29)) (w.heap.size + 2) 29 #[.int .u64 kc, .int .u64 tc, .int .i64 ic] := Blk.newAt (by simp)
      generalize (((w.alloc (.cells #[.int .u64 ka, .int .u64 ta, .int .i64 ia] 29)).alloc (.cells #[.int .u64 kb, .int .u64 tb, .int .i64 ib] 29)).alloc (.cells #[.int .u64 kc, .int .u64 tc, .int .i64 ic] 29)) = W at *
      have a0 := KA.cell 0
      have a1 := KA.cell 1
      have a2 := KA.cell 2
      have b0 := KB.cell 0
      have b1 := KB.cell 1
      have b2 := KB.cell 2
      have c0 := KC.cell 0
      have c1 := KC.cell 1
      have c2 := KC.cell 2
      simp only [List.getElem?_toArray, List.getElem?_cons_zero, List.getElem?_cons_succ] at a0 a1 a2 b0 b1 b2 c0 c1 c2
      clear KA KB KC
      go_region_held3 (fun w' => w'.cell? ⟨w.heap.size, 0, none⟩ = some (.int .u64 ka) ∧ w'.cell? ⟨w.heap.size, 1, none⟩ = some (.int .u64 ta) ∧ w'.cell? ⟨w.heap.size, 2, none⟩ = some (.int .i64 ia) ∧ w'.cell? ⟨w.heap.size + 1, 0, none⟩ = some (.int .u64 kb) ∧ w'.cell? ⟨w.heap.size + 1, 1, none⟩ = some (.int .u64 tb) ∧ w'.cell? ⟨w.heap.size + 1, 2, none⟩ = some (.int .i64 ib) ∧ w'.cell? ⟨w.heap.size + 2, 0, none⟩ = some (.int .u64 kc) ∧ w'.cell? ⟨w.heap.size + 2, 1, none⟩ = some (.int .u64 tc) ∧ w'.cell? ⟨w.heap.size + 2, 2, none⟩ = some (.int .i64 ic) ∧ Below w.heap.size w w') (first | (refine ⟨?_, ?_, ?_, ?_, ?_, ?_, ?_, ?_, ?_, ?_⟩ <;> first | (exact cell_later (by assumption) (by assumption)) | (exact below_then (by assumption) (by assumption))) | (go_split_ands; refine ⟨?_, ?_, ?_, ?_, ?_, ?_, ?_, ?_, ?_, ?_⟩ <;> first | (exact cell_later (by assumption) (by assumption)) | (exact below_then (by assumption) (by assumption)) | (go_grown; done) | go_keep)) (first
        | (go_at_call 18; refine (less_any _ _ _ _ _ _ _).mono ?_; rintro e w9 ⟨rfl, hb9⟩)
        | (go_at_call 20; refine (rless_any _ _ _ _ _ _ _).mono ?_; rintro e w9 ⟨rfl, hb9⟩))
      all_goals
        have hS : w9.cell? ⟨w.heap.size, 0, none⟩ = some (.int .u64 ka) ∧ w9.cell? ⟨w.heap.size, 1, none⟩ = some (.int .u64 ta) ∧ w9.cell? ⟨w.heap.size, 2, none⟩ = some (.int .i64 ia) ∧ w9.cell? ⟨w.heap.size + 1, 0, none⟩ = some (.int .u64 kb) ∧ w9.cell? ⟨w.heap.size + 1, 1, none⟩ = some (.int .u64 tb) ∧ w9.cell? ⟨w.heap.size + 1, 2, none⟩ = some (.int .i64 ib) ∧ w9.cell? ⟨w.heap.size + 2, 0, none⟩ = some (.int .u64 kc) ∧ w9.cell? ⟨w.heap.size + 2, 1, none⟩ = some (.int .u64 tc) ∧ w9.cell? ⟨w.heap.size + 2, 2, none⟩ = some (.int .i64 ic) ∧ Below w.heap.size w w9 := by assumption
        clear a0 a1 a2 b0 b1 b2 c0 c1 c2 hB0
        obtain ⟨a0, a1, a2, b0, b1, b2, c0, c1, c2, hB9⟩ := hS
        go_wp2_with fail
        refine (less_any _ _ _ _ _ _ _).mono ?_
        rintro e wn ⟨rfl, hbn⟩
        replace a0 := cell_later hbn a0
        replace a1 := cell_later hbn a1
        replace a2 := cell_later hbn a2
        replace b0 := cell_later hbn b0
        replace b1 := cell_later hbn b1
        replace b2 := cell_later hbn b2
        replace c0 := cell_later hbn c0
        replace c1 := cell_later hbn c1
        replace c2 := cell_later hbn c2
        replace hB9 := below_trans hB9 hbn
        clear hbn
        go_wp2_with fail
        refine (less_any _ _ _ _ _ _ _).mono ?_
        rintro e wn ⟨rfl, hbn⟩
        replace a0 := cell_later hbn a0
        replace a1 := cell_later hbn a1
        replace a2 := cell_later hbn a2
        replace b0 := cell_later hbn b0
        replace b1 := cell_later hbn b1
        replace b2 := cell_later hbn b2
        replace c0 := cell_later hbn c0
        replace c1 := cell_later hbn c1
        replace c2 := cell_later hbn c2
        replace hB9 := below_trans hB9 hbn
        clear hbn
        go_wp2_with fail
        refine (less_any _ _ _ _ _ _ _).mono ?_
        rintro e wn ⟨rfl, hbn⟩
        replace a0 := cell_later hbn a0
        replace a1 := cell_later hbn a1
        replace a2 := cell_later hbn a2
        replace b0 := cell_later hbn b0
        replace b1 := cell_later hbn b1
        replace b2 := cell_later hbn b2
        replace c0 := cell_later hbn c0
        replace c1 := cell_later hbn c1
        replace c2 := cell_later hbn c2
        replace hB9 := below_trans hB9 hbn
        clear hbn
        go_wp2_with fail
        refine (known_any _).mono ?_
        rintro e wk ⟨rfl, hbk⟩
        go_wp2
        go_ret
        exact ⟨rfl, below_trans hB9 hbk⟩
    · have he := LtE.tri hab hba
      simp only [Prod.mk.injEq] at he
      obtain ⟨rfl, rfl, rfl⟩ := he
      clear hab hba eab
      go_enter Try.func6, Try.ntmps6
      go_wp2_with fail
      have hB0 : Below w.heap.size w (((w.alloc (.cells #[.int .u64 ka, .int .u64 ta, .int .i64 ia] 29)).alloc (.cells #[.int .u64 ka, .int .u64 ta, .int .i64 ia] 29)).alloc (.cells #[.int .u64 kc, .int .u64 tc, .int .i64 ic] 29)) := ((((Below.refl _ _).alloc (Nat.le_refl _) _).alloc (by simp) _).alloc (by simp; omega) _)
      have KA : Blk (((w.alloc (.cells #[.int .u64 ka, .int .u64 ta, .int .i64 ia] 29)).alloc (.cells #[.int .u64 ka, .int .u64 ta, .int .i64 ia] 29)).alloc (.cells #[.int .u64 kc, .int .u64 tc, .int .i64 ic] 29)) w.heap.size 29 #[.int .u64 ka, .int .u64 ta, .int .i64 ia] := ((Blk.new w _ _).alloc _).alloc _
      have KB : Blk (((w.alloc (.cells #[.int .u64 ka, .int .u64 ta, .int .i64 ia] 29)).alloc (.cells #[.int .u64 ka, .int .u64 ta, .int .i64 ia] 29)).alloc (.cells #[.int .u64 kc, .int .u64 tc, .int .i64 ic] 29)) (w.heap.size + 1) 29 #[.int .u64 ka, .int .u64 ta, .int .i64 ia] := (Blk.newAt (by simp)).alloc _
      have KC : Blk (((w.alloc (.cells #[.int .u64 ka, .int .u64 ta, .int .i64 ia] 29)).alloc (.cells #[.int .u64 ka, .int .u64 ta, .int .i64 ia] 29)).alloc (.cells #[.int .u64 kc, .int .u64 tc, .int .i64 ic] 29)) (w.heap.size + 2) 29 #[.int .u64 kc, .int .u64 tc, .int .i64 ic] := Blk.newAt (by simp)
      generalize (((w.alloc (.cells #[.int .u64 ka, .int .u64 ta, .int .i64 ia] 29)).alloc (.cells #[.int .u64 ka, .int .u64 ta, .int .i64 ia] 29)).alloc (.cells #[.int .u64 kc, .int .u64 tc, .int .i64 ic] 29)) = W at *
      have a0 := KA.cell 0
      have a1 := KA.cell 1
      have a2 := KA.cell 2
      have b0 := KB.cell 0
      have b1 := KB.cell 1
      have b2 := KB.cell 2
      have c0 := KC.cell 0
      have c1 := KC.cell 1
      have c2 := KC.cell 2
      simp only [List.getElem?_toArray, List.getElem?_cons_zero, List.getElem?_cons_succ] at a0 a1 a2 b0 b1 b2 c0 c1 c2
      clear KA KB KC
      go_region_held3 (fun w' => w'.cell? ⟨w.heap.size, 0, none⟩ = some (.int .u64 ka) ∧ w'.cell? ⟨w.heap.size, 1, none⟩ = some (.int .u64 ta) ∧ w'.cell? ⟨w.heap.size, 2, none⟩ = some (.int .i64 ia) ∧ w'.cell? ⟨w.heap.size + 1, 0, none⟩ = some (.int .u64 ka) ∧ w'.cell? ⟨w.heap.size + 1, 1, none⟩ = some (.int .u64 ta) ∧ w'.cell? ⟨w.heap.size + 1, 2, none⟩ = some (.int .i64 ia) ∧ w'.cell? ⟨w.heap.size + 2, 0, none⟩ = some (.int .u64 kc) ∧ w'.cell? ⟨w.heap.size + 2, 1, none⟩ = some (.int .u64 tc) ∧ w'.cell? ⟨w.heap.size + 2, 2, none⟩ = some (.int .i64 ic) ∧ Below w.heap.size w w') (first | (refine ⟨?_, ?_, ?_, ?_, ?_, ?_, ?_, ?_, ?_, ?_⟩ <;> first | (exact cell_later (by assumption) (by assumption)) | (exact below_then (by assumption) (by assumption))) | (go_split_ands; refine ⟨?_, ?_, ?_, ?_, ?_, ?_, ?_, ?_, ?_, ?_⟩ <;> first | (exact cell_later (by assumption) (by assumption)) | (exact below_then (by assumption) (by assumption)) | (go_grown; done) | go_keep)) (first
        | (go_at_call 18; refine (less_any _ _ _ _ _ _ _).mono ?_; rintro e w9 ⟨rfl, hb9⟩)
        | (go_at_call 20; refine (rless_any _ _ _ _ _ _ _).mono ?_; rintro e w9 ⟨rfl, hb9⟩))
      all_goals
        have hS : w9.cell? ⟨w.heap.size, 0, none⟩ = some (.int .u64 ka) ∧ w9.cell? ⟨w.heap.size, 1, none⟩ = some (.int .u64 ta) ∧ w9.cell? ⟨w.heap.size, 2, none⟩ = some (.int .i64 ia) ∧ w9.cell? ⟨w.heap.size + 1, 0, none⟩ = some (.int .u64 ka) ∧ w9.cell? ⟨w.heap.size + 1, 1, none⟩ = some (.int .u64 ta) ∧ w9.cell? ⟨w.heap.size + 1, 2, none⟩ = some (.int .i64 ia) ∧ w9.cell? ⟨w.heap.size + 2, 0, none⟩ = some (.int .u64 kc) ∧ w9.cell? ⟨w.heap.size + 2, 1, none⟩ = some (.int .u64 tc) ∧ w9.cell? ⟨w.heap.size + 2, 2, none⟩ = some (.int .i64 ic) ∧ Below w.heap.size w w9 := by assumption
        clear a0 a1 a2 b0 b1 b2 c0 c1 c2 hB0
        obtain ⟨a0, a1, a2, b0, b1, b2, c0, c1, c2, hB9⟩ := hS
        go_wp2_with fail
        refine (less_any _ _ _ _ _ _ _).mono ?_
        rintro e wn ⟨rfl, hbn⟩
        replace a0 := cell_later hbn a0
        replace a1 := cell_later hbn a1
        replace a2 := cell_later hbn a2
        replace b0 := cell_later hbn b0
        replace b1 := cell_later hbn b1
        replace b2 := cell_later hbn b2
        replace c0 := cell_later hbn c0
        replace c1 := cell_later hbn c1
        replace c2 := cell_later hbn c2
        replace hB9 := below_trans hB9 hbn
        clear hbn
        go_wp2_with fail
        refine (less_any _ _ _ _ _ _ _).mono ?_
        rintro e wn ⟨rfl, hbn⟩
        replace a0 := cell_later hbn a0
        replace a1 := cell_later hbn a1
        replace a2 := cell_later hbn a2
        replace b0 := cell_later hbn b0
        replace b1 := cell_later hbn b1
        replace b2 := cell_later hbn b2
        replace c0 := cell_later hbn c0
        replace c1 := cell_later hbn c1
        replace c2 := cell_later hbn c2
        replace hB9 := below_trans hB9 hbn
        clear hbn
        go_wp2_with fail
        refine (less_any _ _ _ _ _ _ _).mono ?_
        rintro e wn ⟨rfl, hbn⟩
        replace a0 := cell_later hbn a0
        replace a1 := cell_later hbn a1
        replace a2 := cell_later hbn a2
        replace b0 := cell_later hbn b0
        replace b1 := cell_later hbn b1
        replace b2 := cell_later hbn b2
        replace c0 := cell_later hbn c0
        replace c1 := cell_later hbn c1
        replace c2 := cell_later hbn c2
        replace hB9 := below_trans hB9 hbn
        clear hbn
        go_wp2_with fail
        refine (known_any _).mono ?_
        rintro e wk ⟨rfl, hbk⟩
        go_wp2
        go_ret
        exact ⟨rfl, below_trans hB9 hbk⟩
theorem walk (ka ta ia kb tb ib kc tc ic : Int) (w : World) (b0 : 0 ≤ ka ∧ ka ≤ 18446744073709551615) (b1 : 0 ≤ ta ∧ ta ≤ 18446744073709551615) (b2 : -9223372036854775808 ≤ ia ∧ ia ≤ 9223372036854775807) (b3 : 0 ≤ kb ∧ kb ≤ 18446744073709551615) (b4 : 0 ≤ tb ∧ tb ≤ 18446744073709551615) (b5 : -9223372036854775808 ≤ ib ∧ ib ≤ 9223372036854775807) (b6 : 0 ≤ kc ∧ kc ≤ 18446744073709551615) (b7 : 0 ≤ tc ∧ tc ≤ 18446744073709551615) (b8 : -9223372036854775808 ≤ ic ∧ ic ≤ 9223372036854775807) :
    Calls Try.prog 6 #[.agg #[.int .u64 ka, .int .u64 ta, .int .i64 ia], .agg #[.int .u64 kb, .int .u64 tb, .int .i64 ib], .agg #[.int .u64 kc, .int .u64 tc, .int .i64 ic]] w fun e w' => e = .returned (.bool true) ∧ Below w.heap.size w w' := walk0 ka ta ia kb tb ib kc tc ic w

theorem own : ownKnob Try.prog.godebug = none := by kernel_rfl
theorem laidOut : laidOutB Try.prog = true := by kernel_rfl
set_option maxRecDepth 100000 in
theorem lifted (os : Os) (started : os.Started) (H : Type) (enc : TypeId × Value → H) :
    ReturnsInHanded {} Try.checked os 6 .any (Rows.queueOrderSpec.pre6 enc Try.prog Try.f6 Rows.queueOrderRow.domain false) (Rows.queueOrderSpec.post enc Try.prog Try.f6 false true false false) := by
  refine returnsInHanded_of_change (C := Try.checked) own started (by kernel_rfl) Try.func6
    (ChangeSpec.witness6 (enc := enc) (C := Try.checked) false ⟨#[], #[.agg #[.int .u64 0, .int .u64 0, .int .i64 0], .agg #[.int .u64 0, .int .u64 0, .int .i64 0], .agg #[.int .u64 0, .int .u64 0, .int .i64 0]], []⟩ 8 (by kernel_rfl) (by kernel_rfl) (by kernel_rfl) (by kernel_rfl)) ?_
  intro W base args ds gs before hval0 hW hcnd _
  have hval : ∀ (j : Nat) t v, Try.f6.params[j]? = some t → args[j]? = some v → Value.okWide Try.prog W .any base t v := hval0
  have hW' := hW
  obtain ⟨p, q, hA0, hV, rfl, hfz, hnd⟩ := hW
  have hA : DataW.TrodAll enc Try.prog W 0 (fun _ => true) true Try.f6.params.toList args.toList ds p := hA0
  rw [Try.params6] at hA hval
  obtain ⟨v0, vs0, d0, ds0, p0, q0, hargs, rfl, rfl, h0, r0⟩ := trodAll_cons hA
  obtain ⟨v1, vs1, d1, ds1, p1, q1, rfl, rfl, rfl, h1, r1⟩ := trodAll_cons r0
  obtain ⟨v2, vs2, d2, ds2, p2, q2, rfl, rfl, rfl, h2, r2⟩ := trodAll_cons r1
  obtain ⟨rfl, rfl, rfl⟩ := trodAll_nil r2
  obtain rfl : args = #[v0, v1, v2] := by cases args; simp_all
  obtain ⟨rfl, rfl⟩ := trodVars_none hV
  have k0 := h0
  have lt0 : ∀ x ∈ p0, x.block < W.heap.size := by obtain ⟨m, hm⟩ := k0; exact DataW.trod_lt m _ _ _ hm
  obtain ⟨c0_0, c0_1, c0_2, y0_0, y0_1, y0_2, m0, rfl, rfl, rfl, hy0_0, hy0_1, hy0_2⟩ := Joins.open_agg3 Try.underlying29 (by kernel_rfl) (by kernel_rfl) (hval 0 29 v0 rfl rfl) h0
  obtain ⟨a0_0, e0_0, rfl, w0_0⟩ := DataW.trod_int Try.underlying27 hy0_0
  simp only [List.cons.injEq, and_true] at e0_0
  subst e0_0
  obtain ⟨a0_1, e0_1, rfl, w0_1⟩ := DataW.trod_int Try.underlying27 hy0_1
  simp only [List.cons.injEq, and_true] at e0_1
  subst e0_1
  obtain ⟨a0_2, e0_2, rfl, w0_2⟩ := DataW.trod_int Try.underlying3 hy0_2
  simp only [List.cons.injEq, and_true] at e0_2
  subst e0_2
  have k1 := h1
  have lt1 : ∀ x ∈ p1, x.block < W.heap.size := by obtain ⟨m, hm⟩ := k1; exact DataW.trod_lt m _ _ _ hm
  obtain ⟨c1_0, c1_1, c1_2, y1_0, y1_1, y1_2, m1, rfl, rfl, rfl, hy1_0, hy1_1, hy1_2⟩ := Joins.open_agg3 Try.underlying29 (by kernel_rfl) (by kernel_rfl) (hval 1 29 v1 rfl rfl) h1
  obtain ⟨a1_0, e1_0, rfl, w1_0⟩ := DataW.trod_int Try.underlying27 hy1_0
  simp only [List.cons.injEq, and_true] at e1_0
  subst e1_0
  obtain ⟨a1_1, e1_1, rfl, w1_1⟩ := DataW.trod_int Try.underlying27 hy1_1
  simp only [List.cons.injEq, and_true] at e1_1
  subst e1_1
  obtain ⟨a1_2, e1_2, rfl, w1_2⟩ := DataW.trod_int Try.underlying3 hy1_2
  simp only [List.cons.injEq, and_true] at e1_2
  subst e1_2
  have k2 := h2
  have lt2 : ∀ x ∈ p2, x.block < W.heap.size := by obtain ⟨m, hm⟩ := k2; exact DataW.trod_lt m _ _ _ hm
  obtain ⟨c2_0, c2_1, c2_2, y2_0, y2_1, y2_2, m2, rfl, rfl, rfl, hy2_0, hy2_1, hy2_2⟩ := Joins.open_agg3 Try.underlying29 (by kernel_rfl) (by kernel_rfl) (hval 2 29 v2 rfl rfl) h2
  obtain ⟨a2_0, e2_0, rfl, w2_0⟩ := DataW.trod_int Try.underlying27 hy2_0
  simp only [List.cons.injEq, and_true] at e2_0
  subst e2_0
  obtain ⟨a2_1, e2_1, rfl, w2_1⟩ := DataW.trod_int Try.underlying27 hy2_1
  simp only [List.cons.injEq, and_true] at e2_1
  subst e2_1
  obtain ⟨a2_2, e2_2, rfl, w2_2⟩ := DataW.trod_int Try.underlying3 hy2_2
  simp only [List.cons.injEq, and_true] at e2_2
  subst e2_2
  clear hA0 hval0
  refine (walk a0_0 a0_1 a0_2 a1_0 a1_1 a1_2 a2_0 a2_1 a2_2 W (bounds_u64 w0_0) (bounds_u64 w0_1) (bounds_i64 w0_2) (bounds_u64 w1_0) (bounds_u64 w1_1) (bounds_i64 w1_2) (bounds_u64 w2_0) (bounds_u64 w2_1) (bounds_i64 w2_2)).mono fun e W' ⟨he, bel⟩ => ?_
  subst he
  exact ⟨_, rfl, _, _, _, [], _, [], hW', trodAll_mk1 (shut_bool Try.underlying4 _), (trodAll_cons_mk (Below.trod laidOut (by kernel_rfl) (of_decide_eq_true (by kernel_rfl)) k0 bel lt0) (trodAll_cons_mk (Below.trod laidOut (by kernel_rfl) (of_decide_eq_true (by kernel_rfl)) k1 bel lt1) (trodAll_cons_mk (Below.trod laidOut (by kernel_rfl) (of_decide_eq_true (by kernel_rfl)) k2 bel lt2) trodAll_mk0))), rfl, bel.frame _, fun h => by cases h⟩
theorem over : Rows.queueOrderRow.holds Try.pinned (OpenSpec.ofChange Rows.queueOrderSpec) :=
  OpenClaim.holds_of_wide 6 Try.f6 rfl rfl rfl rfl rfl rfl rfl ⟨rfl, rfl, rfl, rfl, rfl⟩ rfl rfl rfl rfl rfl (by kernel_rfl) Try.func6 (by kernel_rfl)
    (of_decide_eq_true (by kernel_rfl)) (by unfold Func.isWrapper; first | (rw [if_pos (by decide +kernel)]; kernel_rfl) | (rw [if_neg (by decide +kernel)]; exact ⟨rfl, rfl⟩))
    (fun os started H enc _ => lifted os started H enc)
/-- The statement. -/
theorem proved : Rows.QueueOrderSaid := over
#print axioms proved
end Go.Proofs.Ytlohbmbahagjbaa.queueOrder
