/- pyramid: the document's Count and Level, by contract. -/
import Derived.Test.YtdbiaijpbkmfhaaPyB
import Derived.Test.YtdbiaijpbkmfhaaCellRef3
import Derived.Deep.RegionHeld3
namespace Go.Proofs.Ytdbiaijpbkmfhaa
set_option linter.unusedVariables false
set_option linter.unusedSimpArgs false
open Go.RowKit
theorem eq_cellV (a b c a' b' c' : Int) (w : World) : (Op.equalIn 10000 24 (.agg #[.int .i64 a, .int .i64 b, .int .i64 c]) (.agg #[.int .i64 a', .int .i64 b', .int .i64 c'])).run Try.prog w = .ok (a == a' && (b == b' && c == c')) w := by
  have u3 := Try.underlying3
  have a3 := Try.isAgg3
  have z3 := Try.sizeOf3
  have hS : Try.prog.underlying 24 = some (.struct (Try.prog.fieldsOf 24)) := by kernel_rfl
  have hp : Try.prog.stoodInHeld 24 = false := by kernel_rfl
  rw [show (10000 : Nat) = 9999 + 1 from rfl, run_equalIn_agg w 9999 24 _ _ hS hp]
  simp only [Program.fieldsOf, Try.underlying24]
  go_simp
  by_cases h1 : a = a' <;> by_cases h2 : b = b' <;> by_cases h3 : c = c' <;> simp [h1, h2, h3]
/-- What a cell's box has of the points, counted so far. -/
theorem hasN_more (a b c d : Int) (S : List Pn) (k : Nat) (hk : k < S.length) : hasN a b c d (S.take (k + 1)) = if hasB a b c d (at_ S k).1 (at_ S k).2 = true then hasN a b c d (S.take k) + 1 else hasN a b c d (S.take k) := by
  rw [take_more hk, hasN, List.countP_append, List.countP_singleton]
  unfold hasN
  split <;> rfl
theorem hasN_le (a b c d : Int) (S : List Pn) : hasN a b c d S ≤ S.length := List.countP_le_length
def rcntN (S : List Pn) (L x y : Int) : Nat := if okC L x y = true then hasN (b0 L x y) (b1 L x y) (b2 L x y) (b3 L x y) S else 0
theorem rcntN_cell (S : List Pn) (hS : FitS S) (L x y : Int) : rcntN S L x y = cntC S L x y := by
  unfold rcntN
  split
  · rename_i h; exact hasN_cell S hS L x y h
  · rename_i h; rw [cntC, if_neg h]
set_option maxRecDepth 100000 in
set_option maxHeartbeats 8000000 in
theorem rcount_any (A : Option Addr) (n c : Nat) (S : List Pn) (L cx cy : Int) (w : World) (h : Rd w A n c S) (hn : n ≤ 1000000) :
    Calls Try.prog 18 #[.slice A n c, .agg #[.int .i64 L, .int .i64 cx, .int .i64 cy]] w fun e w' => e = .returned (.int .i64 (rcntN S L cx cy : Int)) ∧ Below w.heap.size w w' := by
  have hSn := Lib.hid h.1
  have HH := Lib.hid h; clear h
  have HBX := Lib.hid (rbox_u L cx cy)
  have HN := Lib.hid (show rcntN S L cx cy = if okC L cx cy = true then hasN (b0 L cx cy) (b1 L cx cy) (b2 L cx cy) (b3 L cx cy) S else 0 from rfl)
  generalize rcntN S L cx cy = N at *
  generalize b0 L cx cy = r0 at *
  generalize b1 L cx cy = r1 at *
  generalize b2 L cx cy = r2 at *
  generalize b3 L cx cy = r3 at *
  have hA : Below w.heap.size w (w.alloc (.cells #[.int .i64 L, .int .i64 cx, .int .i64 cy] 24)) := (Below.refl _ _).alloc (Nat.le_refl _) _
  have HA := Lib.hid hA; clear hA
  go_enter Try.func18, Try.ntmps18
  go_wp2_with fail
  refine (HBX.out _).mono ?_
  rintro e w1 ⟨rfl, hb1⟩
  have HB1 := Lib.hid (below_trans HA.out hb1)
  clear hb1 HA HBX
  generalize okC L cx cy = ob at *
  have hA2 : Below w1.heap.size w1 (w1.alloc (.cells #[.int .i64 r0, .int .i64 r1, .int .i64 r2, .int .i64 r3] 67)) := (Below.refl _ _).alloc (Nat.le_refl _) _
  have HB2 := Lib.hid (below_trans HB1.out hA2)
  have HK2 := Lib.hid (Blk.new w1 67 #[.int .i64 r0, .int .i64 r1, .int .i64 r2, .int .i64 r3])
  cases ob with
  | false =>
    have HN0 : Hid (N = 0) := Lib.hid (by have := HN.out; simpa using this)
    obtain rfl := HN0.out
    clear HN HN0 hA2
    go_wp2_with fail
    go_loopw [5, 8] (fun m i wr => i = .int .i64 0 ∧ m = .int .i64 0 ∧ wr = w1.alloc (.cells #[.int .i64 r0, .int .i64 r1, .int .i64 r2, .int .i64 r3] 67)) (fun _ i _ => 0)
    case atStart => exact ⟨rfl, rfl, rfl⟩
    case round =>
      obtain ⟨rfl, rfl, rfl⟩ := hrel
      by_cases h0 : 0 < n
      · have h0i : (0 : Int) < (n : Int) := by omega
        go_wp2
        go_ret
        exact ⟨rfl, HB2.out⟩
      · obtain rfl : n = 0 := by omega
        go_wp2
        go_ret
        exact ⟨rfl, HB2.out⟩
  | true =>
    have HN1 : Hid (N = hasN r0 r1 r2 r3 S) := Lib.hid (by have := HN.out; simpa using this)
    clear HN hA2
    go_wp2_with fail
    go_loopw [5, 8] (fun m i wr => ∃ (k : Nat), k ≤ n ∧ i = .int .i64 k ∧ m = .int .i64 (hasN r0 r1 r2 r3 (S.take k) : Int) ∧ Hid (Below w.heap.size w wr ∧ Blk wr w1.heap.size 67 #[.int .i64 r0, .int .i64 r1, .int .i64 r2, .int .i64 r3])) (fun _ i _ => n - (intOf i).toNat)
    case atStart => exact ⟨0, Nat.zero_le _, rfl, rfl, Lib.hid ⟨HB2.out, HK2.out⟩⟩
    case round =>
      obtain ⟨k, hk, rfl, rfl, HR⟩ := hrel
      have hle := hasN_le r0 r1 r2 r3 (S.take k)
      rw [List.length_take] at hle
      by_cases hlt : k < n
      · have hki : (k : Int) < (n : Int) := by omega
        obtain ⟨g, off, rfl, p0, p1⟩ := HH.out.cell hlt
        have q0 := cell_later HR.out.1 p0
        have q1 := cell_later HR.out.1 p1
        have k0 := HR.out.2.cell 0
        have k1 := HR.out.2.cell 1
        have k2 := HR.out.2.cell 2
        have k3 := HR.out.2.cell 3
        simp only [List.getElem?_toArray, List.getElem?_cons_zero, List.getElem?_cons_succ] at k0 k1 k2 k3
        have HM := Lib.hid (hasN_more r0 r1 r2 r3 S k (by rw [hSn.out]; exact hlt))
        have HHS := Lib.hid (ref_has r0 r1 r2 r3 (at_ S k).1 (at_ S k).2)
        generalize at_ S k = p at *
        generalize hm1 : hasN r0 r1 r2 r3 (S.take k) = m1 at *
        generalize hm2 : hasN r0 r1 r2 r3 (S.take (k + 1)) = m2 at *
        have hm3 : (m1 : Int) ≤ 1000000 := by omega
        generalize hasB r0 r1 r2 r3 p.1 p.2 = hb at *
        clear hle
        generalize hbb : w1.heap.size = bb at *
        go_wp2_with fail
        go_region_held3 (fun w' => w'.cell? ⟨bb, 0, none⟩ = some (.int .i64 r0) ∧ w'.cell? ⟨bb, 1, none⟩ = some (.int .i64 r1) ∧ w'.cell? ⟨bb, 2, none⟩ = some (.int .i64 r2) ∧ w'.cell? ⟨bb, 3, none⟩ = some (.int .i64 r3) ∧ w'.cell? ⟨g, off + k * 2, none⟩ = some (.int .i64 p.1) ∧ w'.cell? ⟨g, off + k * 2 + 1, none⟩ = some (.int .i64 p.2)) (first | (refine ⟨?_, ?_, ?_, ?_, ?_, ?_⟩ <;> first | (exact cell_later (by assumption) (by assumption))) | (go_split_ands; refine ⟨?_, ?_, ?_, ?_, ?_, ?_⟩ <;> first | (exact cell_later (by assumption) (by assumption)) | go_keep))
          ((go_at_call 36; refine (HHS.out _).mono ?_; rintro e w9 ⟨rfl, hb9⟩; have HQ := Lib.hid (And.intro (below_trans HR.out.1 (by first | exact hb9 | exact below_of_drew hb9)) (HR.out.2.thru0 (by first | exact hb9 | exact below_of_drew hb9)))))
        all_goals
          go_split_ands
          cases hb with
          | false =>
            have HME := Lib.hid (show m2 = m1 by have := HM.out; simpa using this)
            go_wp2_with fail
            go_roundw
            case rel => exact ⟨k + 1, by omega, by go_num, by rw [hm2, HME.out], HQ⟩
            case measure => simp [intOf]; omega
          | true =>
            have HME := Lib.hid (show m2 = m1 + 1 by have := HM.out; simpa using this)
            go_wp2_with fail
            go_roundw
            case rel => exact ⟨k + 1, by omega, by go_num, by rw [hm2, HME.out]; simp, HQ⟩
            case measure => simp [intOf]; omega
      · obtain rfl : k = n := by omega
        have HE := Lib.hid (show hasN r0 r1 r2 r3 (S.take k) = N by rw [HN1.out, List.take_of_length_le (by rw [hSn.out]; exact Nat.le_refl _)])
        rw [HE.out]
        go_wp2
        go_ret
        exact ⟨rfl, HR.out.1⟩
end Go.Proofs.Ytdbiaijpbkmfhaa
