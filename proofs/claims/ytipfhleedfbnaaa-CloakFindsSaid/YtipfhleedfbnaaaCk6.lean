/- cloak: the document's Right and Does; the fixed calls. -/
import Derived.Test.YtipfhleedfbnaaaCk5
namespace Go.Proofs.Ytipfhleedfbnaaa
set_option linter.unusedVariables false
set_option linter.unusedSimpArgs false
open Go.RowKit
set_option maxHeartbeats 2000000 in
theorem rright_pr (K A : Int) (w : World) : Calls Try.prog 8 #[.agg #[.int .i64 K, .int .u64 A]] w fun e w' => e = .returned (.bool (rightP K)) ∧ Below w.heap.size w w' := by
  have HE := Lib.hid (show rightP K = (decide (1 ≤ K) && decide (K ≤ 65535)) from rfl)
  rw [HE.out]
  by_cases h1 : 1 ≤ K
  · by_cases h2 : K ≤ 65535
    · have e1 := decide_eq_true h1
      have e2 := decide_eq_true h2
      rw [e1, e2]
      go_enter Try.func8, Try.ntmps8
      go_wp2
      go_ret
      exact ⟨rfl, by go_grown⟩
    · have e1 := decide_eq_true h1
      have e2 := decide_eq_false h2
      rw [e1, e2]
      go_enter Try.func8, Try.ntmps8
      go_wp2
      go_ret
      exact ⟨rfl, by go_grown⟩
  · have e1 := decide_eq_false h1
    rw [e1]
    go_enter Try.func8, Try.ntmps8
    go_wp2
    go_ret
    exact ⟨rfl, by go_grown⟩
set_option maxHeartbeats 4000000 in
theorem rdoes_any (K A n ar : Int) (w : World) : Calls Try.prog 34 #[.agg #[.int .i64 K, .int .u64 A], .int .i64 n, .int .u64 ar] w fun e w' => e = .returned (.bool (doesP K A n ar)) ∧ Below w.heap.size w w' := by
  have HE := Lib.hid (show doesP K A n ar = (rightP K && decide (K ≤ n) && decide (A ≤ ar)) from rfl)
  have HR := Lib.hid (rright_pr K A)
  have hA : Below w.heap.size w (w.alloc (.cells #[.int .i64 K, .int .u64 A] 27)) := (Below.refl _ _).alloc (Nat.le_refl _) _
  have HK := Lib.hid (Blk.new w 27 #[.int .i64 K, .int .u64 A])
  have HA := Lib.hid hA; clear hA
  generalize doesP K A n ar = D at *
  generalize rightP K = R at *
  go_enter Try.func34, Try.ntmps34
  go_wp2_with fail
  refine (HR.out _).mono ?_
  rintro e w1 ⟨rfl, hb1⟩
  have HB := Lib.hid (below_trans HA.out hb1)
  have x0 := (HK.out.thru0 hb1).cell 0
  have x1 := (HK.out.thru0 hb1).cell 1
  simp only [List.getElem?_toArray, List.getElem?_cons_zero, List.getElem?_cons_succ] at x0 x1
  clear hb1
  cases R with
  | false =>
    have HE2 := Lib.hid (show D = false by have := HE.out; simpa using this)
    go_wp2
    go_ret
    exact ⟨by rw [HE2.out]; rfl, HB.out⟩
  | true =>
    by_cases h1 : K ≤ n
    · by_cases h2 : A ≤ ar
      · have HE2 := Lib.hid (show D = true by have := HE.out; rw [decide_eq_true h1, decide_eq_true h2] at this; simpa using this)
        go_wp2
        go_ret
        exact ⟨by rw [HE2.out]; rfl, HB.out⟩
      · have HE2 := Lib.hid (show D = false by have := HE.out; rw [decide_eq_false h2] at this; simpa using this)
        have e2 := decide_eq_false h2
        go_wp2
        go_ret
        exact ⟨by rw [HE2.out]; rfl, HB.out⟩
    · have HE2 := Lib.hid (show D = false by have := HE.out; rw [decide_eq_false h1] at this; simpa using this)
      have e1 := decide_eq_false h1
      go_wp2
      go_ret
      exact ⟨by rw [HE2.out]; rfl, HB.out⟩
theorem eq_rectV (a b c d a' b' c' d' : Int) (w : World) : (Op.equalIn 10000 33 (.agg #[.int .i64 a, .int .i64 b, .int .i64 c, .int .i64 d]) (.agg #[.int .i64 a', .int .i64 b', .int .i64 c', .int .i64 d'])).run Try.prog w = .ok (a == a' && (b == b' && (c == c' && d == d'))) w := by
  have u3 := Try.underlying3
  have a3 := Try.isAgg3
  have z3 := Try.sizeOf3
  have hS : Try.prog.underlying 33 = some (.struct (Try.prog.fieldsOf 33)) := by kernel_rfl
  have hp : Try.prog.stoodInHeld 33 = false := by kernel_rfl
  rw [show (10000 : Nat) = 9999 + 1 from rfl, run_equalIn_agg w 9999 33 _ _ hS hp]
  simp only [Program.fieldsOf, Try.underlying33]
  go_simp
  by_cases h1 : a = a' <;> by_cases h2 : b = b' <;> by_cases h3 : c = c' <;> by_cases h4 : d = d' <;> simp [h1, h2, h3, h4]
def kS : List Pn := [(0, 0), (1, 0), (0, 1), (0, 1)]
theorem kS_have : haveK kS 4 = kS := by decide +kernel
theorem kS_find : findK kS 2 2 0 0 = some ⟨0, 0, 1, 0, 16, 0, 0, 1, 2⟩ := by kernel_rfl
theorem kS_err : findE kS 2 2 0 0 = 0 := by decide +kernel
attribute [local go_sem] eq_rectV
set_option maxRecDepth 100000 in
set_option maxHeartbeats 4000000 in
theorem ckknown_any (w : World) : Calls Try.prog 5 #[] w fun e w' => e = .returned (.bool true) ∧ Below w.heap.size w w' := by
  have hA : Below w.heap.size w (w.alloc (.cells #[.int .i64 0, .int .i64 0, .int .i64 1, .int .i64 0, .int .i64 0, .int .i64 1, .int .i64 0, .int .i64 1] 24)) := (Below.refl _ _).alloc (Nat.le_refl _) _
  have hb := Blk.new w 24 #[.int .i64 0, .int .i64 0, .int .i64 1, .int .i64 0, .int .i64 0, .int .i64 1, .int .i64 0, .int .i64 1]
  have hRd : Rd (w.alloc (.cells #[.int .i64 0, .int .i64 0, .int .i64 1, .int .i64 0, .int .i64 0, .int .i64 1, .int .i64 0, .int .i64 1] 24)) (some ⟨w.heap.size, 0, none⟩) 4 4 kS := by
    refine ⟨rfl, Nat.le_refl _, by decide, fun i hi => ⟨w.heap.size, 0, rfl, ?_, ?_⟩⟩ <;> rw [hb.cell]
    · match i, hi with
      | 0, _ | 1, _ | 2, _ | 3, _ => rfl
    · match i, hi with
      | 0, _ | 1, _ | 2, _ | 3, _ => rfl
  have HBT := Lib.hid (built_any _ 4 4 kS _ hRd (by omega))
  have HA := Lib.hid hA
  clear hA hb hRd
  go_enter Try.func5, Try.ntmps5
  go_wp2_with fail
  refine HBT.out.mono ?_
  rintro e w1 ⟨y, cs, A1, c1, rfl, hp⟩
  rw [kS_have] at hp ⊢
  have HB1 := Lib.hid (below_trans HA.out hp.2.2.1)
  have HFI := Lib.hid (find_any y cs kS (17 * 4) 0 0 2 2 w1 hp.1 (by decide))
  clear hp HBT HA
  rw [show kS.length = 4 from rfl]
  go_wp2_with fail
  refine HFI.out.mono ?_
  rintro e w2 ⟨rfl, hb2⟩
  rw [kS_find, kS_err]
  have HB2 := Lib.hid (below_trans HB1.out hb2)
  clear hb2 HFI
  unfold Ck.val
  go_wp2_with fail
  go_ret
  exact ⟨rfl, below_trans HB2.out ((Below.refl _ _).alloc (Nat.le_refl _) _)⟩
end Go.Proofs.Ytipfhleedfbnaaa
