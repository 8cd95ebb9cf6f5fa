/- The document's order of entries, by contract. -/
import Derived.Test.YtdmmglnpeoeicaaQDrain0
namespace Go.Proofs.Ytdmmglnpeoeicaa
set_option linter.unusedVariables false
set_option linter.unusedSimpArgs false
open Go.RowKit
set_option maxHeartbeats 1000000 in
theorem rless_any (k t i k' t' i' : Int) (w : World) : Calls Try.prog 20 #[.agg #[.int .u64 k, .int .u64 t, .int .i64 i], .agg #[.int .u64 k', .int .u64 t', .int .i64 i']] w fun e w' => e = .returned (.bool (ltE (k, t, i) (k', t', i'))) ∧ Below w.heap.size w w' := by
  have HB := Lib.hid (show Below w.heap.size w ((w.alloc (.cells #[.int .u64 k, .int .u64 t, .int .i64 i] 29)).alloc (.cells #[.int .u64 k', .int .u64 t', .int .i64 i'] 29)) from ((Below.refl _ _).alloc (Nat.le_refl _) _).alloc (by simp) _)
  by_cases h1 : k < k'
  · have hv : true = ltE (k, t, i) (k', t', i') := by rw [eq_comm]; simp [ltE, LtE, *]
    have HV := Lib.hid hv; clear hv
    go_enter Try.func20, Try.ntmps20
    go_wp2
    all_goals
      go_ret
      exact ⟨ret_bool HV.out, HB.out⟩
  · by_cases h2 : k = k'
    · subst h2
      have hkk : ¬ k < k := h1
      by_cases h3 : t < t'
      · have hv : true = ltE (k, t, i) (k, t', i') := by rw [eq_comm]; simp [ltE, LtE, *]
        have HV := Lib.hid hv; clear hv
        go_enter Try.func20, Try.ntmps20
        go_wp2
        all_goals
          go_ret
          exact ⟨ret_bool HV.out, HB.out⟩
      · by_cases h4 : t = t'
        · subst h4
          have hv : decide (i < i') = ltE (k, t, i) (k, t, i') := by simp [ltE, LtE]
          have HV := Lib.hid hv; clear hv
          go_enter Try.func20, Try.ntmps20
          go_wp2
          all_goals
            go_ret
            exact ⟨ret_bool HV.out, HB.out⟩
        · have htt : (t == t') = false := by simp [h4]
          have hv : false = ltE (k, t, i) (k, t', i') := by rw [eq_comm]; simp [ltE, LtE, *]
          have HV := Lib.hid hv; clear hv
          go_enter Try.func20, Try.ntmps20
          go_wp2
          all_goals
            go_ret
            exact ⟨ret_bool HV.out, HB.out⟩
    · have hkk : (k == k') = false := by simp [h2]
      have hv : false = ltE (k, t, i) (k', t', i') := by rw [eq_comm]; simp [ltE, LtE, *]
      have HV := Lib.hid hv; clear hv
      go_enter Try.func20, Try.ntmps20
      go_wp2
      all_goals
        go_ret
        exact ⟨ret_bool HV.out, HB.out⟩
end Go.Proofs.Ytdmmglnpeoeicaa
