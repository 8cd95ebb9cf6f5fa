/- pyramid: the document's Same, by contract. -/
import Derived.Test.YtdbiaijpbkmfhaaPyC
namespace Go.Proofs.Ytdbiaijpbkmfhaa
set_option linter.unusedVariables false
set_option linter.unusedSimpArgs false
open Go.RowKit
theorem eq_pointV (a b a' b' : Int) (w : World) : (Op.equalIn 10000 29 (.agg #[.int .i64 a, .int .i64 b]) (.agg #[.int .i64 a', .int .i64 b'])).run Try.prog w = .ok (a == a' && b == b') w := by
  have u3 := Try.underlying3
  have a3 := Try.isAgg3
  have z3 := Try.sizeOf3
  have hS : Try.prog.underlying 29 = some (.struct (Try.prog.fieldsOf 29)) := by kernel_rfl
  have hp : Try.prog.stoodInHeld 29 = false := by kernel_rfl
  rw [show (10000 : Nat) = 9999 + 1 from rfl, run_equalIn_agg w 9999 29 _ _ hS hp]
  simp only [Program.fieldsOf, Try.underlying29]
  go_simp
  by_cases h1 : a = a' <;> by_cases h2 : b = b' <;> simp [h1, h2]
theorem same_more (S T : List Pn) (k : Nat) (hx : k < S.length) (hy : k < T.length) (hs : S.take k = T.take k) (h : at_ S k = at_ T k) : S.take (k + 1) = T.take (k + 1) := by
  rw [at_get hx, at_get hy] at h
  rw [List.take_succ_eq_append_getElem hx, List.take_succ_eq_append_getElem hy, hs, h]
attribute [local go_sem] eq_pointV
set_option maxHeartbeats 4000000 in
theorem rsame_rd (A B : Option Addr) (n m c d : Nat) (S T : List Pn) (w : World) (ha : Rd w A n c S) (hb : Rd w B m d T) :
    Calls Try.prog 19 #[.slice A n c, .slice B m d] w fun e w' => e = .returned (.bool (decide (S = T))) ∧ ∃ q, w' = w.drewN q := by
  have hc1 := ha.2.1
  have hc2 := ha.2.2.1
  have hd1 := hb.2.1
  have hd2 := hb.2.2.1
  unfold maxLen at hc2 hd2
  have HX := Lib.hid ha.1
  have HY := Lib.hid hb.1
  have HA := Lib.hid ha; have HB := Lib.hid hb
  clear ha hb
  by_cases hl : n = m
  · have HL := Lib.hid hl
    have hl1 : ((n : Int) != (m : Int)) = false := by simp [hl]
    have hle : n ≤ m := by omega
    clear hl
    go_enter Try.func19, Try.ntmps19
    go_wp2
    go_loopw [5] (fun i wr => ∃ k q : Nat, k ≤ n ∧ i = .int .i64 k ∧ wr = w.drewN q ∧ Hid (S.take k = T.take k)) (fun i _ => n - (intOf i).toNat)
    case atStart => exact ⟨0, 0, Nat.zero_le _, rfl, rfl, rfl⟩
    case round =>
      obtain ⟨k, q, hk, rfl, rfl, HS⟩ := hrel
      by_cases hlt : k < n
      · have hki : (k : Int) < (n : Int) := by omega
        have hkm : (k : Int) < (m : Int) := by omega
        obtain ⟨g, off, rfl, a0, a1⟩ := HA.out.cell hlt
        obtain ⟨g', off', rfl, b0, b1⟩ := HB.out.cell (show k < m by omega)
        have HMORE := Lib.hid (same_more S T k (by rw [HX.out]; exact hlt) (by rw [HY.out]; omega) HS.out)
        have HNE := Lib.hid (show at_ S k ≠ at_ T k → S ≠ T from fun h e => h (by rw [e]))
        generalize at_ S k = x at *
        generalize at_ T k = y at *
        by_cases hq : x = y
        · subst hq
          have HQ := Lib.hid (HMORE.out rfl)
          go_wp2
          go_quiet (fail)
          go_wp2
          go_roundw
          case rel => exact ⟨k + 1, _, by omega, by go_num, rfl, HQ.out⟩
          case measure => simp [intOf]; omega
        · have HQ := Lib.hid (HNE.out hq)
          have hbb : (x.1 == y.1 && x.2 == y.2) = false := by
            by_cases h1 : x.1 = y.1
            · by_cases h2 : x.2 = y.2
              · exact absurd (Prod.ext h1 h2) hq
              · simp [h2]
            · simp [h1]
          generalize hb1 : (x.1 == y.1) = e1 at *
          generalize hb2 : (x.2 == y.2) = e2 at *
          clear hq HMORE HNE
          cases e1 <;> cases e2
          all_goals first
            | (exfalso; simp at hbb; done)
            | (clear hbb
               go_wp2
               go_quiet (fail)
               go_wp2
               go_ret
               exact ⟨by simp [HQ.out], _, World.drewN_drewN _ _ _⟩)
      · have HQ : Hid (S = T) := by
          have h := HS.out
          rwa [List.take_of_length_le (by rw [HX.out]; omega), List.take_of_length_le (by rw [HY.out, ← HL.out]; omega)] at h
        go_wp2
        go_ret
        exact ⟨by simp [HQ.out], _, rfl⟩
  · have HQ := Lib.hid (show S ≠ T from fun e => hl (by rw [← HX.out, ← HY.out, e]))
    have hl1 : ((n : Int) != (m : Int)) = true := by simp; omega
    clear hl
    go_enter Try.func19, Try.ntmps19
    go_wp2
    go_ret
    exact ⟨by simp [HQ.out], 0, rfl⟩
end Go.Proofs.Ytdbiaijpbkmfhaa
