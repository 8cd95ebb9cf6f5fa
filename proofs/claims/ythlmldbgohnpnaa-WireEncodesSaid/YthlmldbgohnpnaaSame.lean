/- The document's Same and Below over two slices of bytes, num.Get and the document's Get, by contract. -/
import Derived.Test.YthlmldbgohnpnaaRows
import Derived.Test.YthlmldbgohnpnaaWords
import Derived.WalkKit
import Derived.WalkSpells
import Derived.WalkLawsBesides
import Derived.BigQuiet
import Derived.Deep.QuietTactic
import Derived.Lib.Hide
import Derived.Handy
namespace Go.Proofs.Ythlmldbgohnpnaa
set_option linter.unusedVariables false
set_option linter.unusedSimpArgs false
open Go.RowKit
theorem same_step (xs ys : List UInt8) (k : Nat) (hx : k < xs.length) (hy : k < ys.length) (hs : xs.take k = ys.take k) (h : xs[k] = ys[k]) : xs.take (k + 1) = ys.take (k + 1) := by
  rw [List.take_succ_eq_append_getElem hx, List.take_succ_eq_append_getElem hy, hs, h]
set_option maxHeartbeats 400000 in
theorem same_any (A B : Option Addr) (n m c d : Nat) (xs ys : List UInt8) (w : World) (ha : RB w A n xs) (hb : RB w B m ys) (hn : n ≤ maxLen) (hm : m ≤ maxLen) :
    Calls Try.prog 15 #[.slice A n c, .slice B m d] w fun e w' => e = .returned (.bool (decide (xs = ys))) ∧ ∃ q, w' = w.drewN q := by
  unfold maxLen at hn hm
  have HX := Lib.hid ha.len
  have HY := Lib.hid hb.len
  by_cases hl : n = m
  · have HL := Lib.hid hl
    have hl1 : ((n : Int) != (m : Int)) = false := by simp [hl]
    have hle : n ≤ m := by omega
    clear hl
    go_enter Try.func15, Try.ntmps15
    go_wp2
    go_loopw [5] (fun i wr => ∃ k q : Nat, k ≤ n ∧ i = .int .i64 k ∧ wr = w.drewN q ∧ Hid (xs.take k = ys.take k)) (fun i _ => n - (intOf i).toNat)
    case atStart => exact ⟨0, 0, Nat.zero_le _, rfl, rfl, rfl⟩
    case round =>
      obtain ⟨k, q, hk, rfl, rfl, HS⟩ := hrel
      by_cases hlt : k < n
      · obtain ⟨ad, rfl, hab, hac⟩ := ha.at k hlt
        obtain ⟨bd, rfl, hbb, hbc⟩ := hb.at k (by omega)
        by_cases hq : xs[k]'(by rw [HX.out]; exact hlt) = ys[k]'(by rw [HY.out]; omega)
        · have HQ := Lib.hid (same_step xs ys k (by rw [HX.out]; exact hlt) (by rw [HY.out]; omega) HS hq)
          have ht : (((xs[k]'(by rw [HX.out]; exact hlt)).toNat : Int) != ((ys[k]'(by rw [HY.out]; omega)).toNat : Int)) = false := by simp [hq]
          clear hq
          go_wp2
          go_quiet (fail)
          go_wp2
          go_roundw
          case rel => exact ⟨k + 1, _, by omega, by go_num, rfl, HQ.out⟩
          case measure => simp [intOf]; omega
        · have HQ := Lib.hid (show xs ≠ ys from fun e => hq (by subst e; rfl))
          have ht : (((xs[k]'(by rw [HX.out]; exact hlt)).toNat : Int) != ((ys[k]'(by rw [HY.out]; omega)).toNat : Int)) = true := by
            simp only [bne_iff_ne, ne_eq, Int.natCast_inj]; exact fun e => hq (UInt8.toNat.inj e)
          clear hq
          go_wp2
          go_quiet (fail)
          go_wp2
          go_ret
          exact ⟨by simp [HQ.out], _, World.drewN_drewN _ _ _⟩
      · have HQ : Hid (xs = ys) := by
          have h := HS.out
          rwa [List.take_of_length_le (by rw [HX.out]; omega), List.take_of_length_le (by rw [HY.out, ← HL.out]; omega)] at h
        go_wp2
        go_ret
        exact ⟨by simp [HQ.out], _, rfl⟩
  · have HQ := Lib.hid (show xs ≠ ys from fun e => hl (by rw [← HX.out, ← HY.out, e]))
    have hl1 : ((n : Int) != (m : Int)) = true := by simp; omega
    clear hl
    go_enter Try.func15, Try.ntmps15
    go_wp2
    go_ret
    exact ⟨by simp [HQ.out], 0, rfl⟩
end Go.Proofs.Ythlmldbgohnpnaa
