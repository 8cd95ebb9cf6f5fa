/- secret.Mask, the document's Find and Mask, by contract; what must come of fixed calls. -/
import Derived.Test.YtonadchibakaeaaSe1
import Derived.Test.YtonadchibakaeaaRefHex
import Derived.Test.YtonadchibakaeaaShelf
namespace Go.Proofs.Ytonadchibakaeaa
set_option linter.unusedVariables false
set_option linter.unusedSimpArgs false
open Go.RowKit
theorem bdrew {w w' : World} (h : Below w.drew.heap.size w.drew w') : Below w.heap.size w w' := ⟨h.os, h.tape, h.output, h.size, h.block⟩
def star14 : ByteArray := ⟨#[42, 42, 42, 42, 42, 42, 42, 42, 42, 42, 42, 42, 42, 42]⟩
def hx2 (n : Nat) : ByteArray := (hexB n).extract 0 2
def maskB (n : Nat) : ByteArray := hx2 n ++ star14
theorem hexB_size (n : Nat) : (hexB n).size = 16 := by simp [hexB, ByteArray.size, hexD_length]
theorem hx2_size (n : Nat) : (hx2 n).size = 2 := by simp [hx2, ByteArray.size_extract, hexB_size]
theorem maskB_size (n : Nat) : (maskB n).size = 16 := by rw [maskB, ByteArray.size_append, hx2_size]; rfl
theorem sl2 (n : Nat) (w : World) : (Instr.slice 9 (.string (hexB n)) none (some (.int .i64 2)) none).run Try.prog w = .ok (.string (hx2 n)) w := by
  rw [run_slice_string_to_if w 9 _ .i64 2 Try.underlying9, if_pos (by rw [hexB_size]; decide)]
  rfl
theorem addm (n : Nat) (w : World) : (Op.stringOp .add (hx2 n) ⟨#[42, 42, 42, 42, 42, 42, 42, 42, 42, 42, 42, 42, 42, 42]⟩).run Try.prog w = .ok (.string (maskB n)) w := by
  rw [run_string_add_sum]
  · rfl
  · rw [hx2_size]; exact (by decide : 2 + star14.size ≤ 9223372036854775807)
theorem rep14 (w : World) : Calls Try.prog 18 #[.string ⟨#[42]⟩, .int .i64 14] w fun e w' => e = .returned (.string ⟨#[42, 42, 42, 42, 42, 42, 42, 42, 42, 42, 42, 42, 42, 42]⟩) ∧ Below w.heap.size w w' := by
  have h := Try.strings_Repeat ⟨#[42]⟩ 14 w (by decide) (by decide)
  exact h
set_option maxHeartbeats 1000000 in
theorem mask_any (n : Nat) (hn : n ≤ 18446744073709551615) (w : World) : Calls Try.prog 13 #[.int .u64 n] w fun e w' => e = .returned (.string (maskB n)) ∧ Below w.heap.size w w' := by
  have hsl := fun w => sl2 n w
  have had := fun w => addm n w
  have HX := Lib.hid (fun w => hex_any n hn w)
  have HR := Lib.hid rep14
  go_enter Try.func13, Try.ntmps13
  go_wp2_with fail
  go_region_with (first | (go_at_call 17; refine (HX.out _).mono ?_; rintro e w3 ⟨rfl, hb3⟩) | (go_at_call 18; refine (HR.out _).mono ?_; rintro e w4 ⟨rfl, hb4⟩))
  all_goals go_wp2
  all_goals go_ret
  all_goals refine ⟨rfl, ?_⟩
  all_goals first | exact below_trans (bdrew hb3) (bdrew hb4) | exact below_trans (bdrew hb4) (bdrew hb3) | exact below_trans hb3 (bdrew hb4) | exact below_trans (bdrew hb3) hb4 | exact below_trans hb4 (bdrew hb3) | exact below_trans (bdrew hb4) hb3 | exact below_trans hb3 hb4 | exact below_trans hb4 hb3
set_option maxHeartbeats 1000000 in
theorem rmask_any (n : Nat) (hn : n ≤ 18446744073709551615) (w : World) : Calls Try.prog 14 #[.int .u64 n] w fun e w' => e = .returned (.string (maskB n)) ∧ w = w' := by
  have hsl := fun w => sl2 n w
  have had := fun w => addm n w
  have HX := Lib.hid (fun w => refhex_any n hn w)
  go_enter Try.func14, Try.ntmps14
  go_wp2_with fail
  refine (HX.out _).mono ?_
  rintro e w3 ⟨rfl, rfl⟩
  go_wp2
  go_ret
  exact ⟨rfl, rfl⟩
set_option maxHeartbeats 1000000 in
theorem rfind_any (l : List Nat) (A : Option Addr) (n c s : Nat) (hs : s ≤ 18446744073709551615) (w : World) (hA : RU w A n l) (hl : n ≤ 1000000) : Calls Try.prog 11 #[.slice A n c, .int .u64 s] w fun e w' => e = .returned (.int .i64 (fnd l s)) ∧ w = w' := by
  have HL := Lib.hid hA.len
  have HA := Lib.hid hA; clear hA
  have H0 := Lib.hid (fnd_zero l)
  go_enter Try.func11, Try.ntmps11
  go_wp2_with fail
  go_loop [5] (fun i => ∃ k : Nat, k ≤ n ∧ i = .int .i64 k ∧ Hid (fnd (l.take k) s = -1)) (fun i => n - (intOf i).toNat)
  case atStart => exact ⟨0, Nat.zero_le _, rfl, by simp [Hid, fnd_nil]⟩
  case round =>
    obtain ⟨k, hk, rfl, HQ⟩ := hrel
    by_cases hlt : k < n
    · have hlt2 : decide ((k : Int) < (n : Int)) = true := by simp; exact hlt
      by_cases h0 : s = 0
      · have hd : decide (0 < s) = false := by simp; exact h0
        have HS := Lib.hid (show fnd l s = -1 by rw [h0]; exact H0.out)
        clear h0
        go_wp2
        go_ret
        exact ⟨by rw [HS.out]; rfl, rfl⟩
      · have hd : decide (0 < s) = true := by simp; omega
        have hkl : k < l.length := by rw [HL.out]; exact hlt
        obtain ⟨aa, rfl, hba, hca⟩ := HA.out.at k hkl
        have HT := Lib.hid (take_u l k hkl)
        have HK := Lib.hid (show (l.take k).length = k by rw [List.length_take]; omega)
        have HD := Lib.hid (List.take_append_drop (k + 1) l)
        have HB : Hid (l[k] = s → fnd l s = k) := by
          intro h
          have h1 : fnd (l.take (k + 1)) s = k := by rw [HT.out, fnd_snoc, if_pos ⟨by rw [HQ.out]; omega, h, h0⟩, HK.out]
          have h2 : s ∈ l := by rw [← h]; exact List.getElem_mem hkl
          have h3 : s ∈ l.take (k + 1) := ((fnd_mem _ _).1 (by rw [h1]; omega)).2
          rw [← h1, fnd, fnd, if_pos ⟨h0, h2⟩, if_pos ⟨h0, h3⟩]
          rw [← HD.out, List.idxOf_append, if_pos h3, HD.out]
        have HC : Hid (l[k] ≠ s → fnd (l.take (k + 1)) s = -1) := by
          intro h
          rw [HT.out, fnd_snoc, if_neg (fun h1 => h h1.2.1)]; exact HQ.out
        clear HT HK HD
        generalize l[k] = x at hca HB HC
        by_cases hx : x = s
        · have hx' : ((x : Int) == (s : Int)) = true := by simp; omega
          have HE := Lib.hid (HB.out hx)
          clear hx
          go_wp2
          go_ret
          exact ⟨by rw [HE.out]; rfl, rfl⟩
        · have hx' : ((x : Int) == (s : Int)) = false := by simp; omega
          have HE := Lib.hid (HC.out hx)
          clear hx
          go_wp2
          go_round
          case rel => exact ⟨k + 1, by omega, by go_num, HE⟩
          case measure => simp [intOf]; omega
    · have hlt2 : decide ((k : Int) < (n : Int)) = false := by simp; omega
      obtain rfl : k = n := by omega
      have HZ := Lib.hid (show fnd l s = -1 by have := HQ.out; rw [List.take_of_length_le (by rw [HL.out]; omega)] at this; exact this)
      go_wp2
      go_ret
      exact ⟨by rw [HZ.out]; rfl, rfl⟩
end Go.Proofs.Ytonadchibakaeaa
