/- audit: filled by contract. -/
import Derived.Test.YtjkkhefdpcpjiaaAu9
namespace Go.Proofs.Ytjkkhefdpcpjiaa
set_option linter.unusedVariables false
set_option linter.unusedSimpArgs false
open Go.RowKit
/-- What is told of a trail that was made and filled. -/
def FiP (w : World) (H : List Ev) (e : Ending) (w' : World) : Prop := ∃ (y : Nat) (v : Value), e = .returned (ptrA y) ∧ Below w.heap.size w w' ∧ TR w' y v H 0 0 ∧ w.heap.size ≤ y ∧ ∀ i, v.ownBlock = some i → w.heap.size ≤ i
set_option maxRecDepth 100000 in
set_option maxHeartbeats 8000000 in
theorem filled_any (w : World) (u : Value) (O : List Ev) (h : ERd elE w u O) : Calls Try.prog 20 #[u] w (FiP w (O.take 200)) := by
  obtain ⟨A1, c1, rfl, hc1, hc2⟩ := h.shape
  have HL := Lib.hid h
  clear h
  obtain ⟨n, hn⟩ : ∃ n, n = O.length := ⟨_, rfl⟩
  rw [← hn] at HL hc1 ⊢
  have HN := Lib.hid hn; clear hn
  have hmx : n ≤ 9223372036854775807 := by unfold maxLen at hc2; omega
  clear hc1 hc2
  go_enter Try.func20, Try.ntmps20
  go_wp2_with fail
  refine (anew_any _).mono ?_
  rintro e w1 ⟨rfl, hT1, hb1⟩
  have HT1 := Lib.hid hT1
  have HB1 := Lib.hid hb1
  clear hT1 hb1
  obtain ⟨y, hy⟩ : ∃ y, w.heap.size = y := ⟨_, rfl⟩
  rw [hy] at HT1 ⊢
  have HY : Hid (w.heap.size ≤ y) := by unfold Hid; omega
  clear hy
  go_wp2_with fail
  go_loopw [4] (fun i wr => ∃ (k : Nat) (v0 : Value), k ≤ n ∧ k ≤ 200 ∧ i = .int .i64 k ∧ Hid (Below w.heap.size w wr) ∧ Hid (TR wr y v0 (O.take k) 0 0) ∧ Hid (∀ i, v0.ownBlock = some i → w.heap.size ≤ i)) (fun i _ => n - (intOf i).toNat)
  case atStart => exact ⟨0, _, Nat.zero_le _, Nat.zero_le _, rfl, HB1.out, by simpa [Hid] using HT1.out, fun i hi => by simp [Value.ownBlock] at hi⟩
  case round =>
    rename World => wr
    clear HT1 HB1
    obtain ⟨k, v0, hk, hk2, rfl, HB, HT, HV⟩ := hrel
    by_cases hlt : k < n
    · have hd1 : decide ((k : Int) < (n : Int)) = true := by simp; exact hlt
      by_cases h200 : k < 200
      · have hd2 : decide ((k : Int) < 200) = true := by simp; omega
        have hkl : k < O.length := by rw [← HN.out]; exact hlt
        have hx : O[k]? = some O[k] := List.getElem?_eq_getElem hkl
        have HTS := Lib.hid (show O.take (k + 1) = O.take k ++ [O[k]] from List.take_succ_eq_append_getElem hkl)
        obtain ⟨g, o, rfl, a0, a1, a2, a3⟩ := (HL.out.below HB.out).four hx
        generalize O[k] = x at *
        clear hx
        obtain ⟨x0, x1, x2, x3⟩ := x
        simp only at a0 a1 a2 a3 HTS
        have hlt2 : (k : Int) < n := by omega
        go_wp2_with fail
        refine (aput_any wr y v0 _ 0 0 ⟨x0, x1, x2, x3⟩ HT.out (by rw [List.length_take]; omega)).mono ?_
        rintro e w2 ⟨v2, rfl, hA⟩
        have HB2 := Lib.hid (hA.ke.bel HB.out HY.out HV.out)
        have HV2 := Lib.hid (hA.farB HB.out.size HV.out)
        have HT2 := Lib.hid (show TR w2 y v2 (O.take (k + 1)) 0 0 by rw [HTS.out]; exact hA.tr)
        clear hA a0 a1 a2 a3 HB HT HV
        go_wp2
        go_roundw
        case rel => exact ⟨k + 1, v2, by omega, by omega, by go_num, HB2, HT2, HV2⟩
        case measure => simp [intOf]; omega
      · have hd2 : decide ((k : Int) < 200) = false := by simp; omega
        obtain rfl : k = 200 := by omega
        go_wp2
        go_ret
        exact ⟨y, v0, rfl, HB.out, HT.out, HY.out, HV.out⟩
    · have hd1 : decide ((k : Int) < (n : Int)) = false := by simp; omega
      obtain rfl : k = n := by omega
      have HT2 := Lib.hid (show TR wr y v0 (O.take 200) 0 0 by have h9 := HT.out; rw [List.take_of_length_le (by rw [← HN.out]; omega)] at h9 ⊢; exact h9)
      go_wp2
      go_ret
      exact ⟨y, v0, rfl, HB.out, HT2.out, HY.out, HV.out⟩
end Go.Proofs.Ytjkkhefdpcpjiaa
