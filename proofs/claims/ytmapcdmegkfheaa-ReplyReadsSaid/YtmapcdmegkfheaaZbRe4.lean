/- reply: Fault, the document's Length, by contract. -/
import Derived.Test.YtmapcdmegkfheaaZbRe2
import Derived.Test.YtmapcdmegkfheaaZbRe3
namespace Go.Proofs.Ytmapcdmegkfheaa
set_option linter.unusedVariables false
set_option linter.unusedSimpArgs false
open Go.RowKit
theorem FBy.up {w w1 w' : World} {v : Value} {R : Bs} (h : FBy w1 v R w') (hb : Below w.heap.size w w1) : FBy w v R w' := ⟨h.own, hb.trans (h.bel.mono hb.size), fun i hi => Nat.le_trans hb.size (h.far i hi)⟩
theorem encZ (L : List Int) : elZ.encs L = L.map fun x => Value.int .i64 x := by
  induction L with
  | nil => rfl
  | cons x r ih =>
    have e1 : elZ.encs (x :: r) = elZ.enc x ++ elZ.encs r := rfl
    rw [e1, ih]; rfl
theorem put_call (w : World) (k : Nat) (h1 : 1 ≤ k) (h8 : k ≤ 8) (L : List Int) (hl : L.length ≤ 100) :
    Calls Try.prog 27 #[.int .i64 (k : Int), .slice (some ⟨w.heap.size, 0, none⟩) L.length L.length] (w.alloc (.cells (L.map fun x => Value.int .i64 x).toArray 3)) fun e w' => ∃ v, e = .returned v ∧ FBy w v (rowB k L) w' := by
  refine (puti_any _ k h1 h8 L w.heap.size L.length (EOwn.block elZ_ok (Blk.new w 3 _) (by rw [encZ]) (by omega)) hl).mono ?_
  rintro e w' ⟨v, rfl, hf⟩
  exact ⟨v, rfl, hf.up ((Below.refl _ _).alloc (Nat.le_refl _) _)⟩
/-- What a status is told by. -/
def stN (s : Int) : Nat := if 0 ≤ s ∧ s ≤ 12 then s.toNat else 1
theorem stN_row (s : Int) (h : 0 ≤ s ∧ s ≤ 12) : rowB 1 [s, 0, 0] = [UInt8.ofNat (stN s), 0, 0] := by
  have hs : s = 0 ∨ s = 1 ∨ s = 2 ∨ s = 3 ∨ s = 4 ∨ s = 5 ∨ s = 6 ∨ s = 7 ∨ s = 8 ∨ s = 9 ∨ s = 10 ∨ s = 11 ∨ s = 12 := by omega
  rcases hs with rfl | rfl | rfl | rfl | rfl | rfl | rfl | rfl | rfl | rfl | rfl | rfl | rfl <;> rfl
theorem stN_le (s : Int) : stN s ≤ 12 := by unfold stN; split <;> omega
set_option maxRecDepth 100000 in
set_option maxHeartbeats 2000000 in
theorem fault_any (s : Int) (w : World) : Calls Try.prog 12 #[.int .i64 s] w fun e w' => ∃ v, e = .returned v ∧ FBy w v [UInt8.ofNat (stN s), 0, 0] w' := by
  have HW := Lib.hid (within_any s 0 12 w)
  by_cases h : 0 ≤ s ∧ s ≤ 12
  · have hb : withinB s 0 12 = true := by unfold withinB; exact decide_eq_true h
    rw [hb] at HW
    have HP := Lib.hid (put_call w 1 (by decide) (by decide) [s, 0, 0] (by simp))
    have HS := Lib.hid (stN_row s h)
    rw [HS.out] at HP
    clear h hb
    go_enter Try.func12, Try.ntmps12
    go_wp2_with fail
    refine HW.out.mono ?_
    rintro e w1 ⟨rfl, hw1⟩
    subst hw1
    go_wp2_with fail
    refine HP.out.mono ?_
    rintro e w2 ⟨v, rfl, hf⟩
    obtain ⟨A, c, hv, _, _⟩ := hf.own.slice
    subst hv
    have HF := Lib.hid hf
    clear hf
    go_wp2_with fail
    go_ret
    exact ⟨_, rfl, HF.out⟩
  · have hb : withinB s 0 12 = false := by unfold withinB; exact decide_eq_false h
    rw [hb] at HW
    have HP := Lib.hid (put_call w 1 (by decide) (by decide) [1, 0, 0] (by decide))
    have HS : Hid (rowB 1 [1, 0, 0] = [UInt8.ofNat (stN s), 0, 0]) := Lib.hid (by rw [show stN s = stN 1 by unfold stN; rw [if_neg h]; rfl]; exact stN_row 1 (by decide))
    rw [HS.out] at HP
    clear h hb
    go_enter Try.func12, Try.ntmps12
    go_wp2_with fail
    refine HW.out.mono ?_
    rintro e w1 ⟨rfl, hw1⟩
    subst hw1
    go_wp2_with fail
    refine HP.out.mono ?_
    rintro e w2 ⟨v, rfl, hf⟩
    obtain ⟨A, c, hv, _, _⟩ := hf.own.slice
    subst hv
    have HF := Lib.hid hf
    clear hf
    go_wp2_with fail
    go_ret
    exact ⟨_, rfl, HF.out⟩
set_option maxHeartbeats 2000000 in
theorem rth19_any (op : Int) (w : World) : Calls Try.prog 40 #[.int .i64 op] w fun e w' => e = .returned (.bool (opB op)) ∧ w = w' := by
  unfold opB
  by_cases h1 : 1 ≤ op
  · by_cases h2 : op ≤ 19
    · rw [decide_eq_true ⟨h1, h2⟩]
      go_enter Try.func40, Try.ntmps40
      go_wp2
      go_ret
      exact ⟨rfl, rfl⟩
    · rw [decide_eq_false (fun h => h2 h.2)]
      have h3 : 19 < op := by omega
      go_enter Try.func40, Try.ntmps40
      go_wp2
      go_ret
      exact ⟨ret_bool (by simp), rfl⟩
  · rw [decide_eq_false (fun h => h1 h.1)]
    go_enter Try.func40, Try.ntmps40
    go_wp2
    go_ret
    exact ⟨rfl, rfl⟩
set_option maxHeartbeats 2000000 in
theorem rth20_any (op m : Int) (w : World) : Calls Try.prog 25 #[.int .i64 op, .int .i64 m] w fun e w' => e = .returned (.bool (opB op && mB m)) ∧ w = w' := by
  have HT := Lib.hid (rth19_any op w)
  cases hop : opB op with
  | false =>
    rw [hop] at HT
    clear hop
    go_enter Try.func25, Try.ntmps25
    go_wp2_with ((go_at_call 40; refine HT.out.mono ?_; rintro e w9 ⟨rfl, hw9⟩; subst hw9))
    go_ret
    exact ⟨rfl, rfl⟩
  | true =>
    rw [hop] at HT
    clear hop
    rw [Bool.true_and]
    unfold mB
    by_cases h1 : 0 ≤ m
    · by_cases h2 : m ≤ 64
      · rw [decide_eq_true ⟨h1, h2⟩]
        go_enter Try.func25, Try.ntmps25
        go_wp2_with ((go_at_call 40; refine HT.out.mono ?_; rintro e w9 ⟨rfl, hw9⟩; subst hw9))
        go_ret
        exact ⟨rfl, rfl⟩
      · rw [decide_eq_false (fun h => h2 h.2)]
        have h3 : 64 < m := by omega
        go_enter Try.func25, Try.ntmps25
        go_wp2_with ((go_at_call 40; refine HT.out.mono ?_; rintro e w9 ⟨rfl, hw9⟩; subst hw9))
        go_ret
        exact ⟨ret_bool (by simpa using h3), rfl⟩
    · rw [decide_eq_false (fun h => h1 h.1)]
      go_enter Try.func25, Try.ntmps25
      go_wp2_with ((go_at_call 40; refine HT.out.mono ?_; rintro e w9 ⟨rfl, hw9⟩; subst hw9))
      go_ret
      exact ⟨rfl, rfl⟩
set_option maxHeartbeats 2000000 in
theorem rlength_any (op m : Int) (w : World) : Calls Try.prog 10 #[.int .i64 op, .int .i64 m] w fun e w' => e = .returned (.int .i64 (lenN op m)) ∧ Below w.heap.size w w' := by
  have HT := Lib.hid (rth20_any op m w)
  cases hb : (opB op && mB m) with
  | false =>
    have HL : Hid (lenN op m = 3) := Lib.hid (by unfold lenN; rw [if_neg (by rw [← Bool.and_eq_true, hb]; simp)])
    rw [hb] at HT
    clear hb
    go_enter Try.func10, Try.ntmps10
    go_wp2_with ((go_at_call 25; refine HT.out.mono ?_; rintro e w9 ⟨rfl, hw9⟩; subst hw9))
    go_ret
    exact ⟨by rw [HL.out]; rfl, Below.refl _ _⟩
  | true =>
    rw [hb] at HT
    rw [Bool.and_eq_true] at hb
    have ho : 1 ≤ op ∧ op ≤ 19 := by simpa [opB] using hb.1
    have hmm : 0 ≤ m ∧ m ≤ 64 := by simpa [mB] using hb.2
    obtain ⟨k, rfl⟩ : ∃ k : Nat, op = (k : Int) := ⟨op.toNat, by omega⟩
    obtain ⟨t, rfl⟩ : ∃ t : Nat, m = (t : Int) := ⟨m.toNat, by omega⟩
    have HL : Hid (lenN k t = 3 + (onceN k : Int) + (t : Int) * (eachN k : Int)) := Lib.hid (by unfold lenN; rw [if_pos hb, Int.toNat_natCast])
    have HON := Lib.hid (fun w => ronce_any k (by omega) (by omega) w)
    have HEA := Lib.hid (fun w => reach_any k (by omega) (by omega) w)
    have l1 := onceN_le k
    have l2 := eachN_le k
    have ht64 : t ≤ 64 := by omega
    clear hb ho hmm
    generalize onceN k = a at *
    generalize eachN k = b at *
    have hp : t * b ≤ 64 * 11 := Nat.mul_le_mul ht64 l2
    have hpi : (t : Int) * (b : Int) = ((t * b : Nat) : Int) := (Int.natCast_mul t b).symm
    have hw1 : IntKind.i64.wrap ((t : Int) * (b : Int)) = ((t * b : Nat) : Int) := by
      rw [hpi, IntKind.wrap_i64]
      omega
    have HPR := Lib.hid hpi.symm
    clear hpi
    generalize t * b = p at *
    go_enter Try.func10, Try.ntmps10
    go_wp2_with fail
    refine HT.out.mono ?_
    rintro e w9 ⟨rfl, hw9⟩
    subst hw9
    go_wp2_with fail
    refine (HON.out _).mono ?_
    rintro e w1 ⟨rfl, hb1⟩
    go_wp2_with fail
    refine (HEA.out _).mono ?_
    rintro e w2 ⟨rfl, hb2⟩
    have HB2 := Lib.hid (below_trans hb1 hb2)
    clear hb1 hb2
    go_wp2_with fail
    go_ret
    exact ⟨by rw [HL.out, ← HPR.out]; rfl, HB2.out⟩
end Go.Proofs.Ytmapcdmegkfheaa
