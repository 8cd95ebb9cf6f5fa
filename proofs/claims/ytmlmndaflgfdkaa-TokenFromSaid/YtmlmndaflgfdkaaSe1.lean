/- secret.Equal, Find, Fresh by contract. -/
import Derived.Test.YtmlmndaflgfdkaaSe0
import Derived.Test.YtmlmndaflgfdkaaPut
import Derived.Laws.BitsAllLaws
import Derived.Deep.DeepCutAuto
namespace Go.Proofs.Ytmlmndaflgfdkaa
set_option linter.unusedVariables false
set_option linter.unusedSimpArgs false
open Go.RowKit
theorem unlike_any (a b : Nat) (ha : a ≤ 255) (hb : b ≤ 255) (w : World) : Calls Try.prog 57 #[.int .u8 a, .int .u8 b] w fun e w' => e = .returned (.int .u8 ((a ^^^ b : Nat) : Int)) ∧ w = w' := by
  have h := u8_xor_nat a b (by omega) (by omega)
  go_enter Try.func57, Try.ntmps57
  go_wp2
  go_ret
  exact ⟨rfl, rfl⟩
def CmpPost (a b : Nat) (w : World) (e : Ending) (w' : World) : Prop := ∃ f : Nat, f ≤ 255 ∧ e = .returned (.tuple #[.int .u8 f, .int .i64 8]) ∧ (f = 0 ↔ a = b) ∧ Below w.heap.size w w'
theorem be_end (k n : Nat) : be (k + 1) n = be k (n / 256) ++ [UInt8.ofNat (n % 256)] := by
  induction k with
  | zero => simp [be, bN]
  | succ k ih => rw [be, ih, be, bN_s]; rfl
theorem be_inj (k a b : Nat) (ha : a < 256 ^ k) (hb : b < 256 ^ k) (h : be k a = be k b) : a = b := by
  induction k generalizing a b with
  | zero => simp at ha hb; omega
  | succ k ih =>
    rw [be_end, be_end] at h
    have h1 := List.append_inj h (by simp [be_length])
    have h2 := List.cons.inj h1.2
    have h3 := congrArg UInt8.toNat h2.1
    simp only [UInt8.toNat_ofNat'] at h3
    rw [Nat.pow_succ] at ha hb
    have h4 := ih (a / 256) (b / 256) ((Nat.div_lt_iff_lt_mul (by omega)).2 ha) ((Nat.div_lt_iff_lt_mul (by omega)).2 hb) h1.1
    omega
theorem or_zero (a b : Nat) : a ||| b = 0 ↔ a = 0 ∧ b = 0 := by
  constructor
  · intro h
    have h1 : a ≤ a ||| b := Nat.left_le_or
    have h2 : b ≤ a ||| b := Nat.right_le_or
    omega
  · rintro ⟨rfl, rfl⟩; rfl
theorem xor_zero (a b : Nat) : a ^^^ b = 0 ↔ a = b := by
  constructor
  · intro h
    have := congrArg (· ^^^ b) h
    simpa [Nat.xor_assoc] using this
  · rintro rfl; simp
theorem or_le (a b : Nat) (ha : a ≤ 255) (hb : b ≤ 255) : a ||| b ≤ 255 := by have := Nat.or_lt_two_pow (n := 8) (x := a) (y := b) (by omega) (by omega); omega
theorem xor_le (a b : Nat) (ha : a ≤ 255) (hb : b ≤ 255) : a ^^^ b ≤ 255 := by have := Nat.xor_lt_two_pow (n := 8) (x := a) (y := b) (by omega) (by omega); omega
/-- The first k bytes are the same. -/
def upto (k : Nat) (x y : List UInt8) : Prop := x.take k = y.take k
theorem upto_more (k : Nat) (x y : List UInt8) (hx : k < x.length) (hy : k < y.length) : upto (k + 1) x y ↔ upto k x y ∧ x[k].toNat = y[k].toNat := by
  unfold upto
  rw [List.take_succ_eq_append_getElem hx, List.take_succ_eq_append_getElem hy]
  constructor
  · intro h
    have h1 := List.append_inj h (by simp; omega)
    exact ⟨h1.1, by have := List.cons.inj h1.2; rw [this.1]⟩
  · rintro ⟨h1, h2⟩
    rw [h1, UInt8.toNat_inj.1 h2]
set_option maxHeartbeats 1000000 in
theorem compare_any (a b : Nat) (ha : a ≤ 18446744073709551615) (hb : b ≤ 18446744073709551615) (w : World) : Calls Try.prog 56 #[.int .u64 a, .int .u64 b, .func (.func 57) #[] #[]] w fun e w' => CmpPost a b w e w' := by
  go_enter Try.func56, Try.ntmps56
  go_wp2_with fail
  refine (put_any a ha 8 (by omega) (by omega) _).mono ?_
  rintro e w1 (⟨_, A, c, rfl, hA, hb1⟩ | ⟨hbad, _⟩)
  case inr => exact absurd (u64_lt a ha) (by omega)
  go_wp2_with fail
  refine (put_any b hb 8 (by omega) (by omega) _).mono ?_
  rintro e w2 (⟨_, B, d, rfl, hB, hb2⟩ | ⟨hbad, _⟩)
  case inr => exact absurd (u64_lt b hb) (by omega)
  have HA := Lib.hid (hA.below hb2)
  have HB := Lib.hid hB
  have HW := Lib.hid (below_trans hb1 hb2)
  clear hA hB hb1 hb2
  go_wp2
  go_loopw [12, 13, 14, 25] (fun f st _ i wr => ∃ k n : Nat, k ≤ 8 ∧ n ≤ 255 ∧ i = .int .i64 k ∧ st = .int .i64 k ∧ f = .int .u8 n ∧ Hid (n = 0 ↔ upto k (be 8 a) (be 8 b)) ∧ Hid (Below w.heap.size w wr) ∧ Hid (RB wr A 8 (be 8 a)) ∧ Hid (RB wr B 8 (be 8 b))) (fun _ _ _ i _ => 8 - (intOf i).toNat)
  case atStart => exact ⟨0, 0, by omega, by omega, rfl, rfl, rfl, by simp [Hid, upto], HW, HA, HB⟩
  case round =>
    obtain ⟨k, n, hk, hn, rfl, rfl, rfl, HN, HW, HA, HB⟩ := hrel
    by_cases hlt : k < 8
    · obtain ⟨aa, rfl, hba, hca⟩ := HA.out.at k hlt
      obtain ⟨bb, rfl, hbb, hcb⟩ := HB.out.at k hlt
      have HM := Lib.hid (upto_more k (be 8 a) (be 8 b) (by rw [be_length]; exact hlt) (by rw [be_length]; exact hlt))
      have hx : ((be 8 a)[k]'(by rw [be_length]; exact hlt)).toNat ≤ 255 := by have := UInt8.toNat_lt ((be 8 a)[k]'(by rw [be_length]; exact hlt)); omega
      have hy : ((be 8 b)[k]'(by rw [be_length]; exact hlt)).toNat ≤ 255 := by have := UInt8.toNat_lt ((be 8 b)[k]'(by rw [be_length]; exact hlt)); omega
      generalize ((be 8 a)[k]'(by rw [be_length]; exact hlt)).toNat = x at hca HM hx
      generalize ((be 8 b)[k]'(by rw [be_length]; exact hlt)).toNat = y at hcb HM hy
      have HU := Lib.hid (fun w => unlike_any x y hx hy w)
      have hz := xor_le x y hx hy
      have hor := u8_or_nat n (x ^^^ y) (by omega) (by omega)
      have HZ : Hid ((n ||| (x ^^^ y)) = 0 ↔ upto (k + 1) (be 8 a) (be 8 b)) := by
        unfold Hid
        rw [or_zero, xor_zero, HN.out, HM.out]
      have hz2 := or_le n (x ^^^ y) hn hz
      generalize x ^^^ y = z at HU hor HZ hz hz2
      generalize n ||| z = m at hor HZ hz2
      clear HM hz
      have hk1 : IntKind.i64.wrap ((k : Int) + 1) = (k : Int) + 1 := IntWalk.i64_in _ (by omega)
      go_wp2_with fail
      go_quiet ((go_at_call 57; exact Calls.quiet_of_same ((HU.out _).mono fun _ _ h => ⟨h.1, h.2.symm⟩)))
      clear hk1
      go_wp2
      go_roundw
      case rel => exact ⟨k + 1, m, by omega, hz2, by go_num, by go_num, rfl, HZ, below_drawn HW.out _, HA.out.drawn _, HB.out.drawn _⟩
      case measure => simp [intOf]; omega
    · obtain rfl : k = 8 := by omega
      go_wp2
      go_ret2
      refine ⟨n, hn, rfl, ?_, HW.out⟩
      rw [HN.out]
      unfold upto
      rw [List.take_of_length_le (by rw [be_length]; omega), List.take_of_length_le (by rw [be_length]; omega)]
      exact ⟨fun h => be_inj 8 a b (u64_lt a ha) (u64_lt b hb) h, fun h => by rw [h]⟩
set_option maxHeartbeats 1000000 in
theorem equal_any (a b : Nat) (ha : a ≤ 18446744073709551615) (hb : b ≤ 18446744073709551615) (w : World) : Calls Try.prog 37 #[.int .u64 a, .int .u64 b] w fun e w' => e = .returned (.tuple #[.bool (decide (a = b)), .int .i64 8]) ∧ Below w.heap.size w w' := by
  go_enter Try.func37, Try.ntmps37
  go_wp2_with fail
  refine (compare_any a b ha hb _).mono ?_
  rintro e w1 ⟨f, hf, rfl, hfe, hb1⟩
  have HB := Lib.hid hb1
  have hd : ((f : Int) == 0) = decide (a = b) := by
    rw [Bool.eq_iff_iff, beq_iff_eq, decide_eq_true_eq, ← hfe]; omega
  have HD := Lib.hid hd
  clear hd hb1 hfe
  go_wp2
  go_ret2
  exact ⟨by rw [HD.out]; rfl, HB.out⟩
theorem equal_yes (a : Nat) (ha : a ≤ 18446744073709551615) (w : World) : Calls Try.prog 37 #[.int .u64 a, .int .u64 a] w fun e w' => e = .returned (.tuple #[.bool true, .int .i64 8]) ∧ Below w.heap.size w w' := by
  have h := equal_any a a ha ha w
  simpa using h
theorem equal_no (a b : Nat) (ha : a ≤ 18446744073709551615) (hb : b ≤ 18446744073709551615) (h0 : a ≠ b) (w : World) : Calls Try.prog 37 #[.int .u64 a, .int .u64 b] w fun e w' => e = .returned (.tuple #[.bool false, .int .i64 8]) ∧ Below w.heap.size w w' := by
  have h := equal_any a b ha hb w
  simpa [h0] using h
theorem take_u (l : List Nat) (k : Nat) (h : k < l.length) : l.take (k + 1) = l.take k ++ [l[k]] := List.take_succ_eq_append_getElem h
set_option maxHeartbeats 2000000 in
theorem find_any (l : List Nat) (A : Option Addr) (n c s : Nat) (hs : s ≤ 18446744073709551615) (w : World) (hA : RU w A n l) (hl : n ≤ 1000000) : Calls Try.prog 52 #[.slice A n c, .int .u64 s] w fun e w' => e = .returned (.tuple #[.int .i64 (fnd l s), .int .i64 (8 * n : Nat)]) ∧ Below w.heap.size w w' := by
  have HL := Lib.hid hA.len
  have HA := Lib.hid hA; clear hA
  have F0 := Lib.hid (fnd_nil s)
  go_enter Try.func52, Try.ntmps52
  go_wp2_with fail
  go_loopw [6, 7, 8, 9, 10, 11, 14] (fun p st _ _ _ _ i wr => ∃ k : Nat, ∃ q : Int, k ≤ n ∧ -1 ≤ q ∧ q ≤ k ∧ i = .int .i64 k ∧ st = .int .i64 (8 * k : Nat) ∧ p = .int .i64 q ∧ Hid (q = fnd (l.take k) s) ∧ Hid (Below w.heap.size w wr) ∧ Hid (RU wr A n l)) (fun _ _ _ _ _ _ i _ => n - (intOf i).toNat)
  case atStart => exact ⟨0, -1, by omega, by omega, by omega, rfl, rfl, rfl, by simp [Hid, fnd_nil], (Below.refl _ _), HA.out⟩
  case round =>
    obtain ⟨k, q, hk, hq, hqk, rfl, rfl, rfl, HQ, HW, HA⟩ := hrel
    by_cases hlt : k < n
    · have hkl : k < l.length := by rw [HL.out]; exact hlt
      obtain ⟨aa, rfl, hba, hca⟩ := HA.out.at k hkl
      have HT := Lib.hid (take_u l k hkl)
      have hx : l[k] ≤ 18446744073709551615 := HA.out.le _ (List.getElem_mem hkl)
      have HK := Lib.hid (show (l.take k).length = k by rw [List.length_take]; omega)
      have HN : Hid (∀ q', (¬ (fnd (l.take k) s < 0 ∧ l[k] = s ∧ s ≠ 0) → q' = q) → (fnd (l.take k) s < 0 ∧ l[k] = s ∧ s ≠ 0 → q' = k) → q' = fnd (l.take (k + 1)) s) := by
        intro q' h1 h2
        rw [HT.out, fnd_snoc]
        split
        · rename_i h; rw [HK.out]; exact h2 h
        · rename_i h; rw [h1 h]; exact HQ.out
      clear HT HK
      generalize l[k] = x at hca hx HN
      have hlt2 : (k : Int) < n := by omega
      by_cases hxs : x = s
      · subst hxs
        by_cases h0 : x = 0
        · have h0' : ((x : Int) != 0) = false := by simp; exact h0
          have H0 := Lib.hid h0
          clear h0
          go_wp2_with fail
          refine (equal_yes x hx _).mono ?_
          rintro e w1 ⟨rfl, hb1⟩
          have HB := Lib.hid (below_trans HW.out hb1)
          have HA2 := Lib.hid (HA.out.below hb1)
          clear hb1 hca
          go_wp2
          go_roundw
          case rel => exact ⟨k + 1, q, by omega, by omega, by omega, by go_num, by go_num, rfl, HN.out q (fun _ => rfl) (fun h => absurd H0.out h.2.2), HB.out, HA2.out⟩
          case measure => simp [intOf]; omega
        · have h0' : ((x : Int) != 0) = true := by simp; exact h0
          by_cases hq0 : q < 0
          · have HQ0 := Lib.hid (show fnd (l.take k) x < 0 by rw [← HQ.out]; exact hq0)
            go_wp2_with fail
            refine (equal_yes x hx _).mono ?_
            rintro e w1 ⟨rfl, hb1⟩
            have HB := Lib.hid (below_trans HW.out hb1)
            have HA2 := Lib.hid (HA.out.below hb1)
            clear hb1 hca
            go_wp2
            go_roundw
            case rel => exact ⟨k + 1, k, by omega, by omega, by omega, by go_num, by go_num, by first | rfl | trivial, HN.out k (fun h => absurd ⟨HQ0.out, trivial, h0⟩ h) (fun h => by first | rfl | trivial), HB.out, HA2.out⟩
            case measure => simp [intOf]; omega
          · have HQ0 := Lib.hid (show ¬ fnd (l.take k) x < 0 by rw [← HQ.out]; exact hq0)
            go_wp2_with fail
            refine (equal_yes x hx _).mono ?_
            rintro e w1 ⟨rfl, hb1⟩
            have HB := Lib.hid (below_trans HW.out hb1)
            have HA2 := Lib.hid (HA.out.below hb1)
            clear hb1 hca
            go_wp2
            go_roundw
            case rel => exact ⟨k + 1, q, by omega, by omega, by omega, by go_num, by go_num, by first | rfl | trivial, HN.out q (fun _ => rfl) (fun h => absurd h.1 (by have := HQ0.out; omega)), HB.out, HA2.out⟩
            case measure => simp [intOf]; omega
      · go_wp2_with fail
        refine (equal_no x s hx hs hxs _).mono ?_
        rintro e w1 ⟨rfl, hb1⟩
        have HB := Lib.hid (below_trans HW.out hb1)
        have HA2 := Lib.hid (HA.out.below hb1)
        clear hb1 hca
        go_wp2
        go_roundw
        case rel => exact ⟨k + 1, q, by omega, by omega, by omega, by go_num, by go_num, rfl, HN.out q (fun _ => rfl) (fun h => absurd h.2.1 hxs), HB.out, HA2.out⟩
        case measure => simp [intOf]; omega
    · obtain rfl : k = n := by omega
      have HZ := Lib.hid (show q = fnd l s by rw [HQ.out, List.take_of_length_le (by rw [HL.out]; omega)])
      go_wp2
      go_ret2
      exact ⟨by rw [HZ.out]; rfl, HW.out⟩
/-- A draw's secret: what is told and the error. -/
def frE (l : List Nat) (s : Nat) : Int := if s = 0 then 40 else if 0 ≤ fnd l s then 20 else 0
def frV (l : List Nat) (s : Nat) : Int := if frE l s = 0 then s else 0
set_option maxHeartbeats 1000000 in
theorem fresh_any (l : List Nat) (A : Option Addr) (n c s : Nat) (hs : s ≤ 18446744073709551615) (w : World) (hA : RU w A n l) (hl : n ≤ 1000000) : Calls Try.prog 49 #[.slice A n c, .int .u64 s] w fun e w' => e = .returned (.tuple #[.int .u64 (frV l s), .int .i64 (frE l s)]) ∧ Below w.heap.size w w' := by
  have HA := Lib.hid hA; clear hA
  by_cases h0 : s = 0
  · subst h0
    have e1 : frE l 0 = 40 := by simp [frE]
    have e2 : frV l 0 = 0 := by simp [frV, e1]
    rw [e1, e2]
    go_enter Try.func49, Try.ntmps49
    go_wp2
    go_ret2
    exact ⟨rfl, Below.refl _ _⟩
  · have h0' : ((s : Int) == 0) = false := by simp; exact h0
    by_cases h1 : 0 ≤ fnd l s
    · have e1 : frE l s = 20 := by simp [frE, h0, h1]
      have e2 : frV l s = 0 := by simp [frV, e1]
      rw [e1, e2]
      have HF := Lib.hid (fun w hA => find_any l A n c s hs w hA hl)
      generalize fnd l s = q at h1 HF
      clear e1 e2
      go_enter Try.func49, Try.ntmps49
      go_wp2_with fail
      refine (HF.out _ HA.out).mono ?_
      rintro e w1 ⟨rfl, hb⟩
      have HB := Lib.hid hb; clear hb
      go_wp2
      go_ret2
      exact ⟨rfl, HB.out⟩
    · have e1 : frE l s = 0 := by simp [frE, h0, h1]
      have e2 : frV l s = s := by simp [frV, e1]
      rw [e1, e2]
      have HF := Lib.hid (fun w hA => find_any l A n c s hs w hA hl)
      generalize fnd l s = q at h1 HF
      clear e1 e2
      go_enter Try.func49, Try.ntmps49
      go_wp2_with fail
      refine (HF.out _ HA.out).mono ?_
      rintro e w1 ⟨rfl, hb⟩
      have HB := Lib.hid hb; clear hb
      go_wp2
      go_ret2
      exact ⟨rfl, HB.out⟩
end Go.Proofs.Ytmlmndaflgfdkaa
