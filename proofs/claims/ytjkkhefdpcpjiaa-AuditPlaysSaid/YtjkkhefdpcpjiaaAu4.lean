/- audit: Drain by contract. -/
import Derived.Test.YtjkkhefdpcpjiaaAu3
namespace Go.Proofs.Ytjkkhefdpcpjiaa
set_option linter.unusedVariables false
set_option linter.unusedSimpArgs false
open Go.RowKit
theorem run_min2 {P : Program} (w : World) (ts : Array TypeId) (t : TypeId) (k k' : IntKind) (x y : Int) : (Builtin.min_ ts t #[.int k x, .int k' y]).run P w = .ok (.int k (min x y)) w := by
  rw [run_min_int2]
  have : (if y < x then y else x) = min x y := by omega
  rw [this]
attribute [local go_sem high] run_min2
/-- How many are drained. -/
def drN (r : Nat) (most : Int) : Nat := (min most (r : Int)).toNat
theorem drN_le (r : Nat) (most : Int) : drN r most ≤ r := by unfold drN; omega
/-- What draining leaves: the first ones are told, the others stay. -/
def DrP (y : Nat) (v : Value) (w : World) (H : List Ev) (n p : Nat) (most : Int) (e : Ending) (w' : World) : Prop :=
  ∃ (v2 v' : Value) (H' : List Ev) (n' : Nat), e = .returned v2 ∧ EOwn elE w' v2 ((H.drop n).take (drN (H.length - n) most)) ∧ (∀ i, v2.ownBlock = some i → w.heap.size ≤ i) ∧
    AS y v w v' H' n' (min (p + drN (H.length - n) most) 4611686018427387903) w' ∧ H'.drop n' = (H.drop n).drop (drN (H.length - n) most) ∧ H'.length ≤ H.length ∧ (∀ i, v2.ownBlock = some i → v'.ownBlock ≠ some i ∧ i ≠ y)
set_option maxRecDepth 100000 in
set_option maxHeartbeats 4000000 in
theorem drain_no (w : World) (y : Nat) (v : Value) (H : List Ev) (n p : Nat) (most : Int) (h : TR w y v H n p) (hm : min most ((H.length - n : Nat) : Int) ≤ 0) :
    Calls Try.prog 11 #[ptrA y, .int .i64 most] w (DrP y v w H n p most) := by
  have HN := Lib.hid (alen_any w y v H n p h)
  have HT := Lib.hid h
  have HE := Lib.hid (show drN (H.length - n) most = 0 by unfold drN; omega)
  have hp := h.past
  clear h
  obtain ⟨r, hr⟩ : ∃ r, r = H.length - n := ⟨_, rfl⟩
  rw [← hr] at HN hm
  clear hr
  obtain ⟨z, hz⟩ : ∃ z, min most (r : Int) = z := ⟨_, rfl⟩
  rw [hz] at hm
  go_enter Try.func11, Try.ntmps11
  go_wp2_with fail
  refine HN.out.mono ?_
  rintro e w1 ⟨rfl, q, rfl⟩
  go_wp2
  go_ret
  refine ⟨_, v, H, n, rfl, ?_, fun i hi => by simp [Value.ownBlock] at hi, ?_, ?_, Nat.le_refl _, fun i hi => by simp [Value.ownBlock] at hi⟩
  · rw [HE.out]; exact EOwn.nil_ _
  · rw [HE.out, Nat.add_zero, Nat.min_eq_left hp]; exact AS.start HT.out (below_drawn (Below.refl _ _) q)
  · rw [HE.out]; rfl
set_option maxRecDepth 100000 in
set_option maxHeartbeats 4000000 in
theorem drain_yes (w : World) (y : Nat) (v : Value) (H : List Ev) (n p k : Nat) (most : Int) (h : TR w y v H n p) (hl : H.length ≤ 1000000) (hm : min most ((H.length - n : Nat) : Int) = (k : Int)) (hk : 0 < k) :
    Calls Try.prog 11 #[ptrA y, .int .i64 most] w (DrP y v w H n p most) := by
  have HN := Lib.hid (alen_any w y v H n p h)
  have HLF := Lib.hid (fun W hW => left_any W y v H n p (h.below hW))
  have HT := Lib.hid h
  have HE := Lib.hid (show drN (H.length - n) most = k by unfold drN; omega)
  have hp := h.past
  have hg := h.gone
  have hkr : k ≤ H.length - n := by omega
  have HLL := Lib.hid hl
  have HRD := Lib.hid ((ERd.of_own elE_ok h.own).cut h.gone)
  clear h
  obtain ⟨A1, c1, hA1, hc1, hc2⟩ := HRD.out.shape
  rw [hA1] at HLF HRD
  clear hA1
  have HLE := Lib.hid (show (H.drop n).length = H.length - n by simp)
  rw [HLE.out] at HLF HRD hc1
  obtain ⟨r, hr⟩ : ∃ r, r = H.length - n := ⟨_, rfl⟩
  rw [← hr] at HN hm HLF HRD hc1 hkr HLE
  have HR := Lib.hid hr
  clear hr
  have hsl := fun w => sl_to A1 k r c1 (by omega) w
  have hkm : n + k ≤ 1000000 := by have := HR.out; omega
  clear hg hl hc1 hc2
  go_enter Try.func11, Try.ntmps11
  go_wp2_with fail
  refine HN.out.mono ?_
  rintro e w1 ⟨rfl, q, rfl⟩
  have HB1 := Lib.hid (show Below w.heap.size w (w.drewN q) from below_drawn (Below.refl _ _) q)
  have hz1 : (w.drewN q).heap.size = w.heap.size := rfl
  have HZ1 := Lib.hid hz1
  clear hz1 HN
  generalize w.drewN q = W1 at *
  have hk0 : ¬ (k : Int) ≤ 0 := by omega
  go_wp2_with fail
  refine (HLF.out _ HB1.out).mono ?_
  rintro e w2 ⟨rfl, q2, rfl⟩
  have HB2 := Lib.hid (show Below w.heap.size w (W1.drewN q2) from below_drawn HB1.out q2)
  have hz2 : (W1.drewN q2).heap.size = w.heap.size := HZ1.out
  have HZ2 := Lib.hid hz2
  clear hz2 HLF HB1 HZ1
  generalize W1.drewN q2 = W2 at *
  have HRD2 := Lib.hid ((HRD.out.below HB2.out).take (n := k) (by rw [HLE.out]; exact hkr))
  have HTK := Lib.hid (show ((H.drop n).take k).length = k by rw [List.length_take, HLE.out]; omega)
  have HCL := Lib.hid (cloneE_any W2 _ _ HRD2.out (by rw [HTK.out]; simp [elE]; omega))
  go_wp2_with fail
  refine HCL.out.mono ?_
  rintro e w3 ⟨v2, rfl, hO3, hF3, hB3⟩
  have HT3 := Lib.hid ((HT.out.below HB2.out).below hB3)
  have HS3 := Lib.hid ((AS.start HT.out HB2.out).below hB3)
  have HF3 := Lib.hid (show ∀ i, v2.ownBlock = some i → w.heap.size ≤ i ∧ i ≠ y ∧ v.ownBlock ≠ some i ∧ i < w3.heap.size from fun i hi => ⟨by have := hF3 i hi; have := HZ2.out; omega, by have := hF3 i hi; have := HZ2.out; have := HT.out.blk.lt; omega, fun e => by have := hF3 i hi; have := HZ2.out; have := HT.out.own.lt e; omega, hO3.lt hi⟩)
  obtain ⟨A3, c3, rfl, -, -⟩ := hO3.slice
  have HO3 := Lib.hid hO3
  clear hO3 hF3 hB3 HCL HRD2 HRD
  generalize hv2 : Value.slice A3 ((H.drop n).take k).length c3 = v2 at *
  have HV2 := Lib.hid hv2
  clear hv2
  have k1 : w3.cell? ⟨y, 1, none⟩ = some (.int .i64 n) := HT3.out.blk.cell 1
  have f1 := HT3.out.blk.frozen 1
  have hy3 := HT3.out.blk.lt
  have HT4 := Lib.hid (AS.set1 HT3.out (n + k) (by have := HR.out; omega))
  have hsum : ((n + k : Nat) : Int) = (n : Int) + k := by omega
  go_upto_region 6 with fail
  have HT5 := Lib.hid (show AS y v w3 v H (n + k) p (w3.setCell ⟨y, 1, none⟩ (.int .i64 ((n : Int) + k))) by have h9 := HT4.out; rw [hsum] at h9; exact h9)
  have HO5 := Lib.hid (show EOwn elE (w3.setCell ⟨y, 1, none⟩ (.int .i64 ((n : Int) + k))) v2 ((H.drop n).take k) from HO3.out.keep fun i hi e => Below.heap_setCell w3 ⟨y, 1, none⟩ _ i (fun e2 => (HF3.out i e).2.1 (by simpa using e2)))
  clear HT4 k1 f1 hsum
  generalize (w3.setCell ⟨y, 1, none⟩ (.int .i64 ((n : Int) + k))) = W5 at *
  have k2 : W5.cell? ⟨y, 2, none⟩ = some (.int .i64 p) := HT5.out.tr.blk.cell 2
  have f2 := HT5.out.tr.blk.frozen 2
  have hy5 := HT5.out.tr.blk.lt
  obtain ⟨j, hj⟩ : ∃ j : Nat, min (k : Int) (4611686018427387903 - (p : Int)) = (j : Int) := ⟨(min (k : Int) (4611686018427387903 - (p : Int))).toNat, by omega⟩
  have hpj : (p : Int) + j ≤ 4611686018427387903 := by omega
  have HJ := Lib.hid (show p + j = min (p + k) 4611686018427387903 by omega)
  have HT6 := Lib.hid (AS.set2 HT5.out.tr (p + j) (by omega))
  have hsum : ((p + j : Nat) : Int) = (p : Int) + j := by omega
  go_region
  all_goals
    have HT7 := Lib.hid (show AS y v W5 v H (n + k) (p + j) (W5.setCell ⟨y, 2, none⟩ (.int .i64 ((p : Int) + j))) by have h9 := HT6.out; rw [hsum] at h9; exact h9)
    have HO7 := Lib.hid (show EOwn elE (W5.setCell ⟨y, 2, none⟩ (.int .i64 ((p : Int) + j))) v2 ((H.drop n).take k) from HO5.out.keep fun i hi e => Below.heap_setCell W5 ⟨y, 2, none⟩ _ i (fun e2 => (HF3.out i e).2.1 (by simpa using e2)))
    clear HT6 k2 f2 hsum hj hpj
    have HZ7 := Lib.hid (show w3.heap.size ≤ (W5.setCell ⟨y, 2, none⟩ (.int .i64 ((p : Int) + j))).heap.size from Nat.le_trans HT5.out.ke.size HT7.out.ke.size)
    have HT8 := Lib.hid (HT7.out.below (below_drawn (Below.refl _ _) 1))
    have HO8 := Lib.hid (HO7.out.below (below_drawn (Below.refl _ _) 1))
    have HZ8 := Lib.hid (show w3.heap.size ≤ ((W5.setCell ⟨y, 2, none⟩ (.int .i64 ((p : Int) + j))).drewN 1).heap.size from HZ7.out)
    have he8 : (W5.setCell ⟨y, 2, none⟩ (.int .i64 ((p : Int) + j))).drew = (W5.setCell ⟨y, 2, none⟩ (.int .i64 ((p : Int) + j))).drewN 1 := rfl
    rw [he8]
    clear HT7 HO7 HZ7 he8
    generalize ((W5.setCell ⟨y, 2, none⟩ (.int .i64 ((p : Int) + j))).drewN 1) = W8 at *
    have HTR := Lib.hid (atrim_any W8 y v H (n + k) (p + j) HT8.out.tr HLL.out)
    go_wp2_with fail
    refine HTR.out.mono ?_
    rintro e w9 ⟨rfl, v9, H9, n9, hA9, hd9, hl9⟩
    have HS9 := Lib.hid (((HS3.out.trans HT5.out).trans HT8.out).trans hA9)
    have HO9 := Lib.hid (show EOwn elE w9 v2 ((H.drop n).take k) from HO8.out.keep fun i hi e => hA9.ke.block i hi (HF3.out i e).2.1 (HF3.out i e).2.2.1)
    have HV9 := Lib.hid (show ∀ i, v2.ownBlock = some i → v9.ownBlock ≠ some i from fun i e1 e2 => by
      rcases hA9.far i e2 with h3 | h3
      · exact (HF3.out i e1).2.2.1 h3
      · have := (HF3.out i e1).2.2.2; have := HZ8.out; omega)
    clear hA9 HTR
    have HD9 := Lib.hid hd9
    have HL9 := Lib.hid hl9
    clear hd9 hl9
    go_wp2
    go_ret
    refine ⟨v2, v9, H9, n9, rfl, ?_, fun i hi => (HF3.out i hi).1, ?_, ?_, HL9.out, fun i hi => ⟨HV9.out i hi, (HF3.out i hi).2.1⟩⟩
    · rw [HE.out]; exact HO9.out
    · rw [HE.out, ← HJ.out]; exact HS9.out
    · rw [HE.out, HD9.out, List.drop_drop]
theorem drain_any (w : World) (y : Nat) (v : Value) (H : List Ev) (n p : Nat) (most : Int) (h : TR w y v H n p) (hl : H.length ≤ 1000000) :
    Calls Try.prog 11 #[ptrA y, .int .i64 most] w (DrP y v w H n p most) := by
  by_cases hm : min most ((H.length - n : Nat) : Int) ≤ 0
  · exact drain_no w y v H n p most h hm
  · exact drain_yes w y v H n p (min most ((H.length - n : Nat) : Int)).toNat most h hl (by omega) (by omega)
theorem drain_nil (w : World) (most : Int) : Calls Try.prog 11 #[.pointer none, .int .i64 most] w fun e w' => e = .returned (.slice none 0 0) ∧ Below w.heap.size w w' := by
  obtain ⟨z, hz, hz0⟩ : ∃ z : Int, min most (0 : Int) = z ∧ z ≤ 0 := ⟨_, rfl, by omega⟩
  go_enter Try.func11, Try.ntmps11
  go_wp2_with fail
  refine (alen_nil _).mono ?_
  rintro e w1 ⟨rfl, q, rfl⟩
  go_wp2
  go_ret
  exact ⟨rfl, below_drawn (Below.refl _ _) q⟩
end Go.Proofs.Ytjkkhefdpcpjiaa
