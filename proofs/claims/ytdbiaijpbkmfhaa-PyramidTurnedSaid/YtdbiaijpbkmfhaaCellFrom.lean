/- cell.FromCode by contract. -/
import Derived.Test.YtdbiaijpbkmfhaaCellCode
import Derived.Deep.RegionHeld3
import Derived.StillTailTactics
namespace Go.Proofs.Ytdbiaijpbkmfhaa
set_option linter.unusedVariables false
set_option linter.unusedSimpArgs false
open Go.RowKit
theorem from_step (k c : Nat) (hk : k < 16) (hc : c < 4294967296) : ∃ d d0 d1 : Nat, d < 4 ∧ bits .and .u64 ((c : Int) / 2 ^ (2 * k)) 3 = (d : Int) ∧ bits .and .i64 (d : Int) 1 = (d0 : Int) ∧ (d : Int) / 2 = (d1 : Int) ∧ d0 < 2 ∧ d1 < 2 ∧
    0 ≤ (d0 : Int) * 2 ^ k ∧ (d0 : Int) * 2 ^ k ≤ 65536 ∧ 0 ≤ (d1 : Int) * 2 ^ k ∧ (d1 : Int) * 2 ^ k ≤ 65536 ∧
    bits .or .i64 ((unx k c : Nat) : Int) ((d0 : Int) * 2 ^ k) = ((unx (k + 1) c : Nat) : Int) ∧ bits .or .i64 ((uny k c : Nat) : Int) ((d1 : Int) * 2 ^ k) = ((uny (k + 1) c : Nat) : Int) := by
  have hp : 2 ^ k ≤ 2 ^ 16 := Nat.pow_le_pow_right (by omega) (by omega)
  have hp0 : 0 < 2 ^ k := Nat.pow_pos (by omega)
  have e4 : (2 : Nat) ^ (2 * k) = 4 ^ k := by rw [Nat.pow_mul]
  have hx := unx_or k c
  have hy := uny_or k c
  have lx := unx_lt k c
  have ly := uny_lt k c
  have hle : c / 4 ^ k ≤ c := Nat.div_le_self _ _
  have e : (c : Int) / 2 ^ (2 * k) = ((c / 4 ^ k : Nat) : Int) := by rw [← e4]; push_cast; rfl
  have eP : (2 : Int) ^ k = ((2 ^ k : Nat) : Int) := by push_cast; rfl
  have h0 : c / 4 ^ k % 4 % 2 = c / 4 ^ k % 2 := by omega
  have h1 : c / 4 ^ k % 4 / 2 = c / 4 ^ k / 2 % 2 := by omega
  have l0 : c / 4 ^ k % 2 < 2 := Nat.mod_lt _ (by omega)
  have l1 : c / 4 ^ k / 2 % 2 < 2 := Nat.mod_lt _ (by omega)
  refine ⟨c / 4 ^ k % 4, c / 4 ^ k % 2, c / 4 ^ k / 2 % 2, Nat.mod_lt _ (by omega), ?_, ?_, ?_, l0, l1, ?_, ?_, ?_, ?_, ?_, ?_⟩
  · rw [e]
    have := u64_and_nat (c / 4 ^ k) 3 (by omega) (by omega)
    have e3 : c / 4 ^ k &&& 3 = c / 4 ^ k % 4 := Nat.and_two_pow_sub_one_eq_mod _ 2
    rw [e3] at this; exact this
  · have := i64_and_nat (c / 4 ^ k % 4) 1 (by omega) (by omega)
    rw [Nat.and_one_is_mod, h0] at this; exact this
  · omega
  all_goals generalize c / 4 ^ k % 2 = d0 at *
  all_goals generalize c / 4 ^ k / 2 % 2 = d1 at *
  all_goals rw [eP]
  all_goals generalize 2 ^ k = P at *
  · exact Int.mul_nonneg (by omega) (by omega)
  · have : d0 * P ≤ 1 * P := Nat.mul_le_mul_right _ (by omega)
    have h9 : ((d0 * P : Nat) : Int) ≤ 65536 := by omega
    rwa [Int.natCast_mul] at h9
  · exact Int.mul_nonneg (by omega) (by omega)
  · have : d1 * P ≤ 1 * P := Nat.mul_le_mul_right _ (by omega)
    have h9 : ((d1 * P : Nat) : Int) ≤ 65536 := by omega
    rwa [Int.natCast_mul] at h9
  · have hm : d0 * P ≤ 1 * P := Nat.mul_le_mul_right _ (by omega)
    have := i64_or_nat (unx k c) (d0 * P) (by omega) (by omega)
    rw [hx, Int.natCast_mul] at this; exact this
  · have hm : d1 * P ≤ 1 * P := Nat.mul_le_mul_right _ (by omega)
    have := i64_or_nat (uny k c) (d1 * P) (by omega) (by omega)
    rw [hy, Int.natCast_mul] at this; exact this
set_option maxHeartbeats 1000000 in
theorem from_yes (l c : Nat) (hl : l ≤ 16) (h : c < 4 ^ l) (w : World) :
    Calls Try.prog 39 #[.int .i64 (l : Int), .int .u64 (c : Int)] w fun e w' => e = .returned (.tuple #[.agg #[.int .i64 (l : Int), .int .i64 (unx l c : Nat), .int .i64 (uny l c : Nat)], .bool true]) ∧ Below w.heap.size w w' := by
  have hlv : levB (l : Int) = true := (levB_iff _).2 (by omega)
  have hm0 : (l : Int) ≤ 16 := by omega
  have hmz : min (2 * l) 64 = 2 * l := by omega
  have hz0 : ((c : Int) / 2 ^ (2 * l) != 0) = false := by have e : (c : Int) / 2 ^ (2 * l) = ((c / 2 ^ (2 * l) : Nat) : Int) := by push_cast; rfl
                                                          rw [e, Nat.div_eq_of_lt (by rw [Nat.pow_mul]; exact h)]; rfl
  go_enter Try.func39, Try.ntmps39
  go_wp2_with ((go_at_call 52; refine (islevel_any _ _).mono ?_; rintro e w9 ⟨rfl, rfl⟩))
  go_loopw [23] (fun i wr => ∃ k : Nat, k ≤ l ∧ i = .int .i64 k ∧ Below w.heap.size w wr ∧ Blk wr w.heap.size 24 #[.int .i64 0, .int .i64 0, .int .i64 0] ∧ Blk wr (w.heap.size + 1) 24 #[.int .i64 (l : Int), .int .i64 (unx k c : Nat), .int .i64 (uny k c : Nat)]) (fun i _ => l - (intOf i).toNat)
  case atStart => exact ⟨0, Nat.zero_le _, rfl, by go_grown, (Blk.new _ _ _).alloc _, Blk.newAt (by simp)⟩
  case round =>
    obtain ⟨k, hk, rfl, hB, R, U⟩ := hrel
    have kR0 := R.cell 0
    have kR1 := R.cell 1
    have kR2 := R.cell 2
    have kU0 := U.cell 0
    have kU1 := U.cell 1
    have kU2 := U.cell 2
    simp only [List.getElem?_toArray, List.getElem?_cons_zero, List.getElem?_cons_succ] at kR0 kR1 kR2 kU0 kU1 kU2
    have zR := R.lt
    have fR0 := R.frozen 0
    have fR1 := R.frozen 1
    have fR2 := R.frozen 2
    have zU := U.lt
    have fU0 := U.frozen 0
    have fU1 := U.frozen 1
    have fU2 := U.frozen 2
    clear hz0 hmz
    by_cases hlt : k < l
    · have hm : min k 64 = k := by omega
      have hm2 : min (2 * k) 64 = 2 * k := by omega
      have h4 := pow4_le l hl
      obtain ⟨d, d0, d1, hd, hA, hA0, hA1, hd0, hd1, m0, m1, m2, m3, O0, O1⟩ := from_step k c (by omega) (by omega)
      clear h4 hd
      have hd2 : (d0 : Int) ≤ 1 := by omega
      have hd3 : (d1 : Int) ≤ 1 := by omega
      have hdd : (d : Int) ≤ 3 := by omega
      have HO0 := Lib.hid O0; have HO1 := Lib.hid O1; clear O0 O1 hd0 hd1
      generalize hP : (2 : Int) ^ k = P at m0 m1 m2 m3 HO0 HO1
      go_wp2
      go_region
      go_wp2
      rw [HO0.out]
      have hB2 : Below w.heap.size w ((wr.setCell ⟨w.heap.size + 1, 1, none⟩ (.int .i64 ((unx (k + 1) c : Nat) : Int))).drew) := by go_grown
      have R2 := (R.far (p := ⟨w.heap.size + 1, 1, none⟩) (by simp) (.int .i64 ((unx (k + 1) c : Nat) : Int))).drew
      have U2 := (U.set_ 1 (.int .i64 ((unx (k + 1) c : Nat) : Int))).drew
      generalize ((wr.setCell ⟨w.heap.size + 1, 1, none⟩ (.int .i64 ((unx (k + 1) c : Nat) : Int))).drew) = wv at hB2 R2 U2 ⊢
      clear R U hB kR0 kR1 kR2 kU0 kU1 kU2 zR zU fR0 fR1 fR2 fU0 fU1 fU2
      have U3 : Blk wv (w.heap.size + 1) 24 #[.int .i64 (l : Int), .int .i64 ((unx (k + 1) c : Nat) : Int), .int .i64 ((uny k c : Nat) : Int)] := by simpa using U2
      clear U2
      have kU2 := U3.cell 2
      have fU2 := U3.frozen 2
      simp only [List.getElem?_toArray, List.getElem?_cons_zero, List.getElem?_cons_succ] at kU2
      go_region
      go_wp2
      go_roundw
      case rel =>
        rw [HO1.out]
        refine ⟨k + 1, by omega, by go_num, by go_grown, ?_, ?_⟩
        · exact (R2.far (p := ⟨w.heap.size + 1, 2, none⟩) (by simp) _).drew
        · have := U3.set_ 2 (.int .i64 (uny (k + 1) c : Nat))
          exact (by simpa using this : Blk _ _ _ _).drew
      case measure => simp [intOf]; omega
    · obtain rfl : k = l := by omega
      clear hlt hk
      go_wp2
      refine bodyPost_ret (v := .tuple #[.agg #[.int .i64 (k : Int), .int .i64 (unx k c : Nat), .int .i64 (uny k c : Nat)], .bool true]) ?_ rfl ⟨rfl, ?_⟩
      · simp [results, Try.results39, go_sem, *]
      · first | (go_grown; done) | exact below_drawn (by go_grown) _
set_option maxHeartbeats 1000000 in
theorem from_no1 (L c : Int) (h : levB L = false) (w : World) :
    Calls Try.prog 39 #[.int .i64 L, .int .u64 c] w fun e w' => e = .returned (.tuple #[.agg #[.int .i64 0, .int .i64 0, .int .i64 0], .bool false]) ∧ Below w.heap.size w w' := by
  go_enter Try.func39, Try.ntmps39
  go_wp2_with ((go_at_call 52; refine (islevel_any _ _).mono ?_; rintro e w9 ⟨rfl, rfl⟩))
  refine bodyPost_ret (v := .tuple #[.agg #[.int .i64 0, .int .i64 0, .int .i64 0], .bool false]) ?_ rfl ⟨rfl, ?_⟩
  · simp [results, Try.results39, go_sem, *]
  · go_grown
set_option maxHeartbeats 1000000 in
theorem from_no2 (l c : Nat) (hl : l ≤ 16) (h : ¬ c < 4 ^ l) (w : World) :
    Calls Try.prog 39 #[.int .i64 (l : Int), .int .u64 (c : Int)] w fun e w' => e = .returned (.tuple #[.agg #[.int .i64 0, .int .i64 0, .int .i64 0], .bool false]) ∧ Below w.heap.size w w' := by
  have hlv : levB (l : Int) = true := (levB_iff _).2 (by omega)
  have hm0 : (l : Int) ≤ 16 := by omega
  have hmz : min (2 * l) 64 = 2 * l := by omega
  have e : (c : Int) / 2 ^ (2 * l) = ((c / 2 ^ (2 * l) : Nat) : Int) := by push_cast; rfl
  have hq : c / 2 ^ (2 * l) ≠ 0 := by
    rw [Nat.pow_mul]
    intro h0
    exact h ((Nat.div_eq_zero_iff_lt (Nat.pow_pos (by omega))).1 h0)
  have hz0 : ((c : Int) / 2 ^ (2 * l) != 0) = true := by rw [e]; simp only [bne_iff_ne, ne_eq]; omega
  clear e hq h
  go_enter Try.func39, Try.ntmps39
  go_wp2_with ((go_at_call 52; refine (islevel_any _ _).mono ?_; rintro e w9 ⟨rfl, rfl⟩))
  refine bodyPost_ret (v := .tuple #[.agg #[.int .i64 0, .int .i64 0, .int .i64 0], .bool false]) ?_ rfl ⟨rfl, ?_⟩
  · simp [results, Try.results39, go_sem, *]
  · go_grown
def okF (L c : Int) : Bool := levB L && decide (c.toNat < 4 ^ L.toNat)
def f0 (L c : Int) : Int := if okF L c = true then L else 0
def f1 (L c : Int) : Int := if okF L c = true then ((unx L.toNat c.toNat : Nat) : Int) else 0
def f2 (L c : Int) : Int := if okF L c = true then ((uny L.toNat c.toNat : Nat) : Int) else 0
theorem from_u (L c : Int) (hc : 0 ≤ c) (w : World) : Calls Try.prog 39 #[.int .i64 L, .int .u64 c] w fun e w' => e = .returned (.tuple #[.agg #[.int .i64 (f0 L c), .int .i64 (f1 L c), .int .i64 (f2 L c)], .bool (okF L c)]) ∧ Below w.heap.size w w' := by
  rcases Bool.eq_false_or_eq_true (levB L) with h | h
  · obtain ⟨l, hl, rfl⟩ := lev L ((levB_iff _).1 h).1 ((levB_iff _).1 h).2
    obtain ⟨n, rfl⟩ := Int.eq_ofNat_of_zero_le hc
    by_cases h2 : n < 4 ^ l
    · have hk : okF (l : Int) (n : Int) = true := by rw [okF, h]; simpa using h2
      have := from_yes l n hl h2 w
      simpa [f0, f1, f2, hk] using this
    · have hk : okF (l : Int) (n : Int) = false := by rw [okF, h]; simpa using h2
      have := from_no2 l n hl h2 w
      simpa [f0, f1, f2, hk] using this
  · have hk : okF L c = false := by rw [okF, h]; rfl
    have := from_no1 L c h w
    simpa [f0, f1, f2, hk] using this
end Go.Proofs.Ytdbiaijpbkmfhaa
