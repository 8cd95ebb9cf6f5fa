/- The document's Parse by contract. -/
import Derived.Test.YtdnjhaplofakbaaParse
namespace Go.Proofs.Ytdnjhaplofakbaa
set_option linter.unusedVariables false
set_option linter.unusedSimpArgs false
open Go.RowKit
open NumS
def mostL : List UInt8 := [49, 56, 52, 52, 54, 55, 52, 52, 48, 55, 51, 55, 48, 57, 53, 53, 49, 54, 49, 53]
theorem val_most : val mostL = maxU := by decide +kernel
theorem digs_most : digs mostL = true := by decide +kernel
theorem valF_lo (n : Nat) (l : List UInt8) : n * 10 ^ l.length ≤ valF n l := by
  induction l generalizing n with
  | nil => simp [valF]
  | cons c l ih =>
    have := ih (10 * n + (c.toNat - 48))
    simp only [valF, List.foldl_cons, List.length_cons] at this ⊢
    refine Nat.le_trans ?_ this
    rw [Nat.pow_succ, Nat.mul_comm (10 ^ l.length) 10, ← Nat.mul_assoc]
    exact Nat.mul_le_mul_right _ (by omega)
theorem valF_less (n m : Nat) (a b : List UInt8) (hl : a.length = b.length) (ha : digs a = true) (h : n < m) : valF n a < valF m b := by
  have h1 := valF_lt n a ha
  have h2 := valF_lo m b
  have h3 : (n + 1) * 10 ^ a.length ≤ m * 10 ^ b.length := by rw [hl]; exact Nat.mul_le_mul_right _ (by omega)
  omega
theorem lex_val (n : Nat) (a b : List UInt8) (hl : a.length = b.length) (ha : digs a = true) (hb : digs b = true) : (Op.bytesLess a b = true ↔ valF n a < valF n b) ∧ (a = b ↔ valF n a = valF n b) := by
  induction a generalizing n b with
  | nil => cases b with
    | nil => simp [Op.bytesLess]
    | cons y b => simp at hl
  | cons x a ih => cases b with
    | nil => simp at hl
    | cons y b =>
      have hx : isDig x = true ∧ digs a = true := by simpa [digs] using ha
      have hy : isDig y = true ∧ digs b = true := by simpa [digs] using hb
      have hl' : a.length = b.length := by simpa using hl
      have h1 : 48 ≤ x.toNat ∧ x.toNat ≤ 57 := by simpa [isDig] using hx.1
      have h2 : 48 ≤ y.toNat ∧ y.toNat ≤ 57 := by simpa [isDig] using hy.1
      have ex : valF n (x :: a) = valF (10 * n + (x.toNat - 48)) a := rfl
      have ey : valF n (y :: b) = valF (10 * n + (y.toNat - 48)) b := rfl
      rw [ex, ey]
      rcases Nat.lt_trichotomy x.toNat y.toNat with h | h | h
      · have hlt := valF_less (10 * n + (x.toNat - 48)) (10 * n + (y.toNat - 48)) a b hl' hx.2 (by omega)
        have h3 : x < y := UInt8.lt_iff_toNat_lt.2 h
        have h4 : x ≠ y := fun e => by subst e; omega
        constructor
        · simp [Op.bytesLess, h3, hlt]
        · constructor
          · intro e; exact absurd (List.cons.inj e).1 h4
          · intro e; omega
      · have e : x = y := UInt8.toNat.inj h
        subst e
        have := ih (10 * n + (x.toNat - 48)) b hl' hx.2 hy.2
        constructor
        · rw [← this.1]
          have h3 : ¬ x < x := fun hh => by have := UInt8.lt_iff_toNat_lt.1 hh; omega
          simp [Op.bytesLess]
        · rw [← this.2]; simp
      · have hlt := valF_less (10 * n + (y.toNat - 48)) (10 * n + (x.toNat - 48)) b a hl'.symm hy.2 (by omega)
        have h3 : ¬ x < y := fun hh => by have := UInt8.lt_iff_toNat_lt.1 hh; omega
        have h4 : x ≠ y := fun e => by subst e; omega
        constructor
        · constructor
          · intro hh
            simp [Op.bytesLess, h3, h4] at hh
          · intro hh; omega
        · constructor
          · intro e; exact absurd (List.cons.inj e).1 h4
          · intro e; omega
/-- The text is above the greatest number's. -/
def gtM (l : List UInt8) : Bool := !(Op.bytesLess l mostL) && !(l == mostL)
theorem gtM_val (l : List UInt8) (hl : l.length = 20) (hd : digs l = true) : gtM l = true ↔ maxU < val l := by
  have h := lex_val 0 l mostL (by rw [hl]; rfl) hd digs_most
  have e : valF 0 mostL = maxU := val_most
  rw [e] at h
  unfold gtM
  by_cases h1 : Op.bytesLess l mostL = true
  · have := h.1.1 h1
    simp only [val, h1]; simp; omega
  · have h2 : ¬ valF 0 l < maxU := fun hh => h1 (h.1.2 hh)
    by_cases h3 : l = mostL
    · have := h.2.1 h3
      simp [h3]; rw [val_most]; omega
    · have h4 : ¬ valF 0 l = maxU := fun hh => h3 (h.2.2 hh)
      simp [h1, h3, val]; omega
theorem gtM_none (l : List UInt8) (hl : l.length = 20) (h : gtM l = true) : parseS l = none := by
  by_cases hd : digs l = true
  · have := (gtM_val l hl hd).1 h
    have hv : ¬ val l ≤ maxU := by omega
    simp [parseS, hv]
  · simp [parseS, hd]
set_option maxHeartbeats 400000 in
theorem refparse_bad (s : ByteArray) (w : World) (hs : s.size ≤ maxLen) (hb : lenBad s.data.toList = true) (h : s.size = 0 ∨ 20 < s.size ∨ (1 < s.size ∧ ∃ h : 0 < s.size, s[0].toNat = 48)) :
    Calls Try.prog 11 #[.string s] w fun e w' => e = .returned (.tuple #[.int .u64 (pv s.data.toList), .int .i64 (pe s.data.toList)]) ∧ w = w' := by
  have hr := parseS_bad s.data.toList hb
  have HV := Lib.hid (pv_none _ hr)
  have HE := Lib.hid (pe_none _ hr)
  clear hr hb
  unfold maxLen at hs
  rcases h with h | h | ⟨h, h0, h1⟩
  · have h2 : ((s.size : Int) == 0) = true := by simp [h]
    clear h
    go_enter Try.func11, Try.ntmps11
    go_wp2
    go_ret2
    exact ⟨ret2 (by rw [HV.out]) (by rw [HE.out]), rfl⟩
  · have h2 : ((s.size : Int) == 0) = false := beq_eq_false_iff_ne.2 (by omega)
    have h3 : (20 : Int) < (s.size : Int) := by omega
    go_enter Try.func11, Try.ntmps11
    go_wp2
    go_ret2
    exact ⟨ret2 (by rw [HV.out]) (by rw [HE.out]), rfl⟩
  · have h2 : ((s.size : Int) == 0) = false := beq_eq_false_iff_ne.2 (by omega)
    by_cases h3 : (20 : Int) < (s.size : Int)
    · go_enter Try.func11, Try.ntmps11
      go_wp2
      go_ret2
      exact ⟨ret2 (by rw [HV.out]) (by rw [HE.out]), rfl⟩
    · have h4 : (1 : Int) < (s.size : Int) := by omega
      have h5 : ((s[0].toNat : Int) == 48) = true := by simp [h1]
      clear h1
      go_enter Try.func11, Try.ntmps11
      go_wp2
      go_ret2
      exact ⟨ret2 (by rw [HV.out]) (by rw [HE.out]), rfl⟩
theorem refparse_step (s : ByteArray) (k m : Nat) (h : k < s.size) (hs : s.size ≤ 20) (hg : s.size = 20 → gtM s.data.toList = false) (hm : m = val (s.data.toList.take k)) (hd : digs (s.data.toList.take k) = true) (h1 : 48 ≤ s[k].toNat) (h2 : s[k].toNat ≤ 57) :
    10 * m + (s[k].toNat - 48) = val (s.data.toList.take (k + 1)) ∧ digs (s.data.toList.take (k + 1)) = true ∧ 10 * m + (s[k].toNat - 48) ≤ 18446744073709551615 := by
  have hv : 10 * m + (s[k].toNat - 48) = val (s.data.toList.take (k + 1)) := by rw [take_s s k h, val_snoc, ← hm]
  have hd' : digs (s.data.toList.take (k + 1)) = true := by rw [take_s s k h, digs_snoc, hd, isDig_ok _ h1 h2]; rfl
  refine ⟨hv, hd', ?_⟩
  rw [hv]
  have hl : s.data.toList.length = s.size := rfl
  by_cases hk : k + 1 = 20
  · have he : s.data.toList.take (k + 1) = s.data.toList := List.take_of_length_le (by omega)
    rw [he] at hd' ⊢
    have hn := hg (by omega)
    by_cases hlt : maxU < val s.data.toList
    · have := (gtM_val _ (by omega) hd').2 hlt
      rw [hn] at this
      exact absurd this (by simp)
    · rw [maxU_eq] at hlt; omega
  · have hb := val_lt _ hd'
    have h3 : (10 : Nat) ^ (s.data.toList.take (k + 1)).length ≤ 10 ^ 19 := Nat.pow_le_pow_right (by omega) (by rw [List.length_take]; omega)
    have h4 : (10 : Nat) ^ 19 = 10000000000000000000 := by decide
    omega
theorem wrap_step (m c : Nat) (h1 : 48 ≤ c) (h2 : c ≤ 57) (h3 : 10 * m + (c - 48) ≤ 18446744073709551615) : IntKind.u64.wrap (IntKind.u64.wrap (10 * (m : Int) + c) - 48) = ((10 * m + (c - 48) : Nat) : Int) := by
  rw [IntKind.wrap_u64, IntKind.wrap_u64]; omega
theorem gt_yes (s : ByteArray) (h : gtM s.data.toList = true) : (!Op.bytesLess s.toList [49, 56, 52, 52, 54, 55, 52, 52, 48, 55, 51, 55, 48, 57, 53, 53, 49, 54, 49, 53]) = true ∧ (!(s.toList == [49, 56, 52, 52, 54, 55, 52, 52, 48, 55, 51, 55, 48, 57, 53, 53, 49, 54, 49, 53])) = true := by
  rw [ByteArray.toList_eq]
  unfold gtM mostL at h
  simpa using h
theorem gt_no (s : ByteArray) (h : gtM s.data.toList = false) : (!Op.bytesLess s.toList [49, 56, 52, 52, 54, 55, 52, 52, 48, 55, 51, 55, 48, 57, 53, 53, 49, 54, 49, 53]) = false ∨ ((!Op.bytesLess s.toList [49, 56, 52, 52, 54, 55, 52, 52, 48, 55, 51, 55, 48, 57, 53, 53, 49, 54, 49, 53]) = true ∧ (!(s.toList == [49, 56, 52, 52, 54, 55, 52, 52, 48, 55, 51, 55, 48, 57, 53, 53, 49, 54, 49, 53])) = false) := by
  rw [ByteArray.toList_eq]
  unfold gtM mostL at h
  by_cases hb : Op.bytesLess s.data.toList [49, 56, 52, 52, 54, 55, 52, 52, 48, 55, 51, 55, 48, 57, 53, 53, 49, 54, 49, 53] = true
  · left; simp [hb]
  · right; simp [hb] at h ⊢; exact h
set_option maxHeartbeats 400000 in
theorem refparse_gt (s : ByteArray) (w : World) (hs : Hid (s.size = 20)) (h4 : (1 : Int) < (s.size : Int)) (h3 : ¬ (20 : Int) < (s.size : Int)) (h6 : ((s.size : Int) == 20) = true) (h5 : ((s[0].toNat : Int) == 48) = false) (hg : gtM s.data.toList = true) :
    Calls Try.prog 11 #[.string s] w fun e w' => e = .returned (.tuple #[.int .u64 (pv s.data.toList), .int .i64 (pe s.data.toList)]) ∧ w = w' := by
  have hr := gtM_none _ (show s.data.toList.length = 20 from hs.out) hg
  have HV := Lib.hid (pv_none _ hr)
  have HE := Lib.hid (pe_none _ hr)
  obtain ⟨hq1, hq2⟩ := gt_yes s hg
  have h2 : ((s.size : Int) == 0) = false := beq_eq_false_iff_ne.2 (by omega)
  clear hr hg
  go_enter Try.func11, Try.ntmps11
  go_wp2
  go_ret2
  exact ⟨ret2 (by rw [HV.out]) (by rw [HE.out]), rfl⟩
set_option maxHeartbeats 400000 in
theorem refparse_20a (s : ByteArray) (w : World) (hs : s.size ≤ 20) (h4 : (1 : Int) < (s.size : Int)) (h5 : ((s[0].toNat : Int) == 48) = false) (h6 : ((s.size : Int) == 20) = true) (hq1 : (!Op.bytesLess s.toList [49, 56, 52, 52, 54, 55, 52, 52, 48, 55, 51, 55, 48, 57, 53, 53, 49, 54, 49, 53]) = false) (HB : Hid (lenBad s.data.toList = false)) (HG : Hid (s.size = 20 → gtM s.data.toList = false)) :
    Calls Try.prog 11 #[.string s] w fun e w' => e = .returned (.tuple #[.int .u64 (pv s.data.toList), .int .i64 (pe s.data.toList)]) ∧ w = w' := by
  have h2 : ((s.size : Int) == 0) = false := beq_eq_false_iff_ne.2 (by omega)
  have h3 : ¬ (20 : Int) < (s.size : Int) := by omega
  go_enter Try.func11, Try.ntmps11
  go_wp2
  go_loop [5, 6] (fun n i => ∃ k m : Nat, k ≤ s.size ∧ i = .int .i64 k ∧ n = .int .u64 m ∧ Hid (m = val (s.data.toList.take k) ∧ digs (s.data.toList.take k) = true ∧ m ≤ maxU)) (fun _ i => s.size - (intOf i).toNat)
  case atStart => exact ⟨0, 0, Nat.zero_le _, rfl, rfl, ⟨rfl, rfl, Nat.zero_le _⟩⟩
  case round =>
    obtain ⟨k, m, hk, rfl, rfl, HM⟩ := hrel
    by_cases hlt : k < s.size
    · by_cases hc1 : (s[k].toNat : Int) < 48
      · have HR := Lib.hid (bad_dig s k hlt (Or.inl (by omega)))
        go_wp2
        go_ret2
        exact ⟨ret2 HR.out.1.symm HR.out.2.symm, rfl⟩
      · by_cases hc2 : (57 : Int) < (s[k].toNat : Int)
        · have HR := Lib.hid (bad_dig s k hlt (Or.inr (by omega)))
          go_wp2
          go_ret2
          exact ⟨ret2 HR.out.1.symm HR.out.2.symm, rfl⟩
        · have hm : m ≤ 18446744073709551615 := HM.2.2
          have HR := Lib.hid (refparse_step s k m hlt hs HG.out HM.1 HM.2.1 (by omega) (by omega))
          have HW := Lib.hid (wrap_step m s[k].toNat (by omega) (by omega) HR.out.2.2)
          have hb := HR.out.2.2
          go_wp2
          go_round
          case rel => exact ⟨k + 1, 10 * m + (s[k].toNat - 48), by omega, by go_num, by rw [← HW.out], HR.out⟩
          case measure => simp [intOf]; omega
    · have HR := Lib.hid (all_digs s k m (by omega) HB.out HM.1 HM.2.1 HM.2.2)
      go_wp2
      go_ret2
      exact ⟨ret2 HR.out.1.symm HR.out.2.symm, rfl⟩
set_option maxHeartbeats 400000 in
theorem refparse_20b (s : ByteArray) (w : World) (hs : s.size ≤ 20) (h4 : (1 : Int) < (s.size : Int)) (h5 : ((s[0].toNat : Int) == 48) = false) (h6 : ((s.size : Int) == 20) = true) (hq1 : (!Op.bytesLess s.toList [49, 56, 52, 52, 54, 55, 52, 52, 48, 55, 51, 55, 48, 57, 53, 53, 49, 54, 49, 53]) = true) (hq2 : (!(s.toList == [49, 56, 52, 52, 54, 55, 52, 52, 48, 55, 51, 55, 48, 57, 53, 53, 49, 54, 49, 53])) = false) (HB : Hid (lenBad s.data.toList = false)) (HG : Hid (s.size = 20 → gtM s.data.toList = false)) :
    Calls Try.prog 11 #[.string s] w fun e w' => e = .returned (.tuple #[.int .u64 (pv s.data.toList), .int .i64 (pe s.data.toList)]) ∧ w = w' := by
  have h2 : ((s.size : Int) == 0) = false := beq_eq_false_iff_ne.2 (by omega)
  have h3 : ¬ (20 : Int) < (s.size : Int) := by omega
  go_enter Try.func11, Try.ntmps11
  go_wp2
  go_loop [5, 6] (fun n i => ∃ k m : Nat, k ≤ s.size ∧ i = .int .i64 k ∧ n = .int .u64 m ∧ Hid (m = val (s.data.toList.take k) ∧ digs (s.data.toList.take k) = true ∧ m ≤ maxU)) (fun _ i => s.size - (intOf i).toNat)
  case atStart => exact ⟨0, 0, Nat.zero_le _, rfl, rfl, ⟨rfl, rfl, Nat.zero_le _⟩⟩
  case round =>
    obtain ⟨k, m, hk, rfl, rfl, HM⟩ := hrel
    by_cases hlt : k < s.size
    · by_cases hc1 : (s[k].toNat : Int) < 48
      · have HR := Lib.hid (bad_dig s k hlt (Or.inl (by omega)))
        go_wp2
        go_ret2
        exact ⟨ret2 HR.out.1.symm HR.out.2.symm, rfl⟩
      · by_cases hc2 : (57 : Int) < (s[k].toNat : Int)
        · have HR := Lib.hid (bad_dig s k hlt (Or.inr (by omega)))
          go_wp2
          go_ret2
          exact ⟨ret2 HR.out.1.symm HR.out.2.symm, rfl⟩
        · have hm : m ≤ 18446744073709551615 := HM.2.2
          have HR := Lib.hid (refparse_step s k m hlt hs HG.out HM.1 HM.2.1 (by omega) (by omega))
          have HW := Lib.hid (wrap_step m s[k].toNat (by omega) (by omega) HR.out.2.2)
          have hb := HR.out.2.2
          go_wp2
          go_round
          case rel => exact ⟨k + 1, 10 * m + (s[k].toNat - 48), by omega, by go_num, by rw [← HW.out], HR.out⟩
          case measure => simp [intOf]; omega
    · have HR := Lib.hid (all_digs s k m (by omega) HB.out HM.1 HM.2.1 HM.2.2)
      go_wp2
      go_ret2
      exact ⟨ret2 HR.out.1.symm HR.out.2.symm, rfl⟩
set_option maxHeartbeats 400000 in
theorem refparse_few (s : ByteArray) (w : World) (hs : s.size ≤ 20) (h4 : (1 : Int) < (s.size : Int)) (h5 : ((s[0].toNat : Int) == 48) = false) (h6 : ((s.size : Int) == 20) = false) (HB : Hid (lenBad s.data.toList = false)) (HG : Hid (s.size = 20 → gtM s.data.toList = false)) :
    Calls Try.prog 11 #[.string s] w fun e w' => e = .returned (.tuple #[.int .u64 (pv s.data.toList), .int .i64 (pe s.data.toList)]) ∧ w = w' := by
  have h2 : ((s.size : Int) == 0) = false := beq_eq_false_iff_ne.2 (by omega)
  have h3 : ¬ (20 : Int) < (s.size : Int) := by omega
  go_enter Try.func11, Try.ntmps11
  go_wp2
  go_loop [5, 6] (fun n i => ∃ k m : Nat, k ≤ s.size ∧ i = .int .i64 k ∧ n = .int .u64 m ∧ Hid (m = val (s.data.toList.take k) ∧ digs (s.data.toList.take k) = true ∧ m ≤ maxU)) (fun _ i => s.size - (intOf i).toNat)
  case atStart => exact ⟨0, 0, Nat.zero_le _, rfl, rfl, ⟨rfl, rfl, Nat.zero_le _⟩⟩
  case round =>
    obtain ⟨k, m, hk, rfl, rfl, HM⟩ := hrel
    by_cases hlt : k < s.size
    · by_cases hc1 : (s[k].toNat : Int) < 48
      · have HR := Lib.hid (bad_dig s k hlt (Or.inl (by omega)))
        go_wp2
        go_ret2
        exact ⟨ret2 HR.out.1.symm HR.out.2.symm, rfl⟩
      · by_cases hc2 : (57 : Int) < (s[k].toNat : Int)
        · have HR := Lib.hid (bad_dig s k hlt (Or.inr (by omega)))
          go_wp2
          go_ret2
          exact ⟨ret2 HR.out.1.symm HR.out.2.symm, rfl⟩
        · have hm : m ≤ 18446744073709551615 := HM.2.2
          have HR := Lib.hid (refparse_step s k m hlt hs HG.out HM.1 HM.2.1 (by omega) (by omega))
          have HW := Lib.hid (wrap_step m s[k].toNat (by omega) (by omega) HR.out.2.2)
          have hb := HR.out.2.2
          go_wp2
          go_round
          case rel => exact ⟨k + 1, 10 * m + (s[k].toNat - 48), by omega, by go_num, by rw [← HW.out], HR.out⟩
          case measure => simp [intOf]; omega
    · have HR := Lib.hid (all_digs s k m (by omega) HB.out HM.1 HM.2.1 HM.2.2)
      go_wp2
      go_ret2
      exact ⟨ret2 HR.out.1.symm HR.out.2.symm, rfl⟩
set_option maxHeartbeats 400000 in
theorem refparse_one (s : ByteArray) (w : World) (hs : s.size ≤ 20) (h2 : ((s.size : Int) == 0) = false) (h4 : ¬ (1 : Int) < (s.size : Int)) (h6 : ((s.size : Int) == 20) = false) (HB : Hid (lenBad s.data.toList = false)) (HG : Hid (s.size = 20 → gtM s.data.toList = false)) :
    Calls Try.prog 11 #[.string s] w fun e w' => e = .returned (.tuple #[.int .u64 (pv s.data.toList), .int .i64 (pe s.data.toList)]) ∧ w = w' := by
  have h3 : ¬ (20 : Int) < (s.size : Int) := by omega
  go_enter Try.func11, Try.ntmps11
  go_wp2
  go_loop [5, 6] (fun n i => ∃ k m : Nat, k ≤ s.size ∧ i = .int .i64 k ∧ n = .int .u64 m ∧ Hid (m = val (s.data.toList.take k) ∧ digs (s.data.toList.take k) = true ∧ m ≤ maxU)) (fun _ i => s.size - (intOf i).toNat)
  case atStart => exact ⟨0, 0, Nat.zero_le _, rfl, rfl, ⟨rfl, rfl, Nat.zero_le _⟩⟩
  case round =>
    obtain ⟨k, m, hk, rfl, rfl, HM⟩ := hrel
    by_cases hlt : k < s.size
    · by_cases hc1 : (s[k].toNat : Int) < 48
      · have HR := Lib.hid (bad_dig s k hlt (Or.inl (by omega)))
        go_wp2
        go_ret2
        exact ⟨ret2 HR.out.1.symm HR.out.2.symm, rfl⟩
      · by_cases hc2 : (57 : Int) < (s[k].toNat : Int)
        · have HR := Lib.hid (bad_dig s k hlt (Or.inr (by omega)))
          go_wp2
          go_ret2
          exact ⟨ret2 HR.out.1.symm HR.out.2.symm, rfl⟩
        · have hm : m ≤ 18446744073709551615 := HM.2.2
          have HR := Lib.hid (refparse_step s k m hlt hs HG.out HM.1 HM.2.1 (by omega) (by omega))
          have HW := Lib.hid (wrap_step m s[k].toNat (by omega) (by omega) HR.out.2.2)
          have hb := HR.out.2.2
          go_wp2
          go_round
          case rel => exact ⟨k + 1, 10 * m + (s[k].toNat - 48), by omega, by go_num, by rw [← HW.out], HR.out⟩
          case measure => simp [intOf]; omega
    · have HR := Lib.hid (all_digs s k m (by omega) HB.out HM.1 HM.2.1 HM.2.2)
      go_wp2
      go_ret2
      exact ⟨ret2 HR.out.1.symm HR.out.2.symm, rfl⟩
theorem refparse_any (s : ByteArray) (w : World) (hs : s.size ≤ maxLen) :
    Calls Try.prog 11 #[.string s] w fun e w' => e = .returned (.tuple #[.int .u64 (pv s.data.toList), .int .i64 (pe s.data.toList)]) ∧ w = w' := by
  have hl : s.data.toList.length = s.size := rfl
  by_cases h0 : s.size = 0
  · exact refparse_bad s w hs (lenBad_zero _ (by omega)) (.inl h0)
  by_cases h1 : 20 < s.size
  · exact refparse_bad s w hs (lenBad_long _ (by omega)) (.inr (.inl h1))
  by_cases h2 : 1 < s.size ∧ s[0].toNat = 48
  · refine refparse_bad s w hs (lenBad_lead _ (by omega) ?_) (.inr (.inr ⟨h2.1, by omega, h2.2⟩))
    exact UInt8.toNat.inj h2.2
  · have HB : Hid (lenBad s.data.toList = false) := lenBad_no _ (by omega) (by omega) fun h1 he => h2 ⟨by omega, by
      have : s[0] = 48 := he
      rw [this]; rfl⟩
    by_cases h3 : 1 < s.size
    · have h5 : ((s[0].toNat : Int) == 48) = false := beq_eq_false_iff_ne.2 fun e => h2 ⟨h3, by omega⟩
      by_cases h6 : s.size = 20
      · have h6' : ((s.size : Int) == 20) = true := by rw [h6]; rfl
        by_cases hg : gtM s.data.toList = true
        · exact refparse_gt s w h6 (by omega) (by omega) h6' h5 hg
        · have hg' : gtM s.data.toList = false := by simpa using hg
          rcases gt_no s hg' with hq | ⟨hq, hq2⟩
          · exact refparse_20a s w (by omega) (by omega) h5 h6' hq HB (fun _ => hg')
          · exact refparse_20b s w (by omega) (by omega) h5 h6' hq hq2 HB (fun _ => hg')
      · exact refparse_few s w (by omega) (by omega) h5 (beq_eq_false_iff_ne.2 (by omega)) HB (fun e => absurd e h6)
    · exact refparse_one s w (by omega) (beq_eq_false_iff_ne.2 (by omega)) (by omega) (beq_eq_false_iff_ne.2 (by omega)) HB (fun e => by omega)
end Go.Proofs.Ytdnjhaplofakbaa
