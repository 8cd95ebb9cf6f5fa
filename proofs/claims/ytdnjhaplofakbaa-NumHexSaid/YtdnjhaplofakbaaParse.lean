/- num.Parse by contract. -/
import Derived.Test.YtdnjhaplofakbaaRows
import Derived.Test.YtdnjhaplofakbaaNumSpec
import Derived.WalkKit
import Derived.WalkSpells
import Derived.WalkLawsBesides
import Derived.BigQuiet
import Derived.Deep.QuietTactic
import Derived.Lib.Hide
namespace Go.Proofs.Ytdnjhaplofakbaa
open Go.RowKit
open NumS
theorem ret2 {a b a' b' : Int} {k k' : IntKind} (h : a = a') (h' : b = b') : Ending.returned (.tuple #[.int k a, .int k' b]) = .returned (.tuple #[.int k a', .int k' b']) := by rw [h, h']

theorem bad_dig (s : ByteArray) (k : Nat) (h : k < s.size) (hc : s[k].toNat < 48 ∨ 57 < s[k].toNat) : pv s.data.toList = 0 ∧ pe s.data.toList = 10 := by
  have hk : s.data.toList[k]? = some s[k] := by rw [List.getElem?_eq_getElem (by simpa using h)]; rfl
  have hr := parseS_nodig _ k _ hk (by rcases hc with hc | hc; exact isDig_lo _ hc; exact isDig_hi _ hc)
  exact ⟨pv_none _ hr, pe_none _ hr⟩
theorem take_s (s : ByteArray) (k : Nat) (h : k < s.size) : s.data.toList.take (k + 1) = s.data.toList.take k ++ [s[k]] := by
  rw [List.take_succ_eq_append_getElem (by simpa using h)]; rfl
theorem over_dig (s : ByteArray) (k m : Nat) (h : k < s.size) (hm : m = val (s.data.toList.take k)) (h1 : 48 ≤ s[k].toNat) (h2 : s[k].toNat ≤ 57) (h3 : (18446744073709551615 - (s[k].toNat - 48)) / 10 < m) : pv s.data.toList = 0 ∧ pe s.data.toList = 10 := by
  have hr := parseS_over s.data.toList (k + 1) (by rw [take_s s k h, val_snoc, ← hm, maxU_eq]; omega)
  exact ⟨pv_none _ hr, pe_none _ hr⟩
theorem next_dig (s : ByteArray) (k m : Nat) (h : k < s.size) (hm : m = val (s.data.toList.take k)) (hd : digs (s.data.toList.take k) = true) (h1 : 48 ≤ s[k].toNat) (h2 : s[k].toNat ≤ 57) (h3 : m ≤ (18446744073709551615 - (s[k].toNat - 48)) / 10) :
    10 * m + (s[k].toNat - 48) = val (s.data.toList.take (k + 1)) ∧ digs (s.data.toList.take (k + 1)) = true ∧ 10 * m + (s[k].toNat - 48) ≤ maxU := by
  rw [take_s s k h, val_snoc, ← hm, digs_snoc, hd, isDig_ok _ h1 h2, maxU_eq]
  exact ⟨rfl, rfl, by omega⟩
theorem all_digs (s : ByteArray) (k m : Nat) (h : s.size ≤ k) (hb : lenBad s.data.toList = false) (hm : m = val (s.data.toList.take k)) (hd : digs (s.data.toList.take k) = true) (hu : m ≤ maxU) : pv s.data.toList = m ∧ pe s.data.toList = 0 := by
  rw [List.take_of_length_le (by simpa using h)] at hm hd
  have hr := parseS_ok _ hb hd (by omega)
  rw [← hm] at hr
  exact ⟨pv_some _ _ hr, pe_some _ _ hr⟩
set_option maxHeartbeats 400000 in
theorem parse_bad (s : ByteArray) (w : World) (hs : s.size ≤ maxLen) (hb : lenBad s.data.toList = true) (h : s.size = 0 ∨ 20 < s.size ∨ (1 < s.size ∧ ∃ h : 0 < s.size, s[0].toNat = 48)) :
    Calls Try.prog 10 #[.string s] w fun e w' => e = .returned (.tuple #[.int .u64 (pv s.data.toList), .int .i64 (pe s.data.toList)]) ∧ w = w' := by
  have hr := parseS_bad s.data.toList hb
  have HV := Lib.hid (pv_none _ hr)
  have HE := Lib.hid (pe_none _ hr)
  clear hr hb
  unfold maxLen at hs
  rcases h with h | h | ⟨h, h0, h1⟩
  · have h2 : ((s.size : Int) == 0) = true := by simp [h]
    clear h
    go_enter Try.func10, Try.ntmps10
    go_wp2
    go_ret2
    exact ⟨ret2 (by rw [HV.out]) (by rw [HE.out]), rfl⟩
  · have h2 : ((s.size : Int) == 0) = false := beq_eq_false_iff_ne.2 (by omega)
    have h3 : (20 : Int) < (s.size : Int) := by omega
    go_enter Try.func10, Try.ntmps10
    go_wp2
    go_ret2
    exact ⟨ret2 (by rw [HV.out]) (by rw [HE.out]), rfl⟩
  · have h2 : ((s.size : Int) == 0) = false := beq_eq_false_iff_ne.2 (by omega)
    by_cases h3 : (20 : Int) < (s.size : Int)
    · go_enter Try.func10, Try.ntmps10
      go_wp2
      go_ret2
      exact ⟨ret2 (by rw [HV.out]) (by rw [HE.out]), rfl⟩
    · have h4 : (1 : Int) < (s.size : Int) := by omega
      have h5 : ((s[0].toNat : Int) == 48) = true := by simp [h1]
      clear h1
      go_enter Try.func10, Try.ntmps10
      go_wp2
      go_ret2
      exact ⟨ret2 (by rw [HV.out]) (by rw [HE.out]), rfl⟩
set_option maxHeartbeats 400000 in
theorem parse_loop (s : ByteArray) (w : World) (hs0 : 0 < s.size) (hs : s.size ≤ 20) (hb : lenBad s.data.toList = false) (h : s.size = 1 ∨ (1 < s.size ∧ s[0].toNat ≠ 48)) :
    Calls Try.prog 10 #[.string s] w fun e w' => e = .returned (.tuple #[.int .u64 (pv s.data.toList), .int .i64 (pe s.data.toList)]) ∧ w = w' := by
  have HB := Lib.hid hb
  clear hb
  have h2 : ((s.size : Int) == 0) = false := beq_eq_false_iff_ne.2 (by omega)
  have h3 : ¬ (20 : Int) < (s.size : Int) := by omega
  have h4 : ¬ (1 : Int) < (s.size : Int) ∨ ((1 : Int) < (s.size : Int) ∧ ((s[0].toNat : Int) == 48) = false) := by
    rcases h with h | ⟨h, h'⟩
    · left; omega
    · right; exact ⟨by omega, beq_eq_false_iff_ne.2 (by omega)⟩
  clear h
  rcases h4 with h4 | ⟨h4, h5⟩
  · go_enter Try.func10, Try.ntmps10
    go_wp2
    go_loop [4, 27] (fun n i => ∃ k m : Nat, k ≤ s.size ∧ i = .int .i64 k ∧ n = .int .u64 m ∧ Hid (m = val (s.data.toList.take k) ∧ digs (s.data.toList.take k) = true ∧ m ≤ maxU)) (fun _ i => s.size - (intOf i).toNat)
    case atStart => exact ⟨0, 0, Nat.zero_le _, rfl, rfl, ⟨rfl, rfl, Nat.zero_le _⟩⟩
    case round =>
      obtain ⟨k, m, hk, rfl, rfl, HM⟩ := hrel
      by_cases hlt : k < s.size
      · by_cases hc1 : (s[k].toNat : Int) < 48
        · have HR := Lib.hid (bad_dig s k hlt (Or.inl (by omega)))
          go_wp2
          go_ret2
          exact ⟨ret2 HR.out.1.symm HR.out.2.symm, rfl⟩
        · by_cases hc2 : (57 : Int) < (s[k].toNat : Int)
          · have HR := Lib.hid (bad_dig s k hlt (Or.inr (by omega)))
            go_wp2
            go_ret2
            exact ⟨ret2 HR.out.1.symm HR.out.2.symm, rfl⟩
          · have hm : m ≤ 18446744073709551615 := HM.2.2
            by_cases hov : ((18446744073709551615 : Int) - ((s[k].toNat : Int) - 48)) / 10 < (m : Int)
            · have HR := Lib.hid (over_dig s k m hlt HM.1 (by omega) (by omega) (by omega))
              go_wp2
              go_ret2
              exact ⟨ret2 HR.out.1.symm HR.out.2.symm, rfl⟩
            · have HR := Lib.hid (next_dig s k m hlt HM.1 HM.2.1 (by omega) (by omega) (by omega))
              go_wp2
              go_round
              case rel => exact ⟨k + 1, 10 * m + (s[k].toNat - 48), by omega, by go_num, by go_num, HR.out⟩
              case measure => simp [intOf]; omega
      · have HR := Lib.hid (all_digs s k m (by omega) HB.out HM.1 HM.2.1 HM.2.2)
        go_wp2
        go_ret2
        exact ⟨ret2 HR.out.1.symm HR.out.2.symm, rfl⟩
  · go_enter Try.func10, Try.ntmps10
    go_wp2
    go_loop [4, 27] (fun n i => ∃ k m : Nat, k ≤ s.size ∧ i = .int .i64 k ∧ n = .int .u64 m ∧ Hid (m = val (s.data.toList.take k) ∧ digs (s.data.toList.take k) = true ∧ m ≤ maxU)) (fun _ i => s.size - (intOf i).toNat)
    case atStart => exact ⟨0, 0, Nat.zero_le _, rfl, rfl, ⟨rfl, rfl, Nat.zero_le _⟩⟩
    case round =>
      obtain ⟨k, m, hk, rfl, rfl, HM⟩ := hrel
      by_cases hlt : k < s.size
      · by_cases hc1 : (s[k].toNat : Int) < 48
        · have HR := Lib.hid (bad_dig s k hlt (Or.inl (by omega)))
          go_wp2
          go_ret2
          exact ⟨ret2 HR.out.1.symm HR.out.2.symm, rfl⟩
        · by_cases hc2 : (57 : Int) < (s[k].toNat : Int)
          · have HR := Lib.hid (bad_dig s k hlt (Or.inr (by omega)))
            go_wp2
            go_ret2
            exact ⟨ret2 HR.out.1.symm HR.out.2.symm, rfl⟩
          · have hm : m ≤ 18446744073709551615 := HM.2.2
            by_cases hov : ((18446744073709551615 : Int) - ((s[k].toNat : Int) - 48)) / 10 < (m : Int)
            · have HR := Lib.hid (over_dig s k m hlt HM.1 (by omega) (by omega) (by omega))
              go_wp2
              go_ret2
              exact ⟨ret2 HR.out.1.symm HR.out.2.symm, rfl⟩
            · have HR := Lib.hid (next_dig s k m hlt HM.1 HM.2.1 (by omega) (by omega) (by omega))
              go_wp2
              go_round
              case rel => exact ⟨k + 1, 10 * m + (s[k].toNat - 48), by omega, by go_num, by go_num, HR.out⟩
              case measure => simp [intOf]; omega
      · have HR := Lib.hid (all_digs s k m (by omega) HB.out HM.1 HM.2.1 HM.2.2)
        go_wp2
        go_ret2
        exact ⟨ret2 HR.out.1.symm HR.out.2.symm, rfl⟩
theorem parse_any (s : ByteArray) (w : World) (hs : s.size ≤ maxLen) :
    Calls Try.prog 10 #[.string s] w fun e w' => e = .returned (.tuple #[.int .u64 (pv s.data.toList), .int .i64 (pe s.data.toList)]) ∧ w = w' := by
  have hl : s.data.toList.length = s.size := rfl
  by_cases h0 : s.size = 0
  · exact parse_bad s w hs (lenBad_zero _ (by omega)) (.inl h0)
  by_cases h1 : 20 < s.size
  · exact parse_bad s w hs (lenBad_long _ (by omega)) (.inr (.inl h1))
  by_cases h2 : 1 < s.size ∧ s[0].toNat = 48
  · refine parse_bad s w hs (lenBad_lead _ (by omega) ?_) (.inr (.inr ⟨h2.1, by omega, h2.2⟩))
    exact UInt8.toNat.inj h2.2
  · refine parse_loop s w (by omega) (by omega) (lenBad_no _ (by omega) (by omega) fun h1 he => h2 ⟨by omega, ?_⟩) ?_
    · have : s[0] = 48 := he
      rw [this]; rfl
    · by_cases h3 : 1 < s.size
      · exact .inr ⟨h3, fun h4 => h2 ⟨h3, h4⟩⟩
      · exact .inl (by omega)
end Go.Proofs.Ytdnjhaplofakbaa
