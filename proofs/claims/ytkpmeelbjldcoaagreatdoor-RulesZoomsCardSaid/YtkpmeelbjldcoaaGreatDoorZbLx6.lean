/- Texts: Lx6. -/
import Derived.Test.YtkpmeelbjldcoaaGreatDoorZbLxSpecM
import Derived.Test.YtkpmeelbjldcoaaGreatDoorShelf
import Derived.Laws.Cover1
namespace Go.Proofs.YtkpmeelbjldcoaaGreatDoor
set_option linter.unusedVariables false
set_option linter.unusedSimpArgs false
open Go.RowKit
def wordsL : List Bs := [[97, 108, 108], [97, 108, 108, 111, 119], [97, 110, 121], [99, 97, 112], [99, 108, 111, 97, 107], [105, 110], [108, 97, 98, 101, 108], [114, 101, 103, 105, 111, 110], [114, 111, 108, 101], [116, 105, 101, 114], [122, 111, 111, 109]]
def marksL : List Bs := [[61], [43], [59], [46, 46]]
def wS (i : Nat) : ByteArray := bs (wordsL.getD i [])
def mS (i : Nat) : ByteArray := bs (marksL.getD i [])
/-- The package variables that the calls read. -/
structure Vs (w : World) : Prop where
  words : ∀ i, i < 11 → w.cell? ⟨3, i, none⟩ = some (.string (wS i))
  marks : ∀ i, i < 4 → w.cell? ⟨1, i, none⟩ = some (.string (mS i))
  syn : ∃ te pe, w.cell? ⟨4, 0, none⟩ = some (.iface te pe)
  rng : ∃ te pe, w.cell? ⟨5, 0, none⟩ = some (.iface te pe)
  tab : Lib.TabIs Tryz.prog w "internal/strconv.uint64pow10" .u64 Lib.pow10Tab
theorem bytesLess_irr : ∀ l : List UInt8, Op.bytesLess l l = false := by
  intro l
  induction l with
  | nil => rfl
  | cons c l ih => simp [Op.bytesLess, ih]
def cmpV (a b : ByteArray) : Int := if a = b then 0 else if Op.bytesLess a.toList b.toList = true then -1 else 1
theorem nan_any (a : ByteArray) (w : World) : Calls Tryz.prog 164 #[.string a] w fun e w' => e = .returned (.bool false) ∧ w = w' := by
  go_enter Tryz.func164, Tryz.ntmps164
  go_wp2
  go_ret
  exact ⟨by simp, rfl⟩
theorem toList_inj {a b : ByteArray} (h : a.toList = b.toList) : a = b := by
  rw [ByteArray.toList_eq, ByteArray.toList_eq] at h
  cases a; cases b
  simp at h
  rw [h]
theorem cmp_any (a b : ByteArray) (w : World) : Calls Tryz.prog 154 #[.string a, .string b] w fun e w' => e = .returned (.int .i64 (cmpV a b)) ∧ w = w' := by
  have H1 := Lib.hid (nan_any a)
  have H2 := Lib.hid (nan_any b)
  have HV := Lib.hid (show (Op.bytesLess a.toList b.toList = true ∧ cmpV a b = -1) ∨ (Op.bytesLess a.toList b.toList = false ∧ (a.toList == b.toList) = true ∧ cmpV a b = 0) ∨ (Op.bytesLess a.toList b.toList = false ∧ (a.toList == b.toList) = false ∧ cmpV a b = 1) by
    by_cases h : a = b
    · subst h; exact .inr (.inl ⟨bytesLess_irr _, by simp, by simp [cmpV]⟩)
    · have hne : (a.toList == b.toList) = false := beq_eq_false_iff_ne.2 (fun e => h (toList_inj e))
      cases hl : Op.bytesLess a.toList b.toList with
      | true => exact .inl ⟨rfl, by simp [cmpV, h, hl]⟩
      | false => exact .inr (.inr ⟨rfl, hne, by simp [cmpV, h, hl]⟩))
  rcases HV.out with ⟨h1, hv⟩ | ⟨h1, h2, hv⟩ | ⟨h1, h2, hv⟩ <;> rw [hv] <;> clear hv HV
  all_goals
    go_enter Tryz.func154, Tryz.ntmps154
    go_wp2_with (first
      | (go_at_call 164; with_reducible refine (H1.out _).mono ?_; rintro e w9 ⟨rfl, hw9⟩; subst hw9)
      | (go_at_call 164; with_reducible refine (H2.out _).mono ?_; rintro e w9 ⟨rfl, hw9⟩; subst hw9))
    go_ret
    exact ⟨rfl, rfl⟩
def wordB (s : ByteArray) : Bool := (List.range 11).any fun i => decide (s = wS i)
theorem wordB_yes {s : ByteArray} {k : Nat} (hk : k < 11) (e : s = wS k) : wordB s = true := List.any_eq_true.2 ⟨k, List.mem_range.2 hk, by simp [e]⟩
theorem wordB_no {s : ByteArray} (h : ∀ j, j < 11 → s ≠ wS j) : wordB s = false := by
  unfold wordB
  rw [List.any_eq_false]
  intro j hj
  simpa using h j (List.mem_range.1 hj)
theorem words_less : ∀ i, i < 11 → ∀ j, j < 11 → i < j → Op.bytesLess (wS i).toList (wS j).toList = true := by
  have : ∀ i : Fin 11, ∀ j : Fin 11, i.1 < j.1 → Op.bytesLess (wS i.1).data.toList (wS j.1).data.toList = true := by decide +kernel
  intro i hi j hj h
  have := this ⟨i, hi⟩ ⟨j, hj⟩ h
  rw [ByteArray.toList_eq, ByteArray.toList_eq]
  exact this
theorem word_case (s : ByteArray) (k : Nat) (hk : k < 11) : (cmpV (wS k) s = 0 ∧ s = wS k) ∨ (cmpV (wS k) s = -1 ∧ s ≠ wS k) ∨ (cmpV (wS k) s = 1 ∧ ∀ j, k ≤ j → j < 11 → s ≠ wS j) := by
  by_cases h : wS k = s
  · exact .inl ⟨by simp [cmpV, h], h.symm⟩
  · by_cases hl : Op.bytesLess (wS k).toList s.toList = true
    · exact .inr (.inl ⟨by simp [cmpV, h, hl], fun e => h e.symm⟩)
    · refine .inr (.inr ⟨by simp [cmpV, h, hl], fun j hkj hj e => ?_⟩)
      rcases Nat.lt_or_ge k j with h1 | h1
      · subst e; exact hl (words_less k hk j hj h1)
      · obtain rfl : j = k := by omega
        exact h e.symm
theorem idx_words : ∀ (k : Nat) (hk : k < 11) (w : World), (Instr.index 185 (.agg #[.string (wS 0), .string (wS 1), .string (wS 2), .string (wS 3), .string (wS 4), .string (wS 5), .string (wS 6), .string (wS 7), .string (wS 8), .string (wS 9), .string (wS 10)]) (.int .i64 (k : Int))).run Tryz.prog w = .ok (.string (wS k)) w
  | 0, _, w => by kernel_rfl
  | 1, _, w => by kernel_rfl
  | 2, _, w => by kernel_rfl
  | 3, _, w => by kernel_rfl
  | 4, _, w => by kernel_rfl
  | 5, _, w => by kernel_rfl
  | 6, _, w => by kernel_rfl
  | 7, _, w => by kernel_rfl
  | 8, _, w => by kernel_rfl
  | 9, _, w => by kernel_rfl
  | 10, _, w => by kernel_rfl
  | k + 11, hk, w => absurd hk (by omega)
theorem idx_marks : ∀ (k : Nat) (hk : k < 4) (w : World), (Instr.index 176 (.agg #[.string (mS 0), .string (mS 1), .string (mS 2), .string (mS 3)]) (.int .i64 (k : Int))).run Tryz.prog w = .ok (.string (mS k)) w
  | 0, _, w => by kernel_rfl
  | 1, _, w => by kernel_rfl
  | 2, _, w => by kernel_rfl
  | 3, _, w => by kernel_rfl
  | k + 4, hk, w => absurd hk (by omega)
set_option maxRecDepth 100000 in
set_option maxHeartbeats 8000000 in
theorem word_any (s : ByteArray) (w : World) (hV : Vs w) : Calls Tryz.prog 144 #[.string s] w fun e w' => e = .returned (.bool (wordB s)) ∧ w = w' := by
  have c0 := hV.words 0 (by decide)
  have c1 := hV.words 1 (by decide)
  have c2 := hV.words 2 (by decide)
  have c3 := hV.words 3 (by decide)
  have c4 := hV.words 4 (by decide)
  have c5 := hV.words 5 (by decide)
  have c6 := hV.words 6 (by decide)
  have c7 := hV.words 7 (by decide)
  have c8 := hV.words 8 (by decide)
  have c9 := hV.words 9 (by decide)
  have c10 := hV.words 10 (by decide)
  have HC := Lib.hid (fun k => cmp_any (wS k) s w)
  have HY : Hid (∀ k, k < 11 → s = wS k → wordB s = true) := Lib.hid (fun k hk e => wordB_yes hk e)
  have HN : Hid ((∀ j, j < 11 → s ≠ wS j) → wordB s = false) := Lib.hid (fun h => wordB_no h)
  have HW := Lib.hid (word_case s)
  generalize wordB s = B at *
  clear hV
  go_enter Tryz.func144, Tryz.ntmps144
  go_wp2_with fail
  go_step3
  go_wp2_with fail
  go_step3
  go_wp2_with fail
  go_loopw [3, 7] (fun t i wr => ∃ k : Nat, k ≤ 11 ∧ i = .int .i64 k ∧ t = .bool false ∧ Hid (w = wr ∧ ∀ j, j < k → s ≠ wS j)) (fun _ i _ => 11 - (intOf i).toNat)
  case atStart => exact ⟨0, by omega, rfl, rfl, Lib.hid ⟨rfl, fun j hj => absurd hj (by omega)⟩⟩
  case round =>
    obtain ⟨k, hk, rfl, rfl, HR⟩ := hrel
    obtain rfl := HR.out.1
    by_cases hlt : k < 11
    · have HK := Lib.hid (HC.out k)
      have hix := idx_words k hlt w
      have hki : (k : Int) < 11 := by omega
      have HCS := Lib.hid (HW.out k hlt)
      generalize cmpV (wS k) s = v at *
      clear HC
      rcases HCS.out with ⟨rfl, h⟩ | ⟨rfl, h⟩ | ⟨rfl, h⟩
      · have HB := Lib.hid (HY.out k hlt h)
        clear h HCS HW HY HN HR
        go_wp2_with ((go_at_call 154; refine HK.out.mono ?_; rintro e w9 ⟨rfl, hw9⟩; subst hw9))
        simp only [Exit.noGoto]
        go_ret
        exact ⟨by rw [HB.out]; rfl, rfl⟩
      · have HH := Lib.hid h
        clear h HCS HW HY HN
        have HR2 := Lib.hid HR.out.2
        clear HR
        go_wp2_with ((go_at_call 154; refine HK.out.mono ?_; rintro e w9 ⟨rfl, hw9⟩; subst hw9))
        go_roundw
        case rel => exact ⟨k + 1, by omega, by go_num, (by first | rfl | trivial), Lib.hid ⟨(by first | rfl | trivial), fun j hj => by
          rcases Nat.lt_or_eq_of_le (Nat.le_of_lt_succ hj) with h1 | rfl
          · exact HR2.out j h1
          · exact HH.out⟩⟩
        case measure => simp [intOf]; omega
      · have HB := Lib.hid (HN.out fun j hj => by
          rcases Nat.lt_or_ge j k with h1 | h1
          · exact HR.out.2 j h1
          · exact h j h1 hj)
        clear h HCS HW HY HN HR
        go_wp2_with ((go_at_call 154; refine HK.out.mono ?_; rintro e w9 ⟨rfl, hw9⟩; subst hw9))
        simp only [Exit.noGoto]
        go_ret
        exact ⟨by rw [HB.out]; rfl, rfl⟩
    · obtain rfl : k = 11 := by omega
      have HB := Lib.hid (HN.out HR.out.2)
      clear HW HY HN HR HC
      go_wp2
      simp only [Exit.noGoto]
      go_ret
      exact ⟨by rw [HB.out]; rfl, rfl⟩
end Go.Proofs.YtkpmeelbjldcoaaGreatDoor
