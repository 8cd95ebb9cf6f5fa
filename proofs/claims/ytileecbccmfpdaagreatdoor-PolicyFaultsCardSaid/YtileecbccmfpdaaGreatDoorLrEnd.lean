/- lex: End, by contract. -/
import Derived.Test.YtileecbccmfpdaaGreatDoorLr7
import Derived.Lib.LastIndexByte
namespace Go.Proofs.YtileecbccmfpdaaGreatDoor
set_option linter.unusedVariables false
set_option linter.unusedSimpArgs false
open Go.RowKit
theorem advs_line (l : Bs) : (advs (1, 1) l).1 = 1 + (l.count 10 : Int) := by
  refine snoc_ind (P := fun l => (advs (1, 1) l).1 = 1 + (l.count 10 : Int)) rfl (fun a c ih => ?_) l
  rw [advs_app]
  show (adv (advs (1, 1) a) c).1 = _
  unfold adv
  by_cases h : c = 10
  · subst h
    rw [if_pos (by rfl)]
    simp [List.count_append, ih]; omega
  · have : ¬ c.toNat = 10 := fun e => h (UInt8.toNat_inj.1 e)
    rw [if_neg this]
    simp [List.count_append, ih, h]
/-- The last line's end. -/
theorem advs_col (l : Bs) : (∃ a b, l = a ++ b ∧ (∀ c ∈ b, c.toNat ≠ 10) ∧ ((a = [] ∧ (advs (1, 1) l).2 = 1 + b.length) ∨ (∃ a', a = a' ++ [10] ∧ (advs (1, 1) l).2 = 1 + b.length))) := by
  refine snoc_ind (P := fun l => (∃ a b, l = a ++ b ∧ (∀ c ∈ b, c.toNat ≠ 10) ∧ ((a = [] ∧ (advs (1, 1) l).2 = 1 + b.length) ∨ (∃ a', a = a' ++ [10] ∧ (advs (1, 1) l).2 = 1 + b.length)))) ⟨[], [], rfl, by simp, .inl ⟨rfl, rfl⟩⟩ (fun l c ih => ?_) l
  obtain ⟨a, b, rfl, hb, hc⟩ := ih
  have e : advs (1, 1) (a ++ b ++ [c]) = adv (advs (1, 1) (a ++ b)) c := by rw [advs_app]; rfl
  by_cases h : c.toNat = 10
  · refine ⟨a ++ b ++ [c], [], by simp, by simp, .inr ⟨a ++ b, ?_, ?_⟩⟩
    · rw [show c = 10 from UInt8.toNat_inj.1 h]
    · rw [e, adv, if_pos h]; rfl
  · refine ⟨a, b ++ [c], by simp, ?_, ?_⟩
    · intro x hx
      rcases List.mem_append.1 hx with h1 | h1
      · exact hb x h1
      · simp at h1; rw [h1]; exact h
    · rw [e, adv, if_neg h]
      rcases hc with ⟨h1, h2⟩ | ⟨a', h1, h2⟩
      · exact .inl ⟨h1, by simp only [h2, List.length_append, List.length_singleton]; push_cast; omega⟩
      · exact .inr ⟨a', h1, by simp only [h2, List.length_append, List.length_singleton]; push_cast; omega⟩
theorem last_col (s : ByteArray) : (s.size : Int) - Lib.lastIndexByte s 10 = (advs (1, 1) s.data.toList).2 := by
  obtain ⟨a, b, hab, hb, hc⟩ := advs_col s.data.toList
  have hl : s.size = a.length + b.length := by
    have := congrArg List.length hab
    rw [List.length_append] at this
    exact this
  have hget : ∀ j, s.data[j]! = s.data.toList.getD j default := fun j => by
    rw [getElem!_def, List.getD, Array.getElem?_toList]
    cases s.data[j]? <;> rfl
  have hbn : ∀ j, a.length ≤ j → j < s.size → ((s.data[j]!).toNat : Int) ≠ 10 := fun j h1 h2 e => by
    rw [hget, hab, List.getD, List.getElem?_append_right h1, List.getElem?_eq_getElem (by omega)] at e
    simp only [Option.getD_some] at e
    exact hb (b[j - a.length]'(by omega)) (List.getElem_mem _) (by omega)
  have hsp := Lib.lastIndexByte_spec s 10
  rcases hc with ⟨rfl, h2⟩ | ⟨a', rfl, h2⟩
  · have : Lib.lastIndexByte s 10 = -1 := by
      rcases hsp with ⟨h, _⟩ | ⟨i, hi, h, h3, _⟩
      · exact h
      · exact absurd h3 (hbn i (by simp) hi)
    rw [this, h2, hl]; simp; omega
  · have h10 : ((s.data[a'.length]!).toNat : Int) = 10 := by
      rw [hget, hab, List.getD, List.getElem?_append_left (by simp), List.getElem?_append_right (Nat.le_refl _)]
      simp
    have : Lib.lastIndexByte s 10 = (a'.length : Int) := by
      rcases hsp with ⟨_, h⟩ | ⟨i, hi, h, h3, h4⟩
      · exact absurd h10 (h _ (by rw [hl]; simp; omega))
      · rw [h]
        rcases Nat.lt_trichotomy i a'.length with h5 | h5 | h5
        · exact absurd h10 (h4 _ h5 (by rw [hl]; simp; omega))
        · rw [h5]
        · exact absurd h3 (hbn i (by simp; omega) hi)
    rw [this, h2, hl]; simp; omega
set_option maxRecDepth 100000 in
theorem end_any (s : ByteArray) (w : World) (hl : s.size ≤ 140737488355328) : Calls Tryz.prog 22 #[.string s] w fun e w' => e = .returned (.agg #[.int .i64 (advs (1, 1) s.data.toList).1, .int .i64 (advs (1, 1) s.data.toList).2]) ∧ Below w.heap.size w w' := by
  have HC := Lib.hid (Tryz.strings_Count_one s 10)
  have HI := Lib.hid (Tryz.strings_LastIndexByte s 10 (by omega))
  have h1 : (advs (1, 1) s.data.toList).1 = 1 + (Lib.countByte s.data.toList 10 : Int) := advs_line _
  have h2 := (last_col s).symm
  have hb := advs_bound s.data.toList (1, 1) (by decide) (by decide)
  have hln : s.data.toList.length = s.size := rfl
  rw [hln] at hb
  have hA : Below w.heap.size w (w.alloc (.cells #[.int .i64 0, .int .i64 0] 25)) := (Below.refl _ _).alloc (Nat.le_refl _) _
  have HA := Lib.hid hA
  have HK := Lib.hid (Blk.new w 25 #[.int .i64 0, .int .i64 0])
  generalize hC : (Lib.countByte s.data.toList 10 : Int) = C at *
  generalize Lib.lastIndexByte s 10 = I at *
  generalize hP : advs (1, 1) s.data.toList = P at *
  have hc1 : (0 : Int) ≤ 1 + C ∧ 1 + C ≤ 140737488355330 := by rw [← h1]; simp only at hb; omega
  have hi1 : (0 : Int) ≤ (s.size : Int) - I ∧ (s.size : Int) - I ≤ 140737488355330 := by rw [← h2]; simp only at hb; omega
  obtain ⟨hc10, hc11⟩ := hc1
  obtain ⟨hi10, hi11⟩ := hi1
  rw [h1, h2]
  clear hA h1 h2 hb hP hC
  go_enter Tryz.func22, Tryz.ntmps22
  go_wp2_with fail
  generalize (w.alloc (.cells #[.int .i64 0, .int .i64 0] 25)) = W at *
  refine (HC.out _).mono ?_
  rintro e w9 ⟨rfl, hw9⟩
  subst hw9
  go_wp2_with fail
  refine (HI.out _).mono ?_
  rintro e w8 ⟨rfl, hw8⟩
  subst hw8
  have r0 : _ = some (Value.int .i64 0) := HK.out.cell 0
  have r1 : _ = some (Value.int .i64 0) := HK.out.cell 1
  have g0 := HK.out.frozen 0
  have g1 := HK.out.frozen 1
  go_wp2_with fail
  have HBF := Lib.hid ((HA.out.setCell (p := ⟨w.heap.size, 0, none⟩) (Nat.le_refl _) (.int .i64 (1 + C))).setCell (p := ⟨w.heap.size, 1, none⟩) (Nat.le_refl _) (.int .i64 ((s.size : Int) - I)))
  refine bodyPost_ret (v := .agg #[.int .i64 (1 + C), .int .i64 ((s.size : Int) - I)]) ?_ rfl ⟨rfl, HBF.out⟩
  simp [results, Tryz.results22, go_sem, *]
end Go.Proofs.YtileecbccmfpdaaGreatDoor
