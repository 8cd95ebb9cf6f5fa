/- What must come of fixed calls (law.go's known). -/
import Derived.Test.YtmlmndaflgfdkaaTo14
namespace Go.Proofs.Ytmlmndaflgfdkaa
set_option linter.unusedVariables false
set_option linter.unusedSimpArgs false
open Go.RowKit
abbrev kAll : Gt := ⟨31, 16, 0, 0, 65535, 65535, false, 4294967295⟩
abbrev kFew : Gt := ⟨1, 16, 0, 0, 65535, 65535, false, 9⟩
abbrev kL1 : List Tk := [⟨5, 0, kAll⟩]
abbrev kL2 : List Tk := [⟨5, 0, kAll⟩, ⟨7, 5, kFew⟩]
theorem k_sec1 : SecOk kL1 := fun k hk => by simp at hk; subst hk; decide
theorem k_sec2 : SecOk kL2 := fun k hk => by simp at hk; rcases hk with rfl | rfl <;> decide
theorem k_left0 : leftC 0 [] = [] := rfl
theorem k_left1 : leftC 0 kL1 = kL1 := by decide +kernel
theorem k_left2 : leftC 9 kL2 = kL2 := by decide +kernel
theorem k_left3 : leftC 10 kL2 = kL1 := by decide +kernel
theorem k_left4 : leftC 10 kL1 = kL1 := by decide +kernel
theorem k_left5 : leftC 10 [] = [] := rfl
theorem k_put1 : putE [] ⟨5, 0, kAll⟩ = 0 := by decide +kernel
theorem k_putL1 : putL [] ⟨5, 0, kAll⟩ = kL1 := by rw [putL, k_put1]; rfl
theorem k_der : derE kL1 5 7 kFew = 0 := by decide +kernel
theorem k_derL : derL kL1 5 7 kFew = kL2 := by decide +kernel
theorem k_liv : livG kL2 7 = ⟨1, 16, 0, 0, 65535, 65535, false, 9⟩ := by decide +kernel
theorem k_livB : livB kL2 7 = true := by decide +kernel
theorem k_livB2 : livB kL1 7 = false := by decide +kernel
theorem k_rev : revE kL1 5 = 0 := by decide +kernel
theorem k_revL : revL kL1 5 = [] := by decide +kernel
theorem k_ord2 : OrdT kL2 := by
  intro i hi
  have : i = 0 ∨ i = 1 := by simp at hi; omega
  rcases this with rfl | rfl <;> decide +kernel
theorem k_ord1 : OrdT kL1 := by
  intro i hi
  have : i = 0 := by simp at hi; omega
  subst this; decide +kernel
theorem TS.keep {y r : Nat} {v v' : Value} {w w' : World} {L : List Tk} {t : TypeId} {cs : Array Value} (h : TS y v w v' L w') (hb : Blk w r t cs) (hy : r ≠ y) (hv : v.ownBlock ≠ some r) : Blk w' r t cs := (h.ke.block r hb.lt hy hv).trans hb
set_option maxRecDepth 100000 in
set_option maxHeartbeats 8000000 in
theorem tknown_any (w : World) : Calls Try.prog 23 #[] w fun e w' => e = .returned (.bool true) ∧ Below w.heap.size w w' := by
  go_enter Try.func23, Try.ntmps23
  go_wp2_with fail
  refine (tnew_any _).mono ?_
  rintro e w1 ⟨rfl, hT1, hb1⟩
  have HT1 := Lib.hid hT1
  have HB1 := Lib.hid hb1
  clear hT1 hb1
  obtain ⟨y, hy⟩ : ∃ y, w.heap.size = y := ⟨_, rfl⟩
  rw [hy] at HT1 ⊢
  have HY := Lib.hid hy; clear hy
  go_wp2_with fail
  refine (all_any _).mono ?_
  rintro e w2 ⟨rfl, hb2⟩
  have HT2 := Lib.hid (HT1.out.below hb2)
  have HB2 := Lib.hid (show Below y w w2 by have h := below_trans HB1.out hb2; rwa [HY.out] at h)
  clear hb2 HT1 HB1
  go_upto_region 5 with fail
  have HK := Lib.hid (Blk.new w2 30 #[.int .i64 1, .int .i64 16, .int .i64 0, .int .i64 0, .int .i64 65535, .int .i64 65535, .bool false, .int .i64 9])
  have HT3 := Lib.hid (HT2.out.alloc (.cells #[.int .i64 1, .int .i64 16, .int .i64 0, .int .i64 0, .int .i64 65535, .int .i64 65535, .bool false, .int .i64 9] 30))
  have HB3 := Lib.hid (HB2.out.alloc (by have := HT2.out.blk.lt; omega) (.cells #[.int .i64 1, .int .i64 16, .int .i64 0, .int .i64 0, .int .i64 65535, .int .i64 65535, .bool false, .int .i64 9] 30))
  have HNY := Lib.hid (show w2.heap.size ≠ y by have := HT2.out.blk.lt; omega)
  clear HT2 HB2
  generalize (w2.alloc (.cells #[.int .i64 1, .int .i64 16, .int .i64 0, .int .i64 0, .int .i64 65535, .int .i64 65535, .bool false, .int .i64 9] 30)) = W3 at *
  generalize w2.heap.size = b at *
  go_wp2_with fail
  refine (all_any _).mono ?_
  rintro e w4 ⟨rfl, hb4⟩
  have HK4 := Lib.hid (Blk.thru0 HK.out hb4)
  have HT4 := Lib.hid (HT3.out.below hb4)
  have HB4 := Lib.hid (show Below y w w4 from HB3.out.trans (hb4.mono (by have := HT3.out.blk.lt; omega)))
  clear hb4 HK HT3 HB3
  go_wp2_with fail
  refine (mint_any _ y 5 _ [] kAll 0 HT4.out (by decide) (fun k hk => by cases hk) (by decide)).mono ?_
  rintro e w5 ⟨v5, rfl, hT5⟩
  rw [k_left0, k_put1]
  rw [k_left0, k_putL1] at hT5
  have HK5 := Lib.hid (hT5.keep HK4.out HNY.out (by simp [Value.ownBlock]))
  have HT5 := Lib.hid hT5
  clear hT5 HK4
  have q0 := HK5.out.cell 0
  have q1 := HK5.out.cell 1
  have q2 := HK5.out.cell 2
  have q3 := HK5.out.cell 3
  have q4 := HK5.out.cell 4
  have q5 := HK5.out.cell 5
  have q6 := HK5.out.cell 6
  have q7 := HK5.out.cell 7
  simp only [List.getElem?_toArray, List.getElem?_cons_zero, List.getElem?_cons_succ] at q0 q1 q2 q3 q4 q5 q6 q7
  go_wp2_with fail
  refine (derive_any _ y 5 7 v5 kL1 kFew 0 HT5.out.tb (by decide) k_sec1 (by decide) (by decide)).mono ?_
  rintro e w6 ⟨v6, rfl, hT6⟩
  rw [k_left1, k_der]
  rw [k_left1, k_derL] at hT6
  have HT6 := Lib.hid (HT5.out.trans hT6)
  clear hT6 HK5 HT5 q0 q1 q2 q3 q4 q5 q6 q7
  go_wp2_with fail
  refine (live_any _ y 7 v6 kL2 9 HT6.out.tb (by decide) k_sec2 (by rw [k_left2]; exact k_ord2) (by decide)).mono ?_
  rintro e w7 ⟨v7, rfl, hT7⟩
  rw [k_left2, k_liv, k_livB]
  rw [k_left2] at hT7
  have HT7 := Lib.hid (HT6.out.trans hT7)
  clear hT7 HT6
  go_upto_region 8 with fail
  have HX := Lib.hid (Blk.new w7 30 #[.int .i64 1, .int .i64 16, .int .i64 0, .int .i64 0, .int .i64 65535, .int .i64 65535, .bool false, .int .i64 9])
  have HT8 := Lib.hid (HT7.out.below (show Below w7.heap.size w7 (w7.alloc (.cells #[.int .i64 1, .int .i64 16, .int .i64 0, .int .i64 0, .int .i64 65535, .int .i64 65535, .bool false, .int .i64 9] 30)) from (Below.refl _ _).alloc (Nat.le_refl _) _))
  have HXY := Lib.hid (show w7.heap.size ≠ y by have := HT7.out.tb.blk.lt; omega)
  have HXV := Lib.hid (show v7.ownBlock ≠ some w7.heap.size from fun e => by have := HT7.out.tb.own.lt e; omega)
  clear HT7
  generalize (w7.alloc (.cells #[.int .i64 1, .int .i64 16, .int .i64 0, .int .i64 0, .int .i64 65535, .int .i64 65535, .bool false, .int .i64 9] 30)) = W8 at *
  generalize w7.heap.size = x at *
  go_wp2_with fail
  refine (live_any _ y 7 v7 kL2 10 HT8.out.tb (by decide) k_sec2 (by rw [k_left3]; exact k_ord1) (by decide)).mono ?_
  rintro e w9 ⟨v9, rfl, hT9⟩
  rw [k_left3, k_livB2]
  rw [k_left3] at hT9
  have HX9 := Lib.hid (hT9.keep HX.out HXY.out HXV.out)
  have HT9 := Lib.hid (HT8.out.trans hT9)
  obtain ⟨lg, hlg⟩ : ∃ lg, livG kL1 7 = lg := ⟨_, rfl⟩
  rw [hlg]
  clear hT9 HT8 HX hlg
  obtain ⟨g0, g1, g2, g3, g4, g5, g6, g7⟩ := lg
  simp only [Gt.V]
  have q0 := HX9.out.cell 0
  have q1 := HX9.out.cell 1
  have q2 := HX9.out.cell 2
  have q3 := HX9.out.cell 3
  have q4 := HX9.out.cell 4
  have q5 := HX9.out.cell 5
  have q6 := HX9.out.cell 6
  have q7 := HX9.out.cell 7
  simp only [List.getElem?_toArray, List.getElem?_cons_zero, List.getElem?_cons_succ] at q0 q1 q2 q3 q4 q5 q6 q7
  have hxz := HX9.out.lt
  have HT9A := Lib.hid (fun o => HT9.out.below (show Below w9.heap.size w9 (w9.alloc o) from (Below.refl _ _).alloc (Nat.le_refl _) o))
  go_wp2_with fail
  refine (len_any _ y v9 kL1 10 (HT9A.out _).tb (by decide) k_sec1).mono ?_
  rintro e wa ⟨va, rfl, hTa⟩
  rw [k_left4]
  rw [k_left4] at hTa
  have HTa := Lib.hid ((HT9A.out _).trans hTa)
  clear hTa HT9A HX9 HT9 hxz q0 q1 q2 q3 q4 q5 q6 q7
  go_wp2_with fail
  refine (revoke_any _ y 5 va kL1 10 HTa.out.tb (by decide) k_sec1 (by decide)).mono ?_
  rintro e wb ⟨vb, rfl, hTb⟩
  rw [k_left4, k_rev]
  rw [k_left4, k_revL] at hTb
  have HTb := Lib.hid (HTa.out.trans hTb)
  clear hTb HTa
  go_wp2_with fail
  refine (len_any _ y vb [] 10 HTb.out.tb (by decide) (fun k hk => by cases hk)).mono ?_
  rintro e wc ⟨vc, rfl, hTc⟩
  have HTc := Lib.hid (HTb.out.trans hTc)
  clear hTc HTb
  go_wp2
  go_ret
  have hk := HTc.out.ke
  refine ⟨rfl, hk.os.trans HB4.out.os, hk.tape.trans HB4.out.tape, hk.output.trans HB4.out.output, Nat.le_trans HB4.out.size hk.size, fun i hi => ?_⟩
  rw [hk.block i (Nat.lt_of_lt_of_le hi HB4.out.size) (by rw [HY.out] at hi; omega) (by simp [Value.ownBlock]), HB4.out.block i (by rw [HY.out] at hi; omega)]
end Go.Proofs.Ytmlmndaflgfdkaa
