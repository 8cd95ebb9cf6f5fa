/- Texts: HzH, HzI, HzJ. -/
import Derived.Test.YtmgamlpjgghieaaGreatDoorZbHzG
import Derived.Lib.LaidU8
import Derived.Lib.LaidTab
import Derived.Lay
import Derived.LaidLaws
namespace Go.Proofs.YtmgamlpjgghieaaGreatDoor
section
set_option linter.unusedVariables false
set_option linter.unusedSimpArgs false
open Go.RowKit Go.Maps
def exAcc (g1 g2 : Nat) : List (Rc × RV) := [(exA, ⟨some ⟨g1, 0, none⟩, 1, 1⟩), (exC, ⟨some ⟨g2, 0, none⟩, 1, 1⟩)]
def ExP (w : World) (e : Ending) (w' : World) : Prop := ∃ v g1 g2, e = .returned v ∧ RRd w' v (exAcc g1 g2) ∧ Below w.heap.size w w'
set_option maxRecDepth 100000 in
set_option maxHeartbeats 4000000 in
theorem example_any (w : World) : Calls Tryz.prog 33 #[] w (ExP w) := by
  go_enter Tryz.func33, Tryz.ntmps33
  go_wp2_with fail
  refine (rect14_any 0 0 9 9 _).mono ?_
  rintro e w1 ⟨rfl, hb⟩
  have HB1 := Lib.hid hb
  have HA1 := Lib.hid (show Below w1.heap.size w1 (w1.alloc (.cells #[.int .i64 0, .int .i64 0, .int .i64 9, .int .i64 9] 46)) from (Below.refl _ _).alloc (Nat.le_refl _) _)
  have HK1 := Lib.hid (Blk.new w1 46 #[.int .i64 0, .int .i64 0, .int .i64 9, .int .i64 9])
  have HC1 := Lib.hid (HB1.out.trans (HA1.out.mono HB1.out.size))
  clear hb HB1 HA1
  go_wp2_with fail
  generalize (w1.alloc (.cells #[.int .i64 0, .int .i64 0, .int .i64 9, .int .i64 9] 46)) = W1 at *
  generalize w1.heap.size = g1 at *
  refine (rect14_any 5 0 9 4 _).mono ?_
  rintro e w2 ⟨rfl, hb⟩
  have HK2 := Lib.hid (HK1.out.thru0 hb)
  have HB2 := Lib.hid (HC1.out.trans (hb.mono HC1.out.size))
  have HA2 := Lib.hid (show Below w2.heap.size w2 (w2.alloc (.cells #[.int .i64 5, .int .i64 0, .int .i64 9, .int .i64 4] 46)) from (Below.refl _ _).alloc (Nat.le_refl _) _)
  have HL2 := Lib.hid (Blk.new w2 46 #[.int .i64 5, .int .i64 0, .int .i64 9, .int .i64 4])
  have HK3 := Lib.hid (HK2.out.thru0 HA2.out)
  have HC2 := Lib.hid (HB2.out.trans (HA2.out.mono HB2.out.size))
  have HZ2 := Lib.hid (show (w2.alloc (.cells #[.int .i64 5, .int .i64 0, .int .i64 9, .int .i64 4] 46)).heap.size = w2.heap.size + 1 by simp)
  have HFN := Lib.hid (fun (X : World) (g : Nat) (hX : Below (w2.alloc (.cells #[.int .i64 5, .int .i64 0, .int .i64 9, .int .i64 4] 46)).heap.size (w2.alloc (.cells #[.int .i64 5, .int .i64 0, .int .i64 9, .int .i64 4] 46)) X) (hg : Blk X g 59 (elRu.encs (exAcc g1 w2.heap.size)).toArray) =>
    (show ExP w (.returned (.slice (some ⟨g, 0, none⟩) 2 2)) X from ⟨_, g1, w2.heap.size, rfl, ⟨ERd.of_own elRu_ok (EOwn.block (M := exAcc g1 w2.heap.size) elRu_ok hg (by simp) (by simp [exAcc])), fun x hx => by
      simp only [exAcc, List.mem_cons, List.not_mem_nil, or_false] at hx
      rcases hx with rfl | rfl
      · exact ERd.of_own elR_ok (EOwn.block (M := [(⟨0, 0, 9, 9⟩ : Bx)]) elR_ok (HK3.out.thru0 hX) rfl (by simp))
      · exact ERd.of_own elR_ok (EOwn.block (M := [(⟨5, 0, 9, 4⟩ : Bx)]) elR_ok (HL2.out.thru0 hX) rfl (by simp))⟩, HC2.out.trans (hX.mono HC2.out.size)⟩))
  clear hb HK2 HB2 HA2 HK1 HC1 HK3 HL2 HC2
  go_wp2_with fail
  go_ret
  exact HFN.out _ _ ((Below.refl _ _).alloc (Nat.le_refl _) _) (Blk.newAt HZ2.out)
theorem filt_map (acc : List (Rc × RV)) (ro ti la : Int) : (acc.filter fun x => forB x.1 ro ti la).map (·.1) = (acc.map (·.1)).filter fun r => forB r ro ti la := by
  induction acc with
  | nil => rfl
  | cons a l ih =>
    rw [List.filter_cons, List.map_cons, List.filter_cons]
    split
    · rw [List.map_cons, ih]
    · exact ih
theorem ex_filt : ([exA, exC].filter fun r => forB r 3 2 1) = [exA, exC] := by
  rw [List.filter_cons, if_pos (show forB exA 3 2 1 = true by decide +kernel), List.filter_cons, if_pos (show forB exC 3 2 1 = true by decide +kernel), List.filter_nil]
theorem ex_ok : ∀ r ∈ [exA, exC], okRc r := by
  intro r hr
  simp only [List.mem_cons, List.not_mem_nil, or_false] at hr
  rcases hr with rfl | rfl
  · exact ⟨.inl rfl, by decide, by decide, fun b hb => by simp only [exA, List.mem_cons, List.not_mem_nil, or_false] at hb; subst hb; decide +kernel⟩
  · exact ⟨.inr rfl, by decide, by decide, fun b hb => by simp only [exC, List.mem_cons, List.not_mem_nil, or_false] at hb; subst hb; decide +kernel⟩
theorem ex_of5 : ofN exW ⟨0, 0, 9, 9⟩ = 5 := by decide +kernel
theorem ex_of0 : ofN exW ⟨0, 0, 10, 9⟩ = 0 := by decide +kernel
/-- The patches' own contract, as the table's contracts want it. -/
theorem hpa_of {acc : List (Rc × RV)} {B t m : Nat} {w : World} {ro ti la : Int} (hok : ∀ r ∈ (acc.filter fun x => forB x.1 ro ti la).map (·.1), okRc r) (hl : acc.length ≤ 32) (he : (edM ((acc.filter fun x => forB x.1 ro ti la).map (·.1))).length ≤ 100000) (hT : TzOk w) (h1 : 1 < B) (hlo : B ≤ t ∧ B ≤ m) :
    ∀ W v, ButTM t m w W → RRd W v (acc.filter fun x => forB x.1 ro ti la) → Calls Tryz.prog 59 #[v] W fun e w' => ∃ v2, e = .returned v2 ∧ EOwn elPa w' v2 (PNc ((acc.filter fun x => forB x.1 ro ti la).map (·.1))) ∧ (∀ i, v2.ownBlock = some i → W.heap.size ≤ i) ∧ Below W.heap.size W w' := by
  intro W v hb hr
  refine (patches_any W v _ hr ?_ hok he (hT.keep (hb.block _ hT.lt (by omega) (by omega)))).mono ?_
  · have := List.length_filter_le (fun x : Rc × RV => forB x.1 ro ti la) acc
    omega
  · rintro e w' ⟨v2, L, rfl, h2, h3, h4, h5, -⟩
    exact ⟨v2, rfl, by rw [PNc_of h3]; exact h2, h4, h5⟩
theorem But.toBelow {m B : Nat} {a w w' : World} (hb : Below B a w) (hk : But m w w') (hm : B ≤ m) (hB : B ≤ w.heap.size) : Below B a w' :=
  ⟨hk.os.trans hb.os, hk.tape.trans hb.tape, hk.output.trans hb.output, Nat.le_trans hb.size hk.size, fun i hi => (hk.block i (by omega) (by omega)).trans (hb.block i hi)⟩
end
section
set_option linter.unusedVariables false
set_option linter.unusedSimpArgs false
open Go.RowKit Go.Maps
/-- A table of the chapter's rules, under way. -/
structure KSt (w : World) (B t m : Nat) (rv : Value) (acc : List (Rc × RV)) (k : Nat) (W : World) : Prop where
  tab : ∃ n H, n ≤ k ∧ TabAt PNc B W t m rv acc n H 0
  bel : Below w.heap.size w W
  tz : TzOk W
  wB : w.heap.size ≤ B
  tB : 1 < B
  bW : B ≤ W.heap.size
  ac : acc.map (·.1) = [exA, exC]
section
variable {w W X : World} {B t m k : Nat} {rv : Value} {acc : List (Rc × RV)}
theorem KSt.below (h : KSt w B t m rv acc k W) (hb : Below W.heap.size W X) : KSt w B t m rv acc k X := by
  obtain ⟨n, H, h1, h2⟩ := h.tab
  exact ⟨⟨n, H, h1, h2.below hb⟩, h.bel.trans (hb.mono h.bel.size), h.tz.below hb, h.wB, h.tB, Nat.le_trans h.bW hb.size, h.ac⟩
theorem KSt.but (h : KSt w B t m rv acc k W) (hb : But m W X) {n' : Nat} {H' : Lit → Option Value} (hn : n' ≤ k + 1) (ht : TabAt PNc B X t m rv acc n' H' 0) : KSt w B t m rv acc (k + 1) X := by
  obtain ⟨n, H, h1, h2⟩ := h.tab
  exact ⟨⟨n', H', hn, ht⟩, But.toBelow h.bel hb (Nat.le_trans h.wB h2.lo.2) h.bel.size, h.tz.keep (hb.block _ h.tz.lt (by have := h.tB; have := h2.lo.2; omega)), h.wB, h.tB, Nat.le_trans h.bW hb.size, h.ac⟩
theorem KSt.filt (h : KSt w B t m rv acc k W) : (acc.filter fun x => forB x.1 3 2 1).map (·.1) = [exA, exC] := by rw [filt_map, h.ac, ex_filt]
theorem KSt.len (h : KSt w B t m rv acc k W) : acc.length = 2 := by
  have := congrArg List.length h.ac
  simpa using this
theorem KSt.hpa (h : KSt w B t m rv acc k W) : ∀ V v, ButTM t m W V → RRd V v (acc.filter fun x => forB x.1 3 2 1) → Calls Tryz.prog 59 #[v] V fun e w' => ∃ v2, e = .returned v2 ∧ EOwn elPa w' v2 (PNc ((acc.filter fun x => forB x.1 3 2 1).map (·.1))) ∧ (∀ i, v2.ownBlock = some i → V.heap.size ≤ i) ∧ Below V.heap.size V w' := by
  obtain ⟨n, H, h1, h2⟩ := h.tab
  exact hpa_of (by rw [h.filt]; exact ex_ok) (by have := h.len; omega) (by rw [h.filt]; decide) h.tz h.tB h2.lo
theorem KSt.patches (h : KSt w B t m rv acc k W) (hk : k ≤ 100) : Calls Tryz.prog 13 #[ptr t, .int .i64 3, .int .i64 2, .int .i64 1] W fun e X => ∃ v, e = .returned v ∧ EOwn elPa X v exW ∧ KSt w B t m rv acc (k + 1) X ∧ But m W X := by
  obtain ⟨n, H, h1, h2⟩ := id h.tab
  have hp : PNc ((acc.filter fun x => forB x.1 3 2 1).map (·.1)) = exW := by rw [h.filt]; exact PNc_of ex_pat
  refine (tpatches_any h2 (by have := h.len; omega) (by unfold maxLen; omega) h.bW 3 2 1 (by unfold I64; omega) (by unfold I64; omega) (by unfold I64; omega) PNc_nil (by rw [hp]; decide) h.hpa).mono ?_
  rintro e X ⟨v, n', H', rfl, g1, g2, g3, -, g5⟩
  rw [hp] at g3
  exact ⟨v, rfl, g3, h.but g5 (by omega) g2, g5⟩
theorem KSt.of (h : KSt w B t m rv acc k W) (hk : k ≤ 100) (r : Bx) : Calls Tryz.prog 24 #[ptr t, .int .i64 3, .int .i64 2, .int .i64 1, .agg #[.int .i64 r.x0, .int .i64 r.y0, .int .i64 r.x1, .int .i64 r.y1]] W fun e X => e = .returned (.int .i64 (ofN exW r)) ∧ KSt w B t m rv acc (k + 1) X := by
  obtain ⟨n, H, h1, h2⟩ := id h.tab
  have hp : PNc ((acc.filter fun x => forB x.1 3 2 1).map (·.1)) = exW := by rw [h.filt]; exact PNc_of ex_pat
  refine (tof_any h2 (by have := h.len; omega) (by unfold maxLen; omega) h.bW 3 2 1 (by unfold I64; omega) (by unfold I64; omega) (by unfold I64; omega) PNc_nil h.hpa r).mono ?_
  rintro e X ⟨n', H', rfl, g1, g2, g5⟩
  rw [hp]
  exact ⟨rfl, h.but g5 (by omega) g2⟩
end
theorem ex_map (g1 g2 : Nat) : (exAcc g1 g2).map (·.1) = [exA, exC] := rfl
theorem ex_rurs (g1 g2 : Nat) : rursB (exAcc g1 g2) = true := by
  show (rurB exA && (rurB exC && true)) = true
  decide +kernel
set_option maxRecDepth 100000 in
set_option maxHeartbeats 8000000 in
theorem known_any (w : World) (hT : TzOk w) : Calls Tryz.prog 11 #[] w fun e w' => e = .returned (.bool true) ∧ Below w.heap.size w w' := by
  have HT := Lib.hid hT
  clear hT
  go_enter Tryz.func11, Tryz.ntmps11
  go_wp2_with fail
  refine (example_any _).mono ?_
  rintro e w1 ⟨v1, g1, g2, rfl, hr1, hb1⟩
  have HB1 := Lib.hid hb1
  have HT1 := Lib.hid (HT.out.below hb1)
  have HNW := Lib.hid (new_any w1 v1 _ hr1 (fun x hx => by
    simp only [exAcc, List.mem_cons, List.not_mem_nil, or_false] at hx
    rcases hx with rfl | rfl
    · exact (show exA.bx.length * elR.by_ ≤ 140737488355328 from by decide)
    · exact (show exC.bx.length * elR.by_ ≤ 140737488355328 from by decide)))
  clear hr1 hb1
  go_wp2_with fail
  refine HNW.out.mono ?_
  rintro e w2 ⟨hb2, hq⟩
  rw [if_neg (by simp [exAcc]), if_pos (ex_rurs _ _)] at hq
  obtain ⟨t, m, rv, acc, rfl, hm, hTA⟩ := hq
  have HK2 := Lib.hid (show KSt w w1.heap.size t m rv acc 0 w2 from ⟨⟨0, _, Nat.le_refl _, hTA PNc⟩, HB1.out.trans (hb2.mono HB1.out.size), HT1.out.below hb2, HB1.out.size, HT1.out.lt, hb2.size, hm.trans (ex_map _ _)⟩)
  clear hb2 hm hTA HNW HB1 HT1 HT
  generalize w1.heap.size = B at *
  go_wp2_with fail
  refine (rect14_any 0 0 4 4 _).mono ?_
  rintro e w3 ⟨rfl, hb⟩
  have HK3 := Lib.hid (HK2.out.below hb)
  clear hb HK2
  go_wp2_with fail
  refine (rect14_any 5 0 9 4 _).mono ?_
  rintro e w4 ⟨rfl, hb⟩
  have HK4 := Lib.hid (HK3.out.below hb)
  clear hb HK3
  go_wp2_with fail
  refine (rect14_any 0 5 9 9 _).mono ?_
  rintro e w5 ⟨rfl, hb⟩
  have HK5 := Lib.hid (HK4.out.below hb)
  clear hb HK4
  have HA5 := Lib.hid (show Below w5.heap.size w5 (w5.alloc (.cells #[.int .i64 0, .int .i64 0, .int .i64 4, .int .i64 4, .int .i64 12, .int .i64 5, .int .i64 0, .int .i64 9, .int .i64 4, .int .i64 5, .int .i64 0, .int .i64 5, .int .i64 9, .int .i64 9, .int .i64 12] 48)) from (Below.refl _ _).alloc (Nat.le_refl _) _)
  have HW6 := Lib.hid (show EOwn elPa (w5.alloc (.cells #[.int .i64 0, .int .i64 0, .int .i64 4, .int .i64 4, .int .i64 12, .int .i64 5, .int .i64 0, .int .i64 9, .int .i64 4, .int .i64 5, .int .i64 0, .int .i64 5, .int .i64 9, .int .i64 9, .int .i64 12] 48)) (.slice (some ⟨w5.heap.size, 0, none⟩) 3 3) exW from EOwn.block (M := exW) elPa_ok (Blk.new w5 48 #[.int .i64 0, .int .i64 0, .int .i64 4, .int .i64 4, .int .i64 12, .int .i64 5, .int .i64 0, .int .i64 9, .int .i64 4, .int .i64 5, .int .i64 0, .int .i64 5, .int .i64 9, .int .i64 9, .int .i64 12]) rfl (by decide))
  have HK6 := Lib.hid (HK5.out.below HA5.out)
  have HPM := Lib.hid (show w5.heap.size ≠ m from by obtain ⟨n, H, h1, h2⟩ := HK5.out.tab; have := h2.map.lt; omega)
  clear HK5 HA5
  go_wp2_with fail
  generalize (w5.alloc (.cells #[.int .i64 0, .int .i64 0, .int .i64 4, .int .i64 4, .int .i64 12, .int .i64 5, .int .i64 0, .int .i64 9, .int .i64 4, .int .i64 5, .int .i64 0, .int .i64 5, .int .i64 9, .int .i64 9, .int .i64 12] 48)) = w6 at *
  generalize w5.heap.size = pw at *
  have HPA := Lib.hid (HK6.out.patches (by decide))
  simp only [ptr] at HPA
  refine HPA.out.mono ?_
  rintro e w7 ⟨v7, rfl, hO7, hK7, hb7⟩
  have HK7 := Lib.hid hK7
  have HW7 := Lib.hid (ERd.of_own elPa_ok (HW6.out.but hb7 (fun i hi => by
    have e : pw = i := by simpa [Value.ownBlock] using hi
    exact e ▸ HPM.out)))
  have HSM := Lib.hid (same14_self w7 v7 (.slice (some ⟨pw, 0, none⟩) 3 3) exW (ERd.of_own elPa_ok hO7) HW7.out (by decide))
  clear hK7 hO7 HPA HK6 HW6 hb7
  go_wp2_with fail
  refine HSM.out.mono ?_
  rintro e w8 ⟨rfl, hb8⟩
  have HK8 := Lib.hid (HK7.out.below hb8)
  clear hb8 HSM HK7 HW7
  go_wp2_with fail
  refine (rect14_any 0 0 9 9 _).mono ?_
  rintro e w9 ⟨rfl, hb9⟩
  have HK9 := Lib.hid (HK8.out.below hb9)
  have HOA := Lib.hid (HK9.out.of (by decide) ⟨0, 0, 9, 9⟩)
  rw [ex_of5] at HOA
  simp only [ptr] at HOA
  clear hb9 HK8
  go_wp2_with fail
  refine HOA.out.mono ?_
  rintro e w10 ⟨rfl, hK10⟩
  have HK10 := Lib.hid hK10
  clear hK10 HOA HK9
  go_wp2_with fail
  refine (rect14_any 0 0 10 9 _).mono ?_
  rintro e w11 ⟨rfl, hb9⟩
  have HK11 := Lib.hid (HK10.out.below hb9)
  have HOA := Lib.hid (HK11.out.of (by decide) ⟨0, 0, 10, 9⟩)
  rw [ex_of0] at HOA
  simp only [ptr] at HOA
  clear hb9 HK10
  go_wp2_with fail
  refine HOA.out.mono ?_
  rintro e w12 ⟨rfl, hK12⟩
  have HFN := Lib.hid hK12.bel
  clear hK12 HOA HK11
  go_wp2_with fail
  go_ret
  exact ⟨rfl, HFN.out⟩
end
section
set_option linter.unusedVariables false
set_option linter.unusedSimpArgs false
open Go.RowKit
def laidL : List (String × DataW Unit) := [("math/bits.deBruijn32tab", Rows.laid_math_bits_deBruijn32tab), ("math/bits.deBruijn64tab", Rows.laid_math_bits_deBruijn64tab)]
def tz64 : List Int := Lib.deBruijn64tab.map fun n : Nat => (n : Int)
theorem tz_of_laid {W : World} (h : laidMet Tryz.prog laidL W) : TzOk W := by
  have hp : Lib.VarReads Tryz.prog W "math/bits.deBruijn64tab" (Lib.tabData .u8 tz64) := Lib.laidMet.reads h (by
    have e : (Rows.laid_math_bits_deBruijn64tab : DataW Unit) = Lib.tabData .u8 tz64 := by kernel_rfl
    rw [← e]; simp [laidL])
  have hg : Tryz.prog.globalNamed "math/bits.deBruijn64tab" = some 1 := by kernel_rfl
  have ht : Lib.TabIs Tryz.prog W "math/bits.deBruijn64tab" .u8 tz64 := by
    obtain ⟨g', t', cs, fuel, p, h1, h2, h3, h4⟩ := hp
    have hty : (Tryz.prog.globals[1]?).map (·.type) = some 171 := by kernel_rfl
    obtain rfl := Option.some.inj (hg.symm.trans h1)
    obtain rfl := Option.some.inj (hty.symm.trans h2)
    unfold Lib.TabIs
    rw [h3, ← Lib.cells_of_tab Tryz.underlying171 Tryz.underlying5 (by kernel_rfl) (by kernel_rfl) h4]
  intro j hj
  have h5 := ht.cell hg j (by unfold tz64; rw [List.length_map]; exact hj)
  rw [h5]
  unfold tz64
  simp [List.getD_eq_getElem?_getD, List.getElem?_eq_getElem hj]
end
end Go.Proofs.YtmgamlpjgghieaaGreatDoor
