/- Texts: Po14. -/
import Derived.Test.YtkpmeelbjldcoaaGreatDoorZbPo13
namespace Go.Proofs.YtkpmeelbjldcoaaGreatDoor
set_option linter.unusedVariables false
set_option linter.unusedSimpArgs false
open Go.RowKit
/-- What a declaration that may be is known by. -/
structure RightD (d : Dc) : Prop where
  i : DI d
  bx : d.bx.length ≤ 100000
  few : (formL d ++ [mEnd]).length ≤ 1000
  short : ∀ s ∈ formL d ++ [mEnd], s.length ≤ 50
  back : ∃ L L' d', tokF (formL d ++ [mEnd]) = some L ∧ L.length ≤ 100000 ∧ allP L = (true, L', [d']) ∧ stripD d' = stripD d ∧ d'.bx = d.bx
def Rng (w : World) (b : Nat) (cs : List Value) : Prop := w.rangeAt b 0 cs
theorem Rng.below {w w' : World} {b : Nat} {cs : List Value} (h : Rng w b cs) (hb : Below w.heap.size w w') : Rng w' b cs := fun j v hv => cell_block (h j v hv) fun hl => hb.block _ hl
theorem Rng.drew {w : World} {b : Nat} {cs : List Value} (h : Rng w b cs) : Rng w.drew b cs := h
def ld24 (w : World) (b : Nat) : Value := .agg ((List.range 24).map fun i => (w.cell? ⟨b, i, none⟩).getD undef).toArray
def Rd24 (w : World) (b : Nat) : Prop := ∃ C : List Value, C.length = 24 ∧ w.rangeAt b 0 C
theorem ld24_of {w : World} {b : Nat} {C : List Value} (hC : C.length = 24) (h : Rng w b C) : ld24 w b = .agg C.toArray := by
  have e : ((List.range 24).map fun i => (w.cell? ⟨b, i, none⟩).getD undef) = C := by
    refine List.ext_getElem (by simp [hC]) fun i h1 h2 => ?_
    have h3 := h i C[i] (List.getElem?_eq_getElem h2)
    rw [Nat.zero_add] at h3
    simp [h3]
  unfold ld24
  rw [e]
/-- A declaration is loaded. -/
def ld44 (v : Value) : Sem Value := Instr.loadAt 41 v
theorem to_ld44 (v : Value) : Instr.loadAt 41 v = ld44 v := rfl
theorem run_ld24 {w : World} {b : Nat} (h : Rd24 w b) : (ld44 (.pointer (some ⟨b, 0, none⟩))).run Tryz.prog w = .ok (ld24 w b) w := by
  obtain ⟨C, hC, hR⟩ := h
  rw [ld24_of hC hR]
  exact run_loadAt_mid w b 0 41 C _ hR Tryz.underlying41 rfl (by rw [hC]; kernel_rfl)
theorem Rng.rd {w : World} {b : Nat} {C : List Value} (h : Rng w b C) (hC : C.length = 24) : Rd24 w b := ⟨C, hC, h⟩
theorem Rd24.drew {w : World} {b : Nat} (h : Rd24 w b) : Rd24 w.drew b := h
theorem ld24_drew {w : World} {b : Nat} {V : Value} (h : Rd24 w b) (e : ld24 w b = V) : ld24 w.drew b = V := by
  obtain ⟨C, hC, hR⟩ := h
  have h1 := ld24_of hC hR
  have h2 : ld24 w.drew b = _ := ld24_of (w := w.drew) hC hR
  rw [h2, ← h1, e]
attribute [local go_sem ↓] to_ld44
attribute [local go_sem] run_ld24
theorem range_below {w w' : World} {b o : Nat} {cs : List Value} (h : w.rangeAt b o cs) (hb : Below w.heap.size w w') : w'.rangeAt b o cs := fun j v hv => cell_block (h j v hv) fun hl => hb.block _ hl
set_option maxRecDepth 100000 in
set_option maxHeartbeats 8000000 in
theorem pright_any (w : World) (d : Dc) (bv : Value) (hV : Vs w) (hs : Hs w) (hg : 0 < w.heap.size) (h : ERd elR w bv d.bx) (hone : bv.oneCell' = true) (hr : RightD d) :
    Calls Tryz.prog 53 #[dV d bv] w fun e w' => e = .returned (.bool true) ∧ Below w.heap.size w w' := by
  obtain ⟨L, L', d', hL, hLl, hAll, hSt, hBx⟩ := hr.back
  have HVB := Lib.hid (show ∀ w', Below w.heap.size w w' → Vs w' from fun w' hb => hV.below hb)
  have HHB := Lib.hid (show ∀ w', Below w.heap.size w w' → Hs w' from fun w' hb => hs.low hb)
  have HG := Lib.hid hg
  have HR := Lib.hid h
  have HOC := Lib.hid hone
  have HD := Lib.hid hr
  have HL := Lib.hid hL
  have HLL := Lib.hid hLl
  have HAL := Lib.hid hAll
  have HST := Lib.hid hSt
  have HBX := Lib.hid hBx
  have HK0 : Hid (DAt (w.alloc (.cells (dcells d bv).toArray 41)) w.heap.size d bv) := Lib.hid (Blk.new w 41 (dcells d bv).toArray)
  have HB0 := Lib.hid (show Below w.heap.size w (w.alloc (.cells (dcells d bv).toArray 41)) from (Below.refl _ _).alloc (Nat.le_refl _) _)
  clear hV hs hg h hone hr hL hLl hAll hSt hBx
  go_enter Tryz.func53, Tryz.ntmps53
  go_upto_region 1 with (fail)
  generalize (w.alloc (.cells (dcells d bv).toArray 41)) = W0 at *
  have HRG := Lib.hid (Blk.range HK0.out)
  go_wp2_with ((refine wpList_load_mid rfl 41 _ rfl w.heap.size 0 ?hx (dcells d bv) ?d ?hc ?hu ?hd ?hi ?_))
  case hx => rfl
  case hc => exact HRG.out
  case hu => exact Tryz.underlying41
  case hd => rfl
  case hi => kernel_rfl
  refine (form_any W0 d bv (HVB.out _ HB0.out) (HHB.out _ HB0.out) HD.out.i (HR.out.below HB0.out) HD.out.bx).mono ?_
  rintro e W1 ⟨v1, rfl, hO, hf, hb⟩
  obtain ⟨A1, c1, rfl, _, _⟩ := hO.slice
  have HK1 : Hid (DAt W1 w.heap.size d bv) := Lib.hid (Blk.thru0 HK0.out hb)
  have HB1 := Lib.hid (HB0.out.trans (hb.mono HB0.out.size))
  have HF2 : Hid (FormAt (W1.alloc (.cells #[.slice A1 (formL d).length c1] 100)) W0.heap.size W1.heap.size (formL d)) := Lib.hid ⟨_, Blk.new W1 _ _, hO.alloc _, hf, hb.size⟩
  have HK2 : Hid (DAt (W1.alloc (.cells #[.slice A1 (formL d).length c1] 100)) w.heap.size d bv) := Lib.hid (Blk.thru0 HK1.out ((Below.refl _ _).alloc (Nat.le_refl _) _))
  have HB2 := Lib.hid (show Below w.heap.size w (W1.alloc (.cells #[.slice A1 (formL d).length c1] 100)) from HB1.out.alloc HB1.out.size _)
  have HW0 := Lib.hid (show w.heap.size ≤ W0.heap.size ∧ W0.heap.size ≤ W1.heap.size from ⟨HB0.out.size, hb.size⟩)
  have HN0 := Lib.hid (HK0.out.lt)
  clear hO hf hb HRG HK0 HB0
  go_upto_region 2 with (fail)
  have HZB := Lib.hid (show (W1.alloc (.cells #[.slice A1 (formL d).length c1] 100)).heap.size = W1.heap.size + 1 by simp)
  generalize hW2 : (W1.alloc (.cells #[.slice A1 (formL d).length c1] 100)) = W2 at *
  clear hW2
  generalize hp : W1.heap.size = p at *
  go_wp2_with fail
  refine (put_any _ W0.heap.size p (formL d) [mEnd] (some ⟨W2.heap.size, 0, none⟩) 1 (HF2.out.below ((Below.refl _ _).alloc (Nat.le_refl _) _)) (EOwn.block (M := [mEnd]) elS_ok (Blk.new W2 9 #[.string (bs mEnd)]) rfl (by simp)) (by have := HW0.out; have := HZB.out; simp; omega) (by have := HD.out.few; simp only [List.length_append] at this; omega)).mono ?_
  intro e W3 hq
  have HK3 : Hid (DAt W3 w.heap.size d bv) := Lib.hid (hq.2.2.2 _ _ _ (Blk.thru0 HK2.out ((Below.refl _ _).alloc (Nat.le_refl _) _)) (by decide) (by decide))
  have HF3 := Lib.hid hq.2.1
  have HB3 := Lib.hid ((HB2.out.alloc HB2.out.size (.cells #[.string (bs mEnd)] 9)).trans (hq.2.2.1.mono HW0.out.1))
  obtain ⟨rfl, hq⟩ := hq
  clear hq HF2 HK2 HB2 HK1 HB1
  have HFEW := Lib.hid HD.out.few
  have HSHO := Lib.hid HD.out.short
  generalize formL d ++ [mEnd] = F at *
  obtain ⟨v3, hv1, hv2, hv3, hv4⟩ := HF3.out
  obtain ⟨A3, c3, rfl, _, _⟩ := hv2.slice
  have k3 := hv1.cell 0
  simp only [List.getElem?_toArray, List.getElem?_cons_zero] at k3
  have HO3 := Lib.hid hv2
  clear hv1 hv2 hv3 hv4
  go_wp2_with fail
  refine (tokof_any W3 F A3 c3 (HVB.out _ HB3.out) HO3.out HFEW.out HSHO.out).mono ?_
  intro e W4 hq
  unfold TokOfP at hq
  rw [HL.out] at hq
  obtain ⟨v4, rfl, hO4, hf4, hb4⟩ := hq
  simp only [Option.getD_some] at hO4
  obtain ⟨A4, n4, rfl, _, _⟩ := hO4.slice
  have HO4 := Lib.hid hO4
  have HK4 : Hid (DAt W4 w.heap.size d bv) := Lib.hid (Blk.thru0 HK3.out hb4)
  have HB4 := Lib.hid (HB3.out.trans (hb4.mono HB3.out.size))
  clear hO4 hf4 hb4 HK3 HB3 HO3 HF3 k3
  have hBN := Blk.new W4 86 #[.slice none 0 0, .int .i64 0, .string ⟨#[]⟩, .int .i64 0, .slice none 0 0, .bool false, .string ⟨#[]⟩, .int .i64 0, .int .i64 0, .int .i64 0, .int .i64 0, .int .i64 0, .bool false, .string ⟨#[]⟩, .int .i64 0, .int .i64 0, .int .i64 0, .bool false, .string ⟨#[]⟩, .int .i64 0, .int .i64 0, .int .i64 0, .int .i64 0, .int .i64 0, .int .i64 0]
  have HBN := Lib.hid hBN
  have HTH := Lib.hid (hBN.there (n := 25) (by decide))
  clear hBN
  go_wp2_with ((refine wpList_store_mid rfl 86 _ _ rfl W4.heap.size 0 (rcells (.slice A4 L.length n4) (Dc.z (0, 0)) (.slice none 0 0)) ?hx ?hy ?ht ?hi ?h1 ?_))
  case hx => rfl
  case hy => rfl
  case ht => exact HTH.out
  case hi => kernel_rfl
  case h1 => exact rcells_one _ _ _ rfl rfl
  have hBR : Blk ((W4.alloc (.cells #[.slice none 0 0, .int .i64 0, .string ⟨#[]⟩, .int .i64 0, .slice none 0 0, .bool false, .string ⟨#[]⟩, .int .i64 0, .int .i64 0, .int .i64 0, .int .i64 0, .int .i64 0, .bool false, .string ⟨#[]⟩, .int .i64 0, .int .i64 0, .int .i64 0, .bool false, .string ⟨#[]⟩, .int .i64 0, .int .i64 0, .int .i64 0, .int .i64 0, .int .i64 0, .int .i64 0] 86)).setCells W4.heap.size 0 (rcells (.slice A4 L.length n4) (Dc.z (0, 0)) (.slice none 0 0)).toList) W4.heap.size 86 (rcells (.slice A4 L.length n4) (Dc.z (0, 0)) (.slice none 0 0)) := by
    have := Blk.sets (rcells (.slice A4 L.length n4) (Dc.z (0, 0)) (.slice none 0 0)).toList _ _ 0 HBN.out
    rw [show setsA #[.slice none 0 0, .int .i64 0, .string ⟨#[]⟩, .int .i64 0, .slice none 0 0, .bool false, .string ⟨#[]⟩, .int .i64 0, .int .i64 0, .int .i64 0, .int .i64 0, .int .i64 0, .bool false, .string ⟨#[]⟩, .int .i64 0, .int .i64 0, .int .i64 0, .bool false, .string ⟨#[]⟩, .int .i64 0, .int .i64 0, .int .i64 0, .int .i64 0, .int .i64 0, .int .i64 0] 0 (rcells (.slice A4 L.length n4) (Dc.z (0, 0)) (.slice none 0 0)).toList = rcells (.slice A4 L.length n4) (Dc.z (0, 0)) (.slice none 0 0) by simp [setsA, rcells]] at this
    exact this
  have hBT : But W4.heap.size W4 ((W4.alloc (.cells #[.slice none 0 0, .int .i64 0, .string ⟨#[]⟩, .int .i64 0, .slice none 0 0, .bool false, .string ⟨#[]⟩, .int .i64 0, .int .i64 0, .int .i64 0, .int .i64 0, .int .i64 0, .bool false, .string ⟨#[]⟩, .int .i64 0, .int .i64 0, .int .i64 0, .bool false, .string ⟨#[]⟩, .int .i64 0, .int .i64 0, .int .i64 0, .int .i64 0, .int .i64 0, .int .i64 0] 86)).setCells W4.heap.size 0 (rcells (.slice A4 L.length n4) (Dc.z (0, 0)) (.slice none 0 0)).toList) := ((But.refl _ W4).alloc _).trans (But.sets _ _ _)
  have HPR := Lib.hid (show PRd _ W4.heap.size L (Dc.z (0, 0)) (.slice none 0 0) from ⟨_, hBR, (Left.of_own HO4.out (fun i hi => HO4.out.lt hi)).but hBT⟩)
  have HK5 : Hid (DAt ((W4.alloc (.cells #[.slice none 0 0, .int .i64 0, .string ⟨#[]⟩, .int .i64 0, .slice none 0 0, .bool false, .string ⟨#[]⟩, .int .i64 0, .int .i64 0, .int .i64 0, .int .i64 0, .int .i64 0, .bool false, .string ⟨#[]⟩, .int .i64 0, .int .i64 0, .int .i64 0, .bool false, .string ⟨#[]⟩, .int .i64 0, .int .i64 0, .int .i64 0, .int .i64 0, .int .i64 0, .int .i64 0] 86)).setCells W4.heap.size 0 (rcells (.slice A4 L.length n4) (Dc.z (0, 0)) (.slice none 0 0)).toList) w.heap.size d bv) := Lib.hid (Blk.but HK4.out hBT (by have := HK4.out.lt; omega))
  have HB5 := Lib.hid (Below.but HB4.out hBT HB4.out.size (Nat.le_refl _))
  have HSZ := Lib.hid (hBR.lt)
  have HS4 := Lib.hid HB4.out.size
  have HK4L := Lib.hid HK4.out.lt
  clear hBR hBT HBN HTH HO4 HK4 HB4
  generalize ((W4.alloc (.cells #[.slice none 0 0, .int .i64 0, .string ⟨#[]⟩, .int .i64 0, .slice none 0 0, .bool false, .string ⟨#[]⟩, .int .i64 0, .int .i64 0, .int .i64 0, .int .i64 0, .int .i64 0, .bool false, .string ⟨#[]⟩, .int .i64 0, .int .i64 0, .int .i64 0, .bool false, .string ⟨#[]⟩, .int .i64 0, .int .i64 0, .int .i64 0, .int .i64 0, .int .i64 0, .int .i64 0] 86)).setCells W4.heap.size 0 (rcells (.slice A4 L.length n4) (Dc.z (0, 0)) (.slice none 0 0)).toList) = W5 at *
  have hGR : 0 ≠ W4.heap.size := by have := HG.out; have := HS4.out; omega
  refine (pall_any W5 W4.heap.size L (Dc.z (0, 0)) (.slice none 0 0) HPR.out (HHB.out _ HB5.out) hGR HLL.out).mono ?_
  intro e W6 hq
  unfold AllQ at hq
  rw [HAL.out] at hq
  obtain ⟨v6, d6, bv6, rfl, hP6, hD6, hB6⟩ := hq
  obtain ⟨acc, hacc1, hacc2, hacc3, hacc4⟩ := hD6
  simp only [if_true] at hacc1
  obtain ⟨x, rfl⟩ : ∃ x, acc = [x] := by
    cases acc with
    | nil => simp at hacc1
    | cons y l =>
      cases l with
      | nil => exact ⟨y, rfl⟩
      | cons z l => simp at hacc1
  obtain ⟨x1, x2⟩ := x
  obtain rfl : x1 = d' := by simpa using hacc1
  obtain ⟨A6, c6, rfl, _, _⟩ := hacc2.slice
  obtain ⟨_, g6, rfl, hc6⟩ := EOwn.cell elD_ok hacc2 (i := 0) rfl
  have HR6 := Lib.hid (show W6.rangeAt g6 0 (dcells x1 x2.v) from fun j v hv => by have := hc6 j v hv; simpa using this)
  have HK6 : Hid (DAt W6 w.heap.size d bv) := Lib.hid (Blk.but HK5.out hB6 (by have := HK4L.out; omega))
  have HB6 := Lib.hid (Below.but HB5.out hB6 HS4.out (Nat.le_refl _))
  have HROW := Lib.hid (hacc4 _ (List.mem_singleton.2 rfl)).1
  clear hacc1 hacc2 hacc3 hacc4 hc6 hP6 hB6 HPR HK5 HB5
  have HS1 := Lib.hid (show ∀ W, Below W6.heap.size W6 W → Calls Tryz.prog 98 #[.agg (dcells x1 x2.v).toArray] W fun e w' => ∃ V b2, e = .returned V ∧ Hid (V = dV (stripD d) b2) ∧ EOwn elR w' b2 d.bx ∧ Below W.heap.size W w' from fun W hb => by
    refine (strip_any W x1 x2.v (ERd.of_own elR_ok (HROW.out.below hb)) (by rw [HBX.out]; have := HD.out.bx; omega) rfl).mono ?_
    rintro e w' ⟨b2, h1, h2, _, h4⟩
    rw [HST.out] at h1
    rw [HBX.out] at h2
    exact ⟨_, b2, h1, Lib.hid rfl, h2, h4⟩)
  have HS2 := Lib.hid (show ∀ W, Below W6.heap.size W6 W → Calls Tryz.prog 98 #[.agg (dcells d bv).toArray] W fun e w' => ∃ V b2, e = .returned V ∧ Hid (V = dV (stripD d) b2) ∧ EOwn elR w' b2 d.bx ∧ Below W.heap.size W w' from fun W hb => by
    refine (strip_any W d bv ((HR.out.below HB6.out).below hb) (by have := HD.out.bx; omega) HOC.out).mono ?_
    rintro e w' ⟨b2, h1, h2, _, h4⟩
    exact ⟨_, b2, h1, Lib.hid rfl, h2, h4⟩)
  have HSM := Lib.hid (show ∀ W V1 V2 u1 u2, Hid (V1 = dV (stripD d) u1) → Hid (V2 = dV (stripD d) u2) → EOwn elR W u1 d.bx → EOwn elR W u2 d.bx → Calls Tryz.prog 97 #[V1, V2] W fun e w' => e = .returned (.bool true) ∧ Below W.heap.size W w' from fun W V1 V2 u1 u2 e1 e2 h1 h2 => by rw [e1.out, e2.out]; exact same_any W (stripD d) u1 u2 (ERd.of_own elR_ok h1) (ERd.of_own elR_ok h2) (by have := HD.out.bx; show d.bx.length ≤ 1000000; omega))
  have HDR := Lib.hid (show Below W6.heap.size W6 W6.drew from below_drew1 (Below.refl _ _))
  have HQ1 := Lib.hid (show Rng W6 g6 (dcells x1 x2.v) from HR6.out)
  have HQ2 := Lib.hid (show Rng W6 w.heap.size (dcells d bv) from Blk.range HK6.out)
  have HL1 := Lib.hid (show (dcells x1 x2.v).length = 24 from rfl)
  have HL2 := Lib.hid (show (dcells d bv).length = 24 from rfl)
  have HVA := Lib.hid (rfl : Value.agg (dcells x1 x2.v).toArray = Value.agg (dcells x1 x2.v).toArray)
  have HVB2 := Lib.hid (rfl : Value.agg (dcells d bv).toArray = Value.agg (dcells d bv).toArray)
  obtain ⟨VA, hVA⟩ : ∃ VA, Value.agg (dcells x1 x2.v).toArray = VA := ⟨_, rfl⟩
  obtain ⟨VB, hVB⟩ : ∃ VB, Value.agg (dcells d bv).toArray = VB := ⟨_, rfl⟩
  replace HVA := Lib.hid hVA
  replace HVB2 := Lib.hid hVB
  rw [hVA] at HS1
  rw [hVB] at HS2
  clear hVA hVB
  have q1 := HQ1.out.rd HL1.out
  have q2 := HQ2.out.rd HL2.out
  have q3 := (ld24_of HL1.out HQ1.out).trans HVA.out
  have q4 := (ld24_of HL2.out HQ2.out).trans HVB2.out
  go_upto_region 8 with (fail)
  go_region_held3 (fun w' => Rd24 w' g6 ∧ ld24 w' g6 = VA ∧ Rd24 w' w.heap.size ∧ ld24 w' w.heap.size = VB) (first | (refine ⟨?_, ?_, ?_, ?_⟩ <;> first | assumption | exact Rd24.drew (by assumption) | exact ld24_drew (by assumption) (by assumption)) | (go_split_ands; refine ⟨?_, ?_, ?_, ?_⟩ <;> first | assumption | exact Rd24.drew (by assumption) | exact ld24_drew (by assumption) (by assumption))) (first | (go_at_call 98; with_reducible refine Calls.mono (HS1.out _ ?_) ?_; (first | exact B8.out | exact below_drew1 B8.out | exact HDR.out | exact Below.refl _ _); rintro e w8 ⟨V1, u1, rfl, hV1, hO1, hb8⟩; have K1 : Below W6.heap.size W6 w8 := (by first | exact B8.out.trans (hb8.mono B8.out.size) | exact (below_drew1 B8.out).trans (hb8.mono B8.out.size) | exact HDR.out.trans (hb8.mono HDR.out.size) | exact hb8); (try have R2 := Lib.hid (R2.out.below hb8)); have R1 := Lib.hid hO1; have B8 := Lib.hid K1; have q1 := (Rng.below HQ1.out K1).rd HL1.out; have q2 := (Rng.below HQ2.out K1).rd HL2.out; have q3 := (ld24_of HL1.out (Rng.below HQ1.out K1)).trans HVA.out; have q4 := (ld24_of HL2.out (Rng.below HQ2.out K1)).trans HVB2.out; clear hO1 hb8 K1) | (go_at_call 98; with_reducible refine Calls.mono (HS2.out _ ?_) ?_; (first | exact B8.out | exact below_drew1 B8.out | exact HDR.out | exact Below.refl _ _); rintro e w8 ⟨V2, u2, rfl, hV2, hO1, hb8⟩; have K1 : Below W6.heap.size W6 w8 := (by first | exact B8.out.trans (hb8.mono B8.out.size) | exact (below_drew1 B8.out).trans (hb8.mono B8.out.size) | exact HDR.out.trans (hb8.mono HDR.out.size) | exact hb8); (try have R1 := Lib.hid (R1.out.below hb8)); have R2 := Lib.hid hO1; have B8 := Lib.hid K1; have q1 := (Rng.below HQ1.out K1).rd HL1.out; have q2 := (Rng.below HQ2.out K1).rd HL2.out; have q3 := (ld24_of HL1.out (Rng.below HQ1.out K1)).trans HVA.out; have q4 := (ld24_of HL2.out (Rng.below HQ2.out K1)).trans HVB2.out; clear hO1 hb8 K1) | (go_at_call 97; with_reducible refine Calls.mono (HSM.out _ V1 V2 u1 u2 hV1 hV2 R1.out R2.out) ?_; rintro e w8 ⟨rfl, hb8⟩; have K1 : Below W6.heap.size W6 w8 := (by first | exact B8.out.trans (hb8.mono B8.out.size) | exact (below_drew1 B8.out).trans (hb8.mono B8.out.size)); have B8 := Lib.hid K1; have q1 := (Rng.below HQ1.out K1).rd HL1.out; have q2 := (Rng.below HQ2.out K1).rd HL2.out; have q3 := (ld24_of HL1.out (Rng.below HQ1.out K1)).trans HVA.out; have q4 := (ld24_of HL2.out (Rng.below HQ2.out K1)).trans HVB2.out; clear hb8 K1))
  all_goals
    go_wp2_with fail
    go_ret
    exact ⟨rfl, HB6.out.trans (B8.out.mono HB6.out.size)⟩
end Go.Proofs.YtkpmeelbjldcoaaGreatDoor
