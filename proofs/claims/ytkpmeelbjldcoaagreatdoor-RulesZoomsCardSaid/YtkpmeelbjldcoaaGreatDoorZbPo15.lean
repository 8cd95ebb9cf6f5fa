/- Texts: Po15. -/
import Derived.Test.YtkpmeelbjldcoaaGreatDoorZbPo14
namespace Go.Proofs.YtkpmeelbjldcoaaGreatDoor
set_option linter.unusedVariables false
set_option linter.unusedSimpArgs false
open Go.RowKit
/-- A declaration that is loaded, anywhere in its block. -/
def ld24o (w : World) (b o : Nat) : Value := .agg ((List.range 24).map fun i => (w.cell? ⟨b, o + i, none⟩).getD undef).toArray
def Rd24o (w : World) (b o : Nat) : Prop := ∃ C : List Value, C.length = 24 ∧ w.rangeAt b o C
theorem ld24o_of {w : World} {b o : Nat} {C : List Value} (hC : C.length = 24) (h : w.rangeAt b o C) : ld24o w b o = .agg C.toArray := by
  have e : ((List.range 24).map fun i => (w.cell? ⟨b, o + i, none⟩).getD undef) = C := by
    refine List.ext_getElem (by simp [hC]) fun i h1 h2 => ?_
    have h3 := h i C[i] (List.getElem?_eq_getElem h2)
    simp [h3]
  unfold ld24o
  rw [e]
theorem run_ld24o {w : World} {b o : Nat} (h : Rd24o w b o) : (ld44 (.pointer (some ⟨b, o, none⟩))).run Tryz.prog w = .ok (ld24o w b o) w := by
  obtain ⟨C, hC, hR⟩ := h
  rw [ld24o_of hC hR]
  exact run_loadAt_mid w b o 41 C _ hR Tryz.underlying41 rfl (by rw [hC]; kernel_rfl)
attribute [local go_sem ↓] to_ld44
attribute [local go_sem] run_ld24o
/-- A row of declarations that can be read. -/
def DRd (w : World) (v : Value) (acc : List (Dc × RV)) : Prop := ERd elD w v acc ∧ ∀ x ∈ acc, ERd elR w x.2.v x.1.bx
theorem DRd.below {w w' : World} {v : Value} {acc : List (Dc × RV)} (h : DRd w v acc) (hb : Below w.heap.size w w') : DRd w' v acc := ⟨h.1.below hb, fun x hx => (h.2 x hx).below hb⟩
theorem DRow.rd {w : World} {B : Nat} {v : Value} {L : List Dc} (h : DRow w B v L) : ∃ acc, acc.map (·.1) = L ∧ DRd w v acc := by
  obtain ⟨acc, h1, h2, h3, h4⟩ := h
  exact ⟨acc, h1, ERd.of_own elD_ok h2, fun x hx => ERd.of_own elR_ok (h4 x hx).1⟩
/-- A copy of a declaration, made new. -/
theorem copy_at (w : World) (d : Dc) (bv : Value) : DAt ((w.alloc (.cells #[.int .i64 0, .string ⟨#[]⟩, .int .i64 0, .slice none 0 0, .bool false, .string ⟨#[]⟩, .int .i64 0, .int .i64 0, .int .i64 0, .int .i64 0, .int .i64 0, .bool false, .string ⟨#[]⟩, .int .i64 0, .int .i64 0, .int .i64 0, .bool false, .string ⟨#[]⟩, .int .i64 0, .int .i64 0, .int .i64 0, .int .i64 0, .int .i64 0, .int .i64 0] 41)).setCells w.heap.size 0 (dcells d bv).toArray.toList) w.heap.size d bv ∧ Below w.heap.size w ((w.alloc (.cells #[.int .i64 0, .string ⟨#[]⟩, .int .i64 0, .slice none 0 0, .bool false, .string ⟨#[]⟩, .int .i64 0, .int .i64 0, .int .i64 0, .int .i64 0, .int .i64 0, .bool false, .string ⟨#[]⟩, .int .i64 0, .int .i64 0, .int .i64 0, .bool false, .string ⟨#[]⟩, .int .i64 0, .int .i64 0, .int .i64 0, .int .i64 0, .int .i64 0, .int .i64 0] 41)).setCells w.heap.size 0 (dcells d bv).toArray.toList) := by
  have h0 := Blk.new w 41 #[.int .i64 0, .string ⟨#[]⟩, .int .i64 0, .slice none 0 0, .bool false, .string ⟨#[]⟩, .int .i64 0, .int .i64 0, .int .i64 0, .int .i64 0, .int .i64 0, .bool false, .string ⟨#[]⟩, .int .i64 0, .int .i64 0, .int .i64 0, .bool false, .string ⟨#[]⟩, .int .i64 0, .int .i64 0, .int .i64 0, .int .i64 0, .int .i64 0, .int .i64 0]
  have h9 := Blk.sets (dcells d bv).toArray.toList _ _ 0 h0
  have e9 : setsA #[.int .i64 0, .string ⟨#[]⟩, .int .i64 0, .slice none 0 0, .bool false, .string ⟨#[]⟩, .int .i64 0, .int .i64 0, .int .i64 0, .int .i64 0, .int .i64 0, .bool false, .string ⟨#[]⟩, .int .i64 0, .int .i64 0, .int .i64 0, .bool false, .string ⟨#[]⟩, .int .i64 0, .int .i64 0, .int .i64 0, .int .i64 0, .int .i64 0, .int .i64 0] 0 (dcells d bv).toArray.toList = (dcells d bv).toArray := by simp [setsA, dcells]
  rw [e9] at h9
  exact ⟨h9, Below.but ((Below.refl _ _).alloc (Nat.le_refl _) _) (But.sets _ _ _) (Nat.le_refl _) (Nat.le_refl _)⟩
set_option maxRecDepth 100000 in
set_option maxHeartbeats 8000000 in
theorem rights_any (w : World) (v : Value) (acc : List (Dc × RV)) (hV : Vs w) (hs : Hs w) (hg : 0 < w.heap.size) (h : DRd w v acc) (hl : acc.length ≤ 1000000) (hr : ∀ x ∈ acc, RightD x.1) :
    Calls Tryz.prog 27 #[v] w fun e w' => e = .returned (.bool true) ∧ Below w.heap.size w w' := by
  obtain ⟨A0, c0, rfl, _, _, _⟩ := id h.1
  have HVB := Lib.hid (show ∀ w', Below w.heap.size w w' → Vs w' from fun w' hb => hV.below hb)
  have HHB := Lib.hid (show ∀ w', Below w.heap.size w w' → Hs w' from fun w' hb => hs.low hb)
  have HG := Lib.hid hg
  have HR := Lib.hid h
  have HL := Lib.hid hl
  have HRR := Lib.hid hr
  have HB0 := Lib.hid (Below.refl w.heap.size w)
  clear hV hs hg h hl hr
  go_enter Tryz.func27, Tryz.ntmps27
  go_wp2_with fail
  go_loopw [7] (fun i wr => ∃ k : Nat, k ≤ acc.length ∧ i = .int .i64 k ∧ Hid (Below w.heap.size w wr)) (fun i _ => acc.length - (intOf i).toNat)
  case atStart => exact ⟨0, by omega, rfl, HB0⟩
  case round =>
    clear HB0
    obtain ⟨k, hk, rfl, HB⟩ := hrel
    by_cases hlt : k < acc.length
    · have hki : (k : Int) < (acc.length : Int) := by omega
      have hx : acc[k]? = some acc[k] := List.getElem?_eq_getElem hlt
      obtain ⟨g, o, rfl, hc⟩ := (HR.out.1.below HB.out).cell hx
      have HXR := Lib.hid (HRR.out _ (List.getElem_mem hlt))
      have HXB := Lib.hid ((HR.out.2 _ (List.getElem_mem hlt)).below HB.out)
      generalize acc[k] = x at *
      obtain ⟨d, xv⟩ := x
      have HRG := Lib.hid (show wr.rangeAt g (o + k * 24) (dcells d xv.v) from fun j u hu => hc j u hu)
      have q1 : Rd24o wr g (o + k * 24) := ⟨_, rfl, HRG.out⟩
      obtain ⟨VX, hVX⟩ : ∃ VX, Value.agg (dcells d xv.v).toArray = VX := ⟨_, rfl⟩
      have HVX := Lib.hid hVX
      have q2 : ld24o wr g (o + k * 24) = VX := (ld24o_of rfl HRG.out).trans hVX
      have HTH := Lib.hid ((Blk.new wr 41 #[.int .i64 0, .string ⟨#[]⟩, .int .i64 0, .slice none 0 0, .bool false, .string ⟨#[]⟩, .int .i64 0, .int .i64 0, .int .i64 0, .int .i64 0, .int .i64 0, .bool false, .string ⟨#[]⟩, .int .i64 0, .int .i64 0, .int .i64 0, .bool false, .string ⟨#[]⟩, .int .i64 0, .int .i64 0, .int .i64 0, .int .i64 0, .int .i64 0, .int .i64 0]).there (n := 24) (by decide))
      have HIN := Lib.hid (show (Tryz.prog.info? 41).map (·.size) = some (dcells d xv.v).toArray.size by kernel_rfl)
      have HON := Lib.hid (dcells_one d (bv := xv.v) rfl)
      clear hc hx hVX
      have HCP := Lib.hid (copy_at wr d xv.v)
      go_upto_region 4 with ((refine wpList_store_mid rfl 41 _ _ rfl wr.heap.size 0 (dcells d xv.v).toArray rfl HVX.out.symm HTH.out HIN.out HON.out ?_))
      clear HRG HTH q1 q2 HIN HON
      generalize ((wr.alloc (.cells #[.int .i64 0, .string ⟨#[]⟩, .int .i64 0, .slice none 0 0, .bool false, .string ⟨#[]⟩, .int .i64 0, .int .i64 0, .int .i64 0, .int .i64 0, .int .i64 0, .bool false, .string ⟨#[]⟩, .int .i64 0, .int .i64 0, .int .i64 0, .bool false, .string ⟨#[]⟩, .int .i64 0, .int .i64 0, .int .i64 0, .int .i64 0, .int .i64 0, .int .i64 0] 41)).setCells wr.heap.size 0 (dcells d xv.v).toArray.toList) = W1 at *
      have HRG := Lib.hid (Blk.range HCP.out.1)
      have q1 : Rd24o W1 wr.heap.size 0 := ⟨_, rfl, HRG.out⟩
      have q2 : ld24o W1 wr.heap.size 0 = VX := (ld24o_of rfl HRG.out).trans HVX.out
      have HB1 := Lib.hid (HB.out.trans (HCP.out.2.mono HB.out.size))
      have HRT := Lib.hid (pright_any W1 d xv.v (HVB.out _ HB1.out) (HHB.out _ HB1.out) (by have := HG.out; have := HB1.out.size; omega) (HXB.out.below HCP.out.2) rfl HXR.out)
      rw [show dV d xv.v = VX from HVX.out] at HRT
      go_wp2_with fail
      refine HRT.out.mono ?_
      rintro e W2 ⟨rfl, hb⟩
      have HN := Lib.hid (HB1.out.trans (hb.mono HB1.out.size))
      clear hb HRT HCP q1 q2 HRG
      have hkb : (k : Int) < 1000000 := by have := HL.out; omega
      go_wp2_with fail
      go_roundw
      case rel => exact ⟨k + 1, by omega, by go_num, HN⟩
      case measure => simp [intOf]; omega
    · obtain rfl : k = acc.length := by omega
      go_wp2_with fail
      go_ret
      exact ⟨rfl, HB.out⟩
end Go.Proofs.YtkpmeelbjldcoaaGreatDoor
