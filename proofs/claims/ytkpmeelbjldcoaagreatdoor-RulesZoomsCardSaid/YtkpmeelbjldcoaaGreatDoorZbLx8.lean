/- Texts: Lx8. -/
import Derived.Test.YtkpmeelbjldcoaaGreatDoorZbLx7
namespace Go.Proofs.YtkpmeelbjldcoaaGreatDoor
set_option linter.unusedVariables false
set_option linter.unusedSimpArgs false
open Go.RowKit
def mL (k : Nat) : Bs := marksL.getD k []
def mkAt (l : Bs) (k : Nat) : Bool := Lib.hasPrefix l (mL k)
/-- The first mark that is next. -/
def mkF (l : Bs) : Option Nat := (List.range 4).find? (mkAt l)
theorem mkF_some {l : Bs} {k : Nat} (hk : k < 4) (h : ∀ j, j < k → mkAt l j = false) (hy : mkAt l k = true) : mkF l = some k := by
  unfold mkF
  have hk2 : k = 0 ∨ k = 1 ∨ k = 2 ∨ k = 3 := by omega
  rcases hk2 with rfl | rfl | rfl | rfl
  · simp [List.range, List.range.loop, hy]
  · have h0 := h 0 (by omega); simp [List.range, List.range.loop, hy, h0]
  · have h0 := h 0 (by omega); have h1 := h 1 (by omega); simp [List.range, List.range.loop, hy, h0, h1]
  · have h0 := h 0 (by omega); have h1 := h 1 (by omega); have h2 := h 2 (by omega); simp [List.range, List.range.loop, hy, h0, h1, h2]
theorem mkF_none {l : Bs} (h : ∀ j, j < 4 → mkAt l j = false) : mkF l = none := by
  unfold mkF
  rw [List.find?_eq_none]
  intro j hj
  rw [h j (List.mem_range.1 hj)]
  decide
def mkE (l : Bs) : Int := if (mkF l).isSome then 0 else 30
def mkKd (l : Bs) : Int := if (mkF l).isSome then 4 else 0
def mkTx (l : Bs) : Bs := match mkF l with
  | some k => mL k
  | none => []
def MarkP (r : Nat) (l : Bs) (p : Pl) (w : World) (e : Ending) (w' : World) : Prop :=
  e = .returned (.tuple #[tokV (mkKd l) (mkTx l) 0, .int .i64 (mkE l)]) ∧ RdS w' r (l.drop (mkTx l).length) (advs p (mkTx l)) ∧ But r w w'
theorem prefix_take {l m : Bs} (h : Lib.hasPrefix l m = true) : l.take m.length = m ∧ m.length ≤ l.length := by
  obtain ⟨t, rfl⟩ := List.isPrefixOf_iff_prefix.1 h
  simp
theorem But.setNew {r b o : Nat} {w W : World} (h : But r w W) (hb : w.heap.size ≤ b) (v : Value) : But r w (W.setCell ⟨b, o, none⟩ v) := by
  have h2 := (Below.refl b W).setCell (p := ⟨b, o, none⟩) (Nat.le_refl _) v
  exact ⟨h2.os.trans h.os, h2.tape.trans h.tape, h2.output.trans h.output, Nat.le_trans h.size h2.size, fun k hk hr => (Below.heap_setCell W ⟨b, o, none⟩ v k (by show k ≠ b; omega)).trans (h.block k hk hr)⟩
theorem RdS.five {W : World} {r b : Nat} {l : Bs} {p : Pl} (h : RdS W r l p) (hb : r ≠ b) (v0 v1 v2 v3 v4 : Value) : RdS (((((W.setCell ⟨b, 0, none⟩ v0).setCell ⟨b, 1, none⟩ v1).setCell ⟨b, 2, none⟩ v2).setCell ⟨b, 3, none⟩ v3).setCell ⟨b, 4, none⟩ v4) r l p :=
  ((((Blk.far h (p := ⟨b, 0, none⟩) hb v0).far (p := ⟨b, 1, none⟩) hb v1).far (p := ⟨b, 2, none⟩) hb v2).far (p := ⟨b, 3, none⟩) hb v3).far (p := ⟨b, 4, none⟩) hb v4
theorem But.five {r b : Nat} {w W : World} (h : But r w W) (hb : w.heap.size ≤ b) (v0 v1 v2 v3 v4 : Value) : But r w (((((W.setCell ⟨b, 0, none⟩ v0).setCell ⟨b, 1, none⟩ v1).setCell ⟨b, 2, none⟩ v2).setCell ⟨b, 3, none⟩ v3).setCell ⟨b, 4, none⟩ v4) :=
  ((((h.setNew hb v0).setNew hb v1).setNew hb v2).setNew hb v3).setNew hb v4
structure MkSt (w0 : World) (r : Nat) (l0 : Bs) (p0 : Pl) (j : Nat) (W : World) : Prop where
  rd : RdS W r (l0.drop j) (advs p0 (l0.take j))
  but : But r w0 W
  res : Blk W w0.heap.size 111 #[.int .i64 0, .string ⟨#[]⟩, .int .i64 0, .int .i64 0, .int .i64 0]
set_option maxRecDepth 100000 in
set_option maxHeartbeats 2000000 in
theorem mark_any (w : World) (r : Nat) (l : Bs) (p : Pl) (hV : Vs w) (h : RdS w r l p) (hp : OkP l p) :
    Calls Tryz.prog 120 #[.pointer (some ⟨r, 0, none⟩)] w fun e w' => MarkP r l p w e w' := by
  have hA : Below w.heap.size w (w.alloc (.cells #[.int .i64 0, .string ⟨#[]⟩, .int .i64 0, .int .i64 0, .int .i64 0] 111)) := (Below.refl _ _).alloc (Nat.le_refl _) _
  have HV := Lib.hid (hV.below hA)
  have HS0 := Lib.hid (show MkSt w r l p 0 (w.alloc (.cells #[.int .i64 0, .string ⟨#[]⟩, .int .i64 0, .int .i64 0, .int .i64 0] 111)) from ⟨h.below hA, But.of_below hA, Blk.new _ _ _⟩)
  have HP := Lib.hid hp
  have HR : Hid (r < w.heap.size) := Lib.hid (Blk.lt h)
  have c0 : _ = some (Value.string (mS 0)) := HV.out.marks 0 (by decide)
  have c1 : _ = some (Value.string (mS 1)) := HV.out.marks 1 (by decide)
  have c2 : _ = some (Value.string (mS 2)) := HV.out.marks 2 (by decide)
  have c3 : _ = some (Value.string (mS 3)) := HV.out.marks 3 (by decide)
  have k0 : _ = some (Value.string (bs l)) := Blk.cell HS0.out.rd 0
  have HHP := Lib.hid (fun k (W : World) => Tryz.strings_HasPrefix (bs l) (mS k) W)
  have HG : Hid (w.heap.size ≤ w.heap.size) := Lib.hid (Nat.le_refl _)
  clear h hp hV hA
  go_enter Tryz.func120, Tryz.ntmps120
  go_wp2_with fail
  generalize (w.alloc (.cells #[.int .i64 0, .string ⟨#[]⟩, .int .i64 0, .int .i64 0, .int .i64 0] 111)) = W0 at *
  go_loopw [7] (fun i wr => ∃ k : Nat, k ≤ 4 ∧ i = .int .i64 k ∧ Hid (W0 = wr ∧ ∀ j, j < k → mkAt l j = false)) (fun i _ => 4 - (intOf i).toNat)
  case atStart => exact ⟨0, by omega, rfl, Lib.hid ⟨rfl, fun j hj => absurd hj (by omega)⟩⟩
  case round =>
    obtain ⟨k, hk, rfl, HRL⟩ := hrel
    obtain rfl := HRL.out.1
    by_cases hlt : k < 4
    · have hix := idx_marks k hlt W0
      have hki : (k : Int) < 4 := by omega
      have HPF := Lib.hid (HHP.out k W0)
      have e1 : Lib.hasPrefix (bs l).data.toList (mS k).data.toList = mkAt l k := by rw [bs_data]; unfold mS; rw [bs_data]; rfl
      rw [e1] at HPF
      clear e1 HHP
      cases hm : mkAt l k with
      | false =>
        rw [hm] at HPF
        have HM := Lib.hid hm
        clear hm
        go_wp2_with ((go_at_call 146; refine HPF.out.mono ?_; rintro e w9 ⟨rfl, hw9⟩; subst hw9))
        go_roundw
        case rel => exact ⟨k + 1, by omega, by go_num, Lib.hid ⟨(by first | rfl | trivial), fun j hj => by
          rcases Nat.lt_or_eq_of_le (Nat.le_of_lt_succ hj) with h1 | rfl
          · exact HRL.out.2 j h1
          · exact HM.out⟩⟩
        case measure => simp [intOf]; omega
      | true =>
        rw [hm] at HPF
        have HM := Lib.hid (mkF_some hlt HRL.out.2 hm)
        have HX := Lib.hid (prefix_take hm)
        have HE := Lib.hid (show mkKd l = 4 ∧ mkTx l = mL k ∧ mkE l = 0 by simp [mkKd, mkTx, mkE, HM.out])
        have hsz : ((mS k).size : Int) = ((mL k).length : Int) := by unfold mS; rw [bs_size]; rfl
        have HMS : Hid (mS k = bs (mL k)) := Lib.hid rfl
        clear hm HRL HM
        generalize mL k = m at *
        go_wp2_with ((go_at_call 146; refine HPF.out.mono ?_; rintro e w9 ⟨rfl, hw9⟩; subst hw9))
        rename_i W9
        go_loopw [18] (fun i wr => ∃ j : Nat, j ≤ m.length ∧ i = .int .i64 j ∧ Hid (MkSt w r l p j wr)) (fun i _ => m.length - (intOf i).toNat)
        case atStart => exact ⟨0, by omega, rfl, HS0⟩
        case round =>
          obtain ⟨j, hj, rfl, HS⟩ := hrel
          by_cases hjl : j < m.length
          · have hji : (j : Int) < (m.length : Int) := by omega
            have hj9 : (j : Int) ≤ 512 := by have := HX.out.2; have := HP.out.1; omega
            have hjl2 : j < l.length := by have := HX.out.2; omega
            have hd := List.drop_eq_getElem_cons hjl2
            have ht : l.take (j + 1) = l.take j ++ [l[j]] := List.take_succ_eq_append_getElem hjl2
            generalize l[j] = c at hd ht
            have hok : OkP (l.drop j) (advs p (l.take j)) := OkP.steps (a := l.take j) (by rw [List.take_append_drop]; exact HP.out)
            have hrd := HS.out.rd
            rw [hd] at hrd hok
            have HST := Lib.hid (step_any _ r c _ _ hrd hok)
            have HT := Lib.hid ht
            clear hd ht hok hrd hjl2 hjl
            unfold StepP at HST
            go_wp2_with fail
            refine HST.out.mono ?_
            rintro e w2 ⟨rfl, hrd2, hbut2⟩
            have HN := Lib.hid (show MkSt w r l p (j + 1) w2 from ⟨by rw [HT.out, advs_app]; exact hrd2, HS.out.but.trans hbut2, Blk.but HS.out.res hbut2 (by have := HR.out; omega)⟩)
            clear hrd2 hbut2
            go_wp2_with fail
            go_roundw
            case rel => exact ⟨j + 1, by omega, by go_num, HN⟩
            case measure => simp [intOf]; omega
          · obtain rfl : j = m.length := by omega
            have u0 : _ = some (Value.int .i64 0) := HS.out.res.cell 0
            have u1 : _ = some (Value.string ⟨#[]⟩) := HS.out.res.cell 1
            have u2 : _ = some (Value.int .i64 0) := HS.out.res.cell 2
            have u3 : _ = some (Value.int .i64 0) := HS.out.res.cell 3
            have u4 : _ = some (Value.int .i64 0) := HS.out.res.cell 4
            have f0 := HS.out.res.frozen 0
            have f1 := HS.out.res.frozen 1
            have f2 := HS.out.res.frozen 2
            have f3 := HS.out.res.frozen 3
            have f4 := HS.out.res.frozen 4
            go_wp2_with fail
            have HRF := Lib.hid (RdS.five (b := w.heap.size) HS.out.rd (by have := HR.out; omega) (.int .i64 4) (.string (mS k)) (.int .i64 0) (.int .i64 0) (.int .i64 0))
            have HBF := Lib.hid (But.five (b := w.heap.size) HS.out.but HG.out (.int .i64 4) (.string (mS k)) (.int .i64 0) (.int .i64 0) (.int .i64 0))
            refine bodyPost_ret (v := .tuple #[.agg #[.int .i64 4, .string (mS k), .int .i64 0, .int .i64 0, .int .i64 0], .int .i64 0]) ?_ rfl ⟨by rw [HE.out.1, HE.out.2.1, HE.out.2.2, HMS.out]; rfl, ?_, HBF.out⟩
            · simp [results, Tryz.results120, go_sem, *]
            · rw [HE.out.2.1]
              have := HRF.out
              rw [HX.out.1] at this
              exact this
    · obtain rfl : k = 4 := by omega
      have HM := Lib.hid (mkF_none HRL.out.2)
      have HE := Lib.hid (show mkKd l = 0 ∧ mkTx l = [] ∧ mkE l = 30 by simp [mkKd, mkTx, mkE, HM.out])
      clear HRL HHP HM
      have u0 : _ = some (Value.int .i64 0) := HS0.out.res.cell 0
      have u1 : _ = some (Value.string ⟨#[]⟩) := HS0.out.res.cell 1
      have u2 : _ = some (Value.int .i64 0) := HS0.out.res.cell 2
      have u3 : _ = some (Value.int .i64 0) := HS0.out.res.cell 3
      have u4 : _ = some (Value.int .i64 0) := HS0.out.res.cell 4
      have f0 := HS0.out.res.frozen 0
      have f1 := HS0.out.res.frozen 1
      have f2 := HS0.out.res.frozen 2
      have f3 := HS0.out.res.frozen 3
      have f4 := HS0.out.res.frozen 4
      go_wp2_with fail
      have HRF := Lib.hid (RdS.five (b := w.heap.size) HS0.out.rd (by have := HR.out; omega) (.int .i64 0) (.string ⟨#[]⟩) (.int .i64 0) (.int .i64 0) (.int .i64 0))
      have HBF := Lib.hid (But.five (b := w.heap.size) HS0.out.but HG.out (.int .i64 0) (.string ⟨#[]⟩) (.int .i64 0) (.int .i64 0) (.int .i64 0))
      refine bodyPost_ret (v := .tuple #[.agg #[.int .i64 0, .string ⟨#[]⟩, .int .i64 0, .int .i64 0, .int .i64 0], .int .i64 30]) ?_ rfl ⟨by rw [HE.out.1, HE.out.2.1, HE.out.2.2]; rfl, ?_, HBF.out⟩
      · simp [results, Tryz.results120, go_sem, *]
      · rw [HE.out.2.1]
        exact HRF.out
end Go.Proofs.YtkpmeelbjldcoaaGreatDoor
