/- Texts: Lx9. -/
import Derived.Test.YtkpmeelbjldcoaaGreatDoorZbLx8
namespace Go.Proofs.YtkpmeelbjldcoaaGreatDoor
set_option linter.unusedVariables false
set_option linter.unusedSimpArgs false
open Go.RowKit
def tkA (l : Bs) : Bs := if on isLet l = true then l.takeWhile ofNm else if on isDg l = true then l.takeWhile isDg else mkTx l
def tkK (l : Bs) : Int := if on isLet l = true then nameKd (tkA l) else if on isDg l = true then numKd (tkA l) else mkKd l
def tkT (l : Bs) : Bs := if on isLet l = true then nameTx (tkA l) else if on isDg l = true then numTx (tkA l) else mkTx l
def tkN (l : Bs) : Int := if on isLet l = true then 0 else if on isDg l = true then numV (tkA l) else 0
def tkE (l : Bs) : Int := if on isLet l = true then nameE (tkA l) else if on isDg l = true then numE (tkA l) else mkE l
def TokP (r : Nat) (l : Bs) (p : Pl) (w : World) (e : Ending) (w' : World) : Prop :=
  e = .returned (.tuple #[tokV (tkK l) (tkT l) (tkN l), .int .i64 (tkE l)]) ∧ RdS w' r (l.drop (tkA l).length) (advs p (tkA l)) ∧ But r w w'
/-- The variables, as they lay below the reader. -/
structure Env (B : World) (r : Nat) (w : World) : Prop where
  vs : Vs B
  below : Below B.heap.size B w
  le : B.heap.size ≤ r
theorem Env.here {B w : World} {r : Nat} (h : Env B r w) : Vs w := h.vs.below h.below
theorem Env.but {B w w' : World} {r : Nat} (h : Env B r w) (hb : But r w w') : Env B r w' := ⟨h.vs, Below.but h.below hb h.le (Nat.le_refl _), h.le⟩
theorem drop_while (f : UInt8 → Bool) (l : Bs) : l.drop (l.takeWhile f).length = l.dropWhile f := by
  have h : (l.takeWhile f ++ l.dropWhile f).drop (l.takeWhile f).length = l.dropWhile f := List.drop_left
  rw [List.takeWhile_append_dropWhile] at h
  exact h
theorem take_len (f : UInt8 → Bool) (l : Bs) : (l.takeWhile f).length ≤ l.length := (List.takeWhile_prefix f (l := l)).length_le
set_option maxRecDepth 100000 in
set_option maxHeartbeats 2000000 in
theorem token_any (B : World) (w : World) (r : Nat) (l : Bs) (p : Pl) (hE : Env B r w) (h : RdS w r l p) (hp : OkP l p) :
    Calls Tryz.prog 84 #[.pointer (some ⟨r, 0, none⟩)] w fun e w' => TokP r l p w e w' := by
  have hA : Below w.heap.size w (w.alloc (.cells #[.int .i64 0, .string ⟨#[]⟩, .int .i64 0, .int .i64 0, .int .i64 0] 111)) := (Below.refl _ _).alloc (Nat.le_refl _) _
  have HEN := Lib.hid (hE.but (But.of_below hA))
  have HS0 := Lib.hid (show MkSt w r l p 0 (w.alloc (.cells #[.int .i64 0, .string ⟨#[]⟩, .int .i64 0, .int .i64 0, .int .i64 0] 111)) from ⟨h.below hA, But.of_below hA, Blk.new _ _ _⟩)
  have HP := Lib.hid hp
  have HR : Hid (r < w.heap.size) := Lib.hid (Blk.lt h)
  have HG : Hid (w.heap.size ≤ w.heap.size) := Lib.hid (Nat.le_refl _)
  have hp0 : RdS (w.alloc (.cells #[.int .i64 0, .string ⟨#[]⟩, .int .i64 0, .int .i64 0, .int .i64 0] 111)) r l p := h.below hA
  have HLT := Lib.hid (letter_any _ r l p hp0)
  have HDG := Lib.hid (digit_any _ r l p hp0)
  have HTN := Lib.hid (take_ofName _ r l p hp0 hp)
  have HTD := Lib.hid (take_digit _ r l p hp0 hp)
  have HMK := Lib.hid (mark_any _ r l p HEN.out.here hp0 hp)
  unfold TakeP at HTN HTD
  unfold MarkP at HMK
  clear h hp hE hA hp0
  cases hl : on isLet l with
  | true =>
    have HE := Lib.hid (show tkA l = l.takeWhile ofNm ∧ tkK l = nameKd (l.takeWhile ofNm) ∧ tkT l = nameTx (l.takeWhile ofNm) ∧ tkN l = 0 ∧ tkE l = nameE (l.takeWhile ofNm) by simp [tkA, tkK, tkT, tkN, tkE, hl])
    rw [hl] at HLT
    clear hl HDG HTD HMK
    go_enter Tryz.func84, Tryz.ntmps84
    go_wp2_with fail
    generalize (w.alloc (.cells #[.int .i64 0, .string ⟨#[]⟩, .int .i64 0, .int .i64 0, .int .i64 0] 111)) = W0 at *
    refine HLT.out.mono ?_
    rintro e w9 ⟨rfl, hw9⟩
    subst hw9
    go_wp2_with fail
    refine HTN.out.mono ?_
    rintro e w1 ⟨rfl, hrd1, hbut1⟩
    rw [← drop_while] at hrd1
    have HN := Lib.hid (name_any (l.takeWhile ofNm) w1 (HEN.out.but hbut1).here (by have := take_len ofNm l; have := HP.out.1; omega))
    have HB1 := Lib.hid (HS0.out.but.trans hbut1)
    have HRD1 := Lib.hid hrd1
    have HRS := Lib.hid (Blk.but HS0.out.res hbut1 (by have := HR.out; omega))
    unfold NameP at HN
    generalize (l.takeWhile ofNm) = a at *
    clear hrd1 hbut1 HS0 HEN HTN HLT
    go_wp2_with fail
    refine HN.out.mono ?_
    rintro e w2 ⟨rfl, hb2⟩
    have HB2 := Lib.hid (HB1.out.trans (But.of_below hb2))
    have HRD2 := Lib.hid (HRD1.out.below hb2)
    have HRS2 := Lib.hid (HRS.out.thru0 hb2)
    clear hb2 HB1 HRD1 HRS HN
    unfold tokV
    generalize nameKd a = k1 at *
    generalize nameTx a = t1 at *
    generalize nameE a = e1 at *
    have u0 : _ = some (Value.int .i64 0) := HRS2.out.cell 0
    have u1 : _ = some (Value.string ⟨#[]⟩) := HRS2.out.cell 1
    have u2 : _ = some (Value.int .i64 0) := HRS2.out.cell 2
    have u3 : _ = some (Value.int .i64 0) := HRS2.out.cell 3
    have u4 : _ = some (Value.int .i64 0) := HRS2.out.cell 4
    have f0 := HRS2.out.frozen 0
    have f1 := HRS2.out.frozen 1
    have f2 := HRS2.out.frozen 2
    have f3 := HRS2.out.frozen 3
    have f4 := HRS2.out.frozen 4
    go_wp2_with fail
    have HRF := Lib.hid (RdS.five (b := w.heap.size) HRD2.out (by have := HR.out; omega) (.int .i64 k1) (.string (bs t1)) (.int .i64 0) (.int .i64 0) (.int .i64 0))
    have HBF := Lib.hid (But.five (b := w.heap.size) HB2.out HG.out (.int .i64 k1) (.string (bs t1)) (.int .i64 0) (.int .i64 0) (.int .i64 0))
    refine bodyPost_ret (v := .tuple #[.agg #[.int .i64 k1, .string (bs t1), .int .i64 0, .int .i64 0, .int .i64 0], .int .i64 e1]) ?_ rfl ⟨by rw [HE.out.2.1, HE.out.2.2.1, HE.out.2.2.2.1, HE.out.2.2.2.2]; rfl, ?_, HBF.out⟩
    · simp [results, Tryz.results84, go_sem, *]
    · rw [HE.out.1]
      exact HRF.out
  | false =>
    cases hd : on isDg l with
    | true =>
      have HE := Lib.hid (show tkA l = l.takeWhile isDg ∧ tkK l = numKd (l.takeWhile isDg) ∧ tkT l = numTx (l.takeWhile isDg) ∧ tkN l = numV (l.takeWhile isDg) ∧ tkE l = numE (l.takeWhile isDg) by simp [tkA, tkK, tkT, tkN, tkE, hl, hd])
      have HNE := Lib.hid (show l.takeWhile isDg ≠ [] by
        obtain ⟨c, l', rfl, hc⟩ := span_on hd
        rw [List.takeWhile_cons_of_pos hc]; simp)
      rw [hl] at HLT
      rw [hd] at HDG
      clear hl hd HTN HMK
      go_enter Tryz.func84, Tryz.ntmps84
      go_wp2_with fail
      generalize (w.alloc (.cells #[.int .i64 0, .string ⟨#[]⟩, .int .i64 0, .int .i64 0, .int .i64 0] 111)) = W0 at *
      refine HLT.out.mono ?_
      rintro e w9 ⟨rfl, hw9⟩
      subst hw9
      go_wp2_with fail
      refine HDG.out.mono ?_
      rintro e w9 ⟨rfl, hw9⟩
      subst hw9
      go_wp2_with fail
      refine HTD.out.mono ?_
      rintro e w1 ⟨rfl, hrd1, hbut1⟩
      rw [← drop_while] at hrd1
      have HN := Lib.hid (number_any (l.takeWhile isDg) w1 (HEN.out.but hbut1).here (by have := take_len isDg l; have := HP.out.1; omega) (digL_take l) HNE.out)
      have HB1 := Lib.hid (HS0.out.but.trans hbut1)
      have HRD1 := Lib.hid hrd1
      have HRS := Lib.hid (Blk.but HS0.out.res hbut1 (by have := HR.out; omega))
      unfold NumP at HN
      generalize (l.takeWhile isDg) = a at *
      clear hrd1 hbut1 HS0 HEN HTD HLT HDG HNE
      go_wp2_with fail
      refine HN.out.mono ?_
      rintro e w2 ⟨rfl, hb2⟩
      have HB2 := Lib.hid (HB1.out.trans (But.of_below hb2))
      have HRD2 := Lib.hid (HRD1.out.below hb2)
      have HRS2 := Lib.hid (HRS.out.thru0 hb2)
      clear hb2 HB1 HRD1 HRS HN
      unfold tokV
      generalize numKd a = k1 at *
      generalize numTx a = t1 at *
      generalize numV a = n1 at *
      generalize numE a = e1 at *
      have u0 : _ = some (Value.int .i64 0) := HRS2.out.cell 0
      have u1 : _ = some (Value.string ⟨#[]⟩) := HRS2.out.cell 1
      have u2 : _ = some (Value.int .i64 0) := HRS2.out.cell 2
      have u3 : _ = some (Value.int .i64 0) := HRS2.out.cell 3
      have u4 : _ = some (Value.int .i64 0) := HRS2.out.cell 4
      have f0 := HRS2.out.frozen 0
      have f1 := HRS2.out.frozen 1
      have f2 := HRS2.out.frozen 2
      have f3 := HRS2.out.frozen 3
      have f4 := HRS2.out.frozen 4
      go_wp2_with fail
      have HRF := Lib.hid (RdS.five (b := w.heap.size) HRD2.out (by have := HR.out; omega) (.int .i64 k1) (.string (bs t1)) (.int .i64 n1) (.int .i64 0) (.int .i64 0))
      have HBF := Lib.hid (But.five (b := w.heap.size) HB2.out HG.out (.int .i64 k1) (.string (bs t1)) (.int .i64 n1) (.int .i64 0) (.int .i64 0))
      refine bodyPost_ret (v := .tuple #[.agg #[.int .i64 k1, .string (bs t1), .int .i64 n1, .int .i64 0, .int .i64 0], .int .i64 e1]) ?_ rfl ⟨by rw [HE.out.2.1, HE.out.2.2.1, HE.out.2.2.2.1, HE.out.2.2.2.2]; rfl, ?_, HBF.out⟩
      · simp [results, Tryz.results84, go_sem, *]
      · rw [HE.out.1]
        exact HRF.out
    | false =>
      have HE := Lib.hid (show tkA l = mkTx l ∧ tkK l = mkKd l ∧ tkT l = mkTx l ∧ tkN l = 0 ∧ tkE l = mkE l by simp [tkA, tkK, tkT, tkN, tkE, hl, hd])
      rw [hl] at HLT
      rw [hd] at HDG
      clear hl hd HTN HTD
      go_enter Tryz.func84, Tryz.ntmps84
      go_wp2_with fail
      generalize (w.alloc (.cells #[.int .i64 0, .string ⟨#[]⟩, .int .i64 0, .int .i64 0, .int .i64 0] 111)) = W0 at *
      refine HLT.out.mono ?_
      rintro e w9 ⟨rfl, hw9⟩
      subst hw9
      go_wp2_with fail
      refine HDG.out.mono ?_
      rintro e w9 ⟨rfl, hw9⟩
      subst hw9
      go_wp2_with fail
      refine HMK.out.mono ?_
      rintro e w1 ⟨rfl, hrd1, hbut1⟩
      have HB2 := Lib.hid (HS0.out.but.trans hbut1)
      have HRD2 := Lib.hid hrd1
      have HRS2 := Lib.hid (Blk.but HS0.out.res hbut1 (by have := HR.out; omega))
      clear hrd1 hbut1 HS0 HEN HMK HLT HDG
      unfold tokV
      generalize mkKd l = k1 at *
      generalize mkTx l = t1 at *
      generalize mkE l = e1 at *
      have u0 : _ = some (Value.int .i64 0) := HRS2.out.cell 0
      have u1 : _ = some (Value.string ⟨#[]⟩) := HRS2.out.cell 1
      have u2 : _ = some (Value.int .i64 0) := HRS2.out.cell 2
      have u3 : _ = some (Value.int .i64 0) := HRS2.out.cell 3
      have u4 : _ = some (Value.int .i64 0) := HRS2.out.cell 4
      have f0 := HRS2.out.frozen 0
      have f1 := HRS2.out.frozen 1
      have f2 := HRS2.out.frozen 2
      have f3 := HRS2.out.frozen 3
      have f4 := HRS2.out.frozen 4
      go_wp2_with fail
      have HRF := Lib.hid (RdS.five (b := w.heap.size) HRD2.out (by have := HR.out; omega) (.int .i64 k1) (.string (bs t1)) (.int .i64 0) (.int .i64 0) (.int .i64 0))
      have HBF := Lib.hid (But.five (b := w.heap.size) HB2.out HG.out (.int .i64 k1) (.string (bs t1)) (.int .i64 0) (.int .i64 0) (.int .i64 0))
      refine bodyPost_ret (v := .tuple #[.agg #[.int .i64 k1, .string (bs t1), .int .i64 0, .int .i64 0, .int .i64 0], .int .i64 e1]) ?_ rfl ⟨by rw [HE.out.2.1, HE.out.2.2.1, HE.out.2.2.2.1, HE.out.2.2.2.2]; rfl, ?_, HBF.out⟩
      · simp [results, Tryz.results84, go_sem, *]
      · rw [HE.out.1]
        exact HRF.out
end Go.Proofs.YtkpmeelbjldcoaaGreatDoor
