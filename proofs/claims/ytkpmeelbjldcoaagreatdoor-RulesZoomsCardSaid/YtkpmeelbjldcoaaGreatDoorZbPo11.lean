/- Texts: Po11. -/
import Derived.Test.YtkpmeelbjldcoaaGreatDoorZbPo10
namespace Go.Proofs.YtkpmeelbjldcoaaGreatDoor
set_option linter.unusedVariables false
set_option linter.unusedSimpArgs false
open Go.RowKit
theorem toks_len (l : Bs) : (toks l).1.length ≤ l.length + 1 := by
  unfold toks
  split
  · simp
  · exact tz_few _ _ _
/-- The tokens of texts, if all have tokens. -/
def tokF : List Bs → Option (List Tk)
  | [] => some []
  | s :: F => match (toks s).2 with
    | some _ => none
    | none => (tokF F).map ((toks s).1 ++ ·)
/-- From what was found on. -/
def tokG (acc : List Tk) (F : List Bs) : Option (List Tk) := (tokF F).map (acc ++ ·)
theorem tokG_nil (acc : List Tk) : tokG acc [] = some acc := by simp [tokG, tokF]
theorem tokG_err {acc : List Tk} {s : Bs} {F : List Bs} {f : Int × Pl} (h : (toks s).2 = some f) : tokG acc (s :: F) = none := by simp [tokG, tokF, h]
theorem tokG_ok {acc : List Tk} {s : Bs} {F : List Bs} (h : (toks s).2 = none) : tokG acc (s :: F) = tokG (acc ++ (toks s).1) F := by
  simp only [tokG, tokF, h]
  cases tokF F with
  | none => rfl
  | some L => simp
def TokOfP (F : List Bs) (w : World) (e : Ending) (w' : World) : Prop :=
  ∃ v, e = .returned (.tuple #[v, .bool (tokF F).isSome]) ∧ EOwn elT w' v ((tokF F).getD []) ∧ (∀ i, v.ownBlock = some i → w.heap.size ≤ i) ∧ Below w.heap.size w w'
structure ToSt (w : World) (F : List Bs) (A : Option Addr) (c k : Nat) (v : Value) (acc : List Tk) (wr : World) : Prop where
  row : EOwn elS wr (.slice A F.length c) F
  own : EOwn elT wr v acc
  far : ∀ i, v.ownBlock = some i → w.heap.size ≤ i
  below : Below w.heap.size w wr
  eq : tokF F = tokG acc (F.drop k)
  few : acc.length ≤ 51 * k
set_option maxRecDepth 100000 in
set_option maxHeartbeats 4000000 in
theorem tokof_any (w : World) (F : List Bs) (A : Option Addr) (c : Nat) (hV : Vs w) (h : EOwn elS w (.slice A F.length c) F) (hF : F.length ≤ 1000) (hs : ∀ s ∈ F, s.length ≤ 50) :
    Calls Tryz.prog 96 #[.slice A F.length c] w (TokOfP F w) := by
  have HST := Lib.hid (show ToSt w F A c 0 (.slice none 0 0) [] w from ⟨h, EOwn.nil_ w, fun i hi => by simp [Value.ownBlock] at hi, Below.refl _ _, by
    cases hq : tokF F <;> simp [tokG, hq], Nat.le_refl _⟩)
  have HVB := Lib.hid (show ∀ w', Below w.heap.size w w' → Vs w' from fun w' hb => hV.below hb)
  have HF := Lib.hid hF
  have HS := Lib.hid hs
  clear hV h hF hs
  go_enter Tryz.func96, Tryz.ntmps96
  go_wp2_with fail
  go_loopw [4, 11] (fun v i wr => ∃ (k : Nat) (acc : List Tk) (v0 : Value), k ≤ F.length ∧ i = .int .i64 k ∧ v = v0 ∧ Hid (ToSt w F A c k v0 acc wr)) (fun _ i _ => F.length - (intOf i).toNat)
  case atStart => exact ⟨0, [], _, by omega, rfl, rfl, HST⟩
  case round =>
    clear HST
    obtain ⟨k, acc, v, hk, rfl, hv, HT⟩ := hrel
    subst hv
    by_cases hlt : k < F.length
    · have hki : (k : Int) < (F.length : Int) := by omega
      have hkb : (k : Int) < 1000000 := by have := HF.out; omega
      have hx : F[k]? = some F[k] := List.getElem?_eq_getElem hlt
      have HX := Lib.hid (HS.out _ (List.getElem_mem hlt))
      have HDR := Lib.hid (List.drop_eq_getElem_cons hlt)
      obtain ⟨_, g, rfl, hc⟩ := EOwn.cell elS_ok HT.out.row hx
      generalize F[k] = x at *
      have hcell : wr.cell? ⟨g, k, none⟩ = some (.string (bs x)) := by simpa [elS] using hc 0 _ rfl
      have HTK := Lib.hid (tokens_any x wr (HVB.out wr HT.out.below) (by have := HX.out; omega))
      unfold TokensP at HTK
      clear hc hx
      go_wp2_with fail
      refine HTK.out.mono ?_
      rintro e w1 ⟨v1, rfl, hO, hb, hf⟩
      obtain ⟨A1, n1, rfl, _, _⟩ := hO.slice
      have HO := Lib.hid hO
      have HB := Lib.hid hb
      have HL1 := Lib.hid (toks_len x)
      clear hO hb hf HTK hcell
      cases hF2 : (toks x).2 with
      | some f =>
        have hne : flE (some f) ≠ 0 := by have := fl_ne x hF2; rw [hF2] at this; exact this
        have hnb : (flE (some f) != 0) = true := by simp [hne]
        have HP := Lib.hid (show tokF F = none from HT.out.eq.trans (by rw [HDR.out]; exact tokG_err hF2))
        have HW := Lib.hid ((HT.out.below.trans (HB.out.mono HT.out.below.size)).trans ((Below.refl _ _).alloc (by have := HT.out.below.size; have := HB.out.size; omega) (.cells #[.int .i64 (flE (some f)), .int .i64 (flP (some f)).1, .int .i64 (flP (some f)).2] 29)))
        clear hF2 hne
        generalize flE (some f) = fe at *
        generalize flP (some f) = fp at *
        go_wp2_with fail
        refine bodyPost_ret (v := .tuple #[.slice none 0 0, .bool false]) ?_ rfl ⟨_, by rw [HP.out]; rfl, by rw [HP.out]; exact EOwn.nil_ _, fun i hi => by simp [Value.ownBlock] at hi, HW.out⟩
        simp [results, Tryz.results96, go_sem, *]
      | none =>
        have HQ := Lib.hid (show tokF F = tokG (acc ++ (toks x).1) (F.drop (k + 1)) from HT.out.eq.trans (by rw [HDR.out]; exact tokG_ok hF2))
        generalize hfe : flE none = fe
        generalize hfp : flP none = fp
        obtain rfl : fe = 0 := by rw [← hfe]; rfl
        obtain rfl : fp = (0, 0) := by rw [← hfp]; rfl
        have HAL := Lib.hid (show Below w1.heap.size w1 (w1.alloc (.cells #[.int .i64 0, .int .i64 0, .int .i64 0] 29)) from (Below.refl _ _).alloc (Nat.le_refl _) _)
        have HAC := Lib.hid (HT.out.own.below HB.out)
        have HLL := Lib.hid (show acc.length + (toks x).1.length ≤ 1000000 by have := HT.out.few; have := HL1.out; have := HX.out; have := HF.out; omega)
        clear hF2 hfe hfp
        generalize hLx : (toks x).1 = Lx at *
        obtain ⟨A0, c0, hv0, _, _⟩ := HAC.out.slice
        subst hv0
        go_wp2_with ((at_builtin; refine wpList_eapp (e2 := 111) elT_ok rfl _ _ 72 72 rfl (by kernel_rfl) (by kernel_rfl) (.slice A0 acc.length c0) acc Lx A1 n1 rfl rfl (HAC.out.below HAL.out) (HO.out.below HAL.out) HLL.out ?_; rintro v' w2 ⟨hO2, hG2, hW2⟩; obtain ⟨A9, c9, rfl, _, _⟩ := hO2.slice; rw [List.length_append] at hO2 hW2; have HO2 := Lib.hid hO2; have HG2 := Lib.hid hG2; have HW2 := Lib.hid hW2; clear hO2 hG2 hW2))
        have hsz : w.heap.size ≤ (w1.alloc (.cells #[.int .i64 0, .int .i64 0, .int .i64 0] 29)).heap.size := by have := HT.out.below.size; have := HB.out.size; have := HAL.out.size; omega
        have HN := Lib.hid (show ToSt w F (some ⟨g, 0, none⟩) c (k + 1) _ (acc ++ Lx) w2 from ⟨by
          refine ((HT.out.row.below HB.out).below HAL.out).keep fun i hi e => HG2.out.block i hi fun e2 => ?_
          exact EOwn.apart (by decide) (HAC.out.below HAL.out) ((HT.out.row.below HB.out).below HAL.out) e2.symm e, HO2.out, fun i hi => by
          rcases HW2.out i hi with h9 | h9
          · exact HT.out.far i h9
          · omega, ((HT.out.below.trans (HB.out.mono HT.out.below.size)).trans (HAL.out.mono (by have := HT.out.below.size; have := HB.out.size; omega))).trans ((Below.refl _ _).grown HG2.out hsz HT.out.far), HQ.out, by have := HT.out.few; have := HL1.out; have := HX.out; simp only [List.length_append]; omega⟩)
        clear HO2 HG2 HW2 hsz HAL HAC
        go_wp2_with fail
        go_roundw
        case rel => exact ⟨k + 1, _, _, by omega, by go_num, rfl, HN⟩
        case measure => simp [intOf]; omega
    · obtain rfl : k = F.length := by omega
      have HP := Lib.hid (show tokF F = some acc from HT.out.eq.trans (by rw [List.drop_length]; exact tokG_nil acc))
      go_wp2_with fail
      refine bodyPost_ret (v := .tuple #[_, .bool true]) ?_ rfl ⟨_, by rw [HP.out]; rfl, by rw [HP.out]; exact HT.out.own, HT.out.far, HT.out.below⟩
      simp [results, Tryz.results96, go_sem, *]
end Go.Proofs.YtkpmeelbjldcoaaGreatDoor
