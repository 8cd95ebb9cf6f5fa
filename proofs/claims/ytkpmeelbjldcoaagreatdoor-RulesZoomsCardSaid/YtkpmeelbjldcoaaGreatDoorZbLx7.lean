/- Texts: Lx7. -/
import Derived.Test.YtkpmeelbjldcoaaGreatDoorZbLx6
import Derived.Test.YtkpmeelbjldcoaaGreatDoorZbLxNum
import Derived.Lib.AppendIntMem
import Derived.Lib.AtoiErrMem
namespace Go.Proofs.YtkpmeelbjldcoaaGreatDoor
set_option linter.unusedVariables false
set_option linter.unusedSimpArgs false
open Go.RowKit
theorem below_grow_ (w : World) (k : Nat) (os : Array Obj) : Below w.heap.size w (Sort.grow (w.drewN k) os) :=
  ⟨rfl, rfl, rfl, by simp [Sort.grow], fun i hi => by
    show ((w.drewN k).heap ++ os)[i]? = _
    rw [Array.getElem?_append_left (by exact hi)]
    rfl⟩
theorem Vs.below {w w' : World} (h : Vs w) (hb : Below w.heap.size w w') : Vs w' := by
  refine ⟨fun i hi => cell_later hb (h.words i hi), fun i hi => cell_later hb (h.marks i hi), ?_, ?_, Lib.tabBelow_of_tabIs h.tab w' hb⟩
  · obtain ⟨te, pe, h1⟩ := h.syn; exact ⟨te, pe, cell_later hb h1⟩
  · obtain ⟨te, pe, h1⟩ := h.rng; exact ⟨te, pe, cell_later hb h1⟩
/-- A token as a call gives it, its place left out. -/
def tokV (k : Int) (t : Bs) (n : Int) : Value := .agg #[.int .i64 k, .string (bs t), .int .i64 n, .int .i64 0, .int .i64 0]
def nameE (t : Bs) : Int := if wordB (bs t) = true then 0 else if 16 < t.length then 2 else 0
def nameKd (t : Bs) : Int := if wordB (bs t) = true then 2 else if 16 < t.length then 0 else 1
def nameTx (t : Bs) : Bs := if wordB (bs t) = true then t else if 16 < t.length then [] else t
def NameP (t : Bs) (w : World) (e : Ending) (w' : World) : Prop := e = .returned (.tuple #[tokV (nameKd t) (nameTx t) 0, .int .i64 (nameE t)]) ∧ Below w.heap.size w w'
set_option maxRecDepth 100000 in
set_option maxHeartbeats 4000000 in
theorem name_any (t : Bs) (w : World) (hV : Vs w) (hl : t.length ≤ 512) : Calls Tryz.prog 116 #[.string (bs t)] w fun e w' => NameP t w e w' := by
  have HA := Lib.hid (show Below w.heap.size w (w.alloc (.cells #[.int .i64 0, .string ⟨#[]⟩, .int .i64 0, .int .i64 0, .int .i64 0] 111)) from (Below.refl _ _).alloc (Nat.le_refl _) _)
  have HW := Lib.hid (word_any (bs t) _ (hV.below HA.out))
  have HK := Lib.hid (Blk.new w 111 #[.int .i64 0, .string ⟨#[]⟩, .int .i64 0, .int .i64 0, .int .i64 0])
  have HG : Hid (w.heap.size ≤ w.heap.size) := Lib.hid (Nat.le_refl _)
  clear hV
  cases hw : wordB (bs t) with
  | true =>
    have HE := Lib.hid (show nameKd t = 2 ∧ nameTx t = t ∧ nameE t = 0 by simp [nameKd, nameTx, nameE, hw])
    rw [hw] at HW
    clear hw
    go_enter Tryz.func116, Tryz.ntmps116
    go_wp2_with fail
    refine HW.out.mono ?_
    rintro e w9 ⟨rfl, hw9⟩
    subst hw9
    generalize (w.alloc (.cells #[.int .i64 0, .string ⟨#[]⟩, .int .i64 0, .int .i64 0, .int .i64 0] 111)) = W at *
    have u0 : _ = some (Value.int .i64 0) := HK.out.cell 0
    have u1 : _ = some (Value.string ⟨#[]⟩) := HK.out.cell 1
    have u2 : _ = some (Value.int .i64 0) := HK.out.cell 2
    have u3 : _ = some (Value.int .i64 0) := HK.out.cell 3
    have u4 : _ = some (Value.int .i64 0) := HK.out.cell 4
    have f0 := HK.out.frozen 0
    have f1 := HK.out.frozen 1
    have f2 := HK.out.frozen 2
    have f3 := HK.out.frozen 3
    have f4 := HK.out.frozen 4
    go_wp2_with fail
    have HBF := Lib.hid (((((HA.out.setCell (p := ⟨w.heap.size, 0, none⟩) HG.out (.int .i64 2)).setCell (p := ⟨w.heap.size, 1, none⟩) HG.out (.string (bs t))).setCell (p := ⟨w.heap.size, 2, none⟩) HG.out (.int .i64 0)).setCell (p := ⟨w.heap.size, 3, none⟩) HG.out (.int .i64 0)).setCell (p := ⟨w.heap.size, 4, none⟩) HG.out (.int .i64 0))
    refine bodyPost_ret (v := .tuple #[.agg #[.int .i64 2, .string (bs t), .int .i64 0, .int .i64 0, .int .i64 0], .int .i64 0]) ?_ rfl ⟨by rw [HE.out.1, HE.out.2.1, HE.out.2.2]; rfl, HBF.out⟩
    simp [results, Tryz.results116, go_sem, *]
  | false =>
    rw [hw] at HW
    have hs : ((bs t).size : Int) = (t.length : Int) := by rw [bs_size]
    by_cases h16 : 16 < t.length
    · have HE := Lib.hid (show nameKd t = 0 ∧ nameTx t = [] ∧ nameE t = 2 by simp [nameKd, nameTx, nameE, hw, h16])
      have hgt : (16 : Int) < (t.length : Int) := by omega
      clear hw
      go_enter Tryz.func116, Tryz.ntmps116
      go_wp2_with fail
      refine HW.out.mono ?_
      rintro e w9 ⟨rfl, hw9⟩
      subst hw9
      generalize (w.alloc (.cells #[.int .i64 0, .string ⟨#[]⟩, .int .i64 0, .int .i64 0, .int .i64 0] 111)) = W at *
      have u0 : _ = some (Value.int .i64 0) := HK.out.cell 0
      have u1 : _ = some (Value.string ⟨#[]⟩) := HK.out.cell 1
      have u2 : _ = some (Value.int .i64 0) := HK.out.cell 2
      have u3 : _ = some (Value.int .i64 0) := HK.out.cell 3
      have u4 : _ = some (Value.int .i64 0) := HK.out.cell 4
      have f0 := HK.out.frozen 0
      have f1 := HK.out.frozen 1
      have f2 := HK.out.frozen 2
      have f3 := HK.out.frozen 3
      have f4 := HK.out.frozen 4
      go_wp2_with fail
      have HBF := Lib.hid (((((HA.out.setCell (p := ⟨w.heap.size, 0, none⟩) HG.out (.int .i64 0)).setCell (p := ⟨w.heap.size, 1, none⟩) HG.out (.string ⟨#[]⟩)).setCell (p := ⟨w.heap.size, 2, none⟩) HG.out (.int .i64 0)).setCell (p := ⟨w.heap.size, 3, none⟩) HG.out (.int .i64 0)).setCell (p := ⟨w.heap.size, 4, none⟩) HG.out (.int .i64 0))
      refine bodyPost_ret (v := .tuple #[.agg #[.int .i64 0, .string ⟨#[]⟩, .int .i64 0, .int .i64 0, .int .i64 0], .int .i64 2]) ?_ rfl ⟨by rw [HE.out.1, HE.out.2.1, HE.out.2.2]; rfl, HBF.out⟩
      simp [results, Tryz.results116, go_sem, *]
    · have HE := Lib.hid (show nameKd t = 1 ∧ nameTx t = t ∧ nameE t = 0 by simp [nameKd, nameTx, nameE, hw, h16])
      have hgt : (t.length : Int) ≤ 16 := by omega
      clear hw
      go_enter Tryz.func116, Tryz.ntmps116
      go_wp2_with fail
      refine HW.out.mono ?_
      rintro e w9 ⟨rfl, hw9⟩
      subst hw9
      generalize (w.alloc (.cells #[.int .i64 0, .string ⟨#[]⟩, .int .i64 0, .int .i64 0, .int .i64 0] 111)) = W at *
      have u0 : _ = some (Value.int .i64 0) := HK.out.cell 0
      have u1 : _ = some (Value.string ⟨#[]⟩) := HK.out.cell 1
      have u2 : _ = some (Value.int .i64 0) := HK.out.cell 2
      have u3 : _ = some (Value.int .i64 0) := HK.out.cell 3
      have u4 : _ = some (Value.int .i64 0) := HK.out.cell 4
      have f0 := HK.out.frozen 0
      have f1 := HK.out.frozen 1
      have f2 := HK.out.frozen 2
      have f3 := HK.out.frozen 3
      have f4 := HK.out.frozen 4
      go_wp2_with fail
      have HBF := Lib.hid (((((HA.out.setCell (p := ⟨w.heap.size, 0, none⟩) HG.out (.int .i64 1)).setCell (p := ⟨w.heap.size, 1, none⟩) HG.out (.string (bs t))).setCell (p := ⟨w.heap.size, 2, none⟩) HG.out (.int .i64 0)).setCell (p := ⟨w.heap.size, 3, none⟩) HG.out (.int .i64 0)).setCell (p := ⟨w.heap.size, 4, none⟩) HG.out (.int .i64 0))
      refine bodyPost_ret (v := .tuple #[.agg #[.int .i64 1, .string (bs t), .int .i64 0, .int .i64 0, .int .i64 0], .int .i64 0]) ?_ rfl ⟨by rw [HE.out.1, HE.out.2.1, HE.out.2.2]; rfl, HBF.out⟩
      simp [results, Tryz.results116, go_sem, *]
def numE (t : Bs) : Int := if numBad t = true then 10 else 0
def numKd (t : Bs) : Int := if numBad t = true then 0 else 3
def numTx (t : Bs) : Bs := if numBad t = true then [] else t
def numV (t : Bs) : Int := if numBad t = true then 0 else (vl t : Int)
def NumP (t : Bs) (w : World) (e : Ending) (w' : World) : Prop := e = .returned (.tuple #[tokV (numKd t) (numTx t) (numV t), .int .i64 (numE t)]) ∧ Below w.heap.size w w'
theorem bs_data (t : Bs) : (bs t).data.toList = t := by simp [bs]
theorem itoa_later {v : Int} (h0 : 0 ≤ v) (h1 : v ≤ 65535) {w : World} (hV : Vs w) : Calls Tryz.prog 135 #[.int .i64 v] w fun e w' => e = .returned (.string (bs (Lib.itoa v))) ∧ Below w.heap.size w w' := by
  refine (Tryz.strconv_Itoa v (by omega) (by omega) w hV.tab).mono ?_
  rintro e w' ⟨rfl, k, os, rfl⟩
  exact ⟨rfl, below_grow_ _ _ _⟩
theorem atoi_ok_later {t : Bs} {v : Int} (h : Lib.atoiAll t = .ok v) (hl : t.length ≤ 512) (w : World) : Calls Tryz.prog 145 #[.string (bs t)] w fun e w' => e = .returned (.tuple #[.int .i64 v, .nilIface]) ∧ Below w.heap.size w w' := by
  refine (Tryz.strconv_Atoi_ok (bs t) (by rw [bs_size]; omega) v (by rw [bs_data]; exact h) w).mono ?_
  rintro e w' ⟨rfl, rfl | ⟨s, rfl⟩⟩
  · exact ⟨rfl, Below.refl _ _⟩
  · exact ⟨rfl, Lib.bytesWorld_below _ _ _⟩
theorem atoi_range_later {t : Bs} (h : Lib.atoiAll t = .range) (hl : t.length ≤ 512) (w : World) (hV : Vs w) : Calls Tryz.prog 145 #[.string (bs t)] w fun e w' => ∃ N, e = .returned (.tuple #[.int .i64 (Lib.atoiSat t), .iface 193 (.pointer (some ⟨N, 0, none⟩))]) ∧ Below w.heap.size w w' := by
  obtain ⟨te, pe, h1⟩ := hV.rng
  refine (Tryz.strconv_Atoi_range (bs t) (by rw [bs_size]; omega) (by rw [bs_data]; exact h) _ w h1 (.inr ⟨te, pe, rfl⟩)).mono ?_
  rintro e w' ⟨N, rfl, _, _, hb⟩
  exact ⟨N, by rw [bs_data], hb⟩
set_option maxRecDepth 100000 in
set_option maxHeartbeats 4000000 in
theorem number_any (t : Bs) (w : World) (hV : Vs w) (hl : t.length ≤ 512) (hd : digL t) (hn : t ≠ []) : Calls Tryz.prog 119 #[.string (bs t)] w fun e w' => NumP t w e w' := by
  have HA := Lib.hid (show Below w.heap.size w (w.alloc (.cells #[.int .i64 0, .string ⟨#[]⟩, .int .i64 0, .int .i64 0, .int .i64 0] 111)) from (Below.refl _ _).alloc (Nat.le_refl _) _)
  have HV2 := Lib.hid (hV.below HA.out)
  have HK := Lib.hid (Blk.new w 111 #[.int .i64 0, .string ⟨#[]⟩, .int .i64 0, .int .i64 0, .int .i64 0])
  have HG : Hid (w.heap.size ≤ w.heap.size) := Lib.hid (Nat.le_refl _)
  clear hV
  have HC := Lib.hid (num_cases t hd hn)
  clear hd hn
  rcases HC.out with ⟨hb, ha⟩ | ⟨hb, ha, hv⟩ | ⟨hb, ha, hv, hi⟩ | ⟨hb, ha, hv, hi⟩
  · have HE := Lib.hid (show numKd t = 0 ∧ numTx t = [] ∧ numV t = 0 ∧ numE t = 10 by simp [numKd, numTx, numV, numE, hb])
    have HAT := Lib.hid (atoi_range_later ha hl _ HV2.out)
    clear hb ha HC
    go_enter Tryz.func119, Tryz.ntmps119
    go_wp2_with fail
    refine HAT.out.mono ?_
    rintro e w1 ⟨N, rfl, hb1⟩
    have HB1 := Lib.hid (below_trans HA.out hb1)
    have HK1 := Lib.hid (HK.out.thru0 hb1)
    clear hb1 HA HK
    have u0 : _ = some (Value.int .i64 0) := HK1.out.cell 0
    have u1 : _ = some (Value.string ⟨#[]⟩) := HK1.out.cell 1
    have u2 : _ = some (Value.int .i64 0) := HK1.out.cell 2
    have u3 : _ = some (Value.int .i64 0) := HK1.out.cell 3
    have u4 : _ = some (Value.int .i64 0) := HK1.out.cell 4
    have f0 := HK1.out.frozen 0
    have f1 := HK1.out.frozen 1
    have f2 := HK1.out.frozen 2
    have f3 := HK1.out.frozen 3
    have f4 := HK1.out.frozen 4
    go_wp2_with fail
    have HBF := Lib.hid (((((HB1.out.setCell (p := ⟨w.heap.size, 0, none⟩) HG.out (.int .i64 0)).setCell (p := ⟨w.heap.size, 1, none⟩) HG.out (.string ⟨#[]⟩)).setCell (p := ⟨w.heap.size, 2, none⟩) HG.out (.int .i64 0)).setCell (p := ⟨w.heap.size, 3, none⟩) HG.out (.int .i64 0)).setCell (p := ⟨w.heap.size, 4, none⟩) HG.out (.int .i64 0))
    refine bodyPost_ret (v := .tuple #[.agg #[.int .i64 0, .string ⟨#[]⟩, .int .i64 0, .int .i64 0, .int .i64 0], .int .i64 10]) ?_ rfl ⟨by rw [HE.out.1, HE.out.2.1, HE.out.2.2.1, HE.out.2.2.2]; rfl, HBF.out⟩
    simp [results, Tryz.results119, go_sem, *]
  · have HE := Lib.hid (show numKd t = 0 ∧ numTx t = [] ∧ numV t = 0 ∧ numE t = 10 by simp [numKd, numTx, numV, numE, hb])
    have HAT := Lib.hid (atoi_ok_later ha hl (w.alloc (.cells #[.int .i64 0, .string ⟨#[]⟩, .int .i64 0, .int .i64 0, .int .i64 0] 111)))
    have hgt : (65535 : Int) < (vl t : Int) := by omega
    clear hb ha HC hv
    go_enter Tryz.func119, Tryz.ntmps119
    go_wp2_with fail
    refine HAT.out.mono ?_
    rintro e w1 ⟨rfl, hb1⟩
    have HB1 := Lib.hid (below_trans HA.out hb1)
    have HK1 := Lib.hid (HK.out.thru0 hb1)
    clear hb1 HA HK
    have u0 : _ = some (Value.int .i64 0) := HK1.out.cell 0
    have u1 : _ = some (Value.string ⟨#[]⟩) := HK1.out.cell 1
    have u2 : _ = some (Value.int .i64 0) := HK1.out.cell 2
    have u3 : _ = some (Value.int .i64 0) := HK1.out.cell 3
    have u4 : _ = some (Value.int .i64 0) := HK1.out.cell 4
    have f0 := HK1.out.frozen 0
    have f1 := HK1.out.frozen 1
    have f2 := HK1.out.frozen 2
    have f3 := HK1.out.frozen 3
    have f4 := HK1.out.frozen 4
    go_wp2_with fail
    have HBF := Lib.hid (((((HB1.out.setCell (p := ⟨w.heap.size, 0, none⟩) HG.out (.int .i64 0)).setCell (p := ⟨w.heap.size, 1, none⟩) HG.out (.string ⟨#[]⟩)).setCell (p := ⟨w.heap.size, 2, none⟩) HG.out (.int .i64 0)).setCell (p := ⟨w.heap.size, 3, none⟩) HG.out (.int .i64 0)).setCell (p := ⟨w.heap.size, 4, none⟩) HG.out (.int .i64 0))
    refine bodyPost_ret (v := .tuple #[.agg #[.int .i64 0, .string ⟨#[]⟩, .int .i64 0, .int .i64 0, .int .i64 0], .int .i64 10]) ?_ rfl ⟨by rw [HE.out.1, HE.out.2.1, HE.out.2.2.1, HE.out.2.2.2]; rfl, HBF.out⟩
    simp [results, Tryz.results119, go_sem, *]
  · have HE := Lib.hid (show numKd t = 0 ∧ numTx t = [] ∧ numV t = 0 ∧ numE t = 10 by simp [numKd, numTx, numV, numE, hb])
    have HAT := Lib.hid (atoi_ok_later ha hl (w.alloc (.cells #[.int .i64 0, .string ⟨#[]⟩, .int .i64 0, .int .i64 0, .int .i64 0] 111)))
    have hle : (vl t : Int) ≤ 65535 := by omega
    have HIT := Lib.hid (fun (W : World) (hW : Vs W) => itoa_later (v := (vl t : Int)) (by omega) hle hW)
    have HQ := Lib.hid hi
    clear hb ha HC hv hi
    go_enter Tryz.func119, Tryz.ntmps119
    go_wp2_with fail
    refine HAT.out.mono ?_
    rintro e w1 ⟨rfl, hb1⟩
    have HB1 := Lib.hid (below_trans HA.out hb1)
    have HK1 := Lib.hid (HK.out.thru0 hb1)
    have HV3 := Lib.hid (HV2.out.below hb1)
    clear hb1 HA HK HV2
    go_wp2_with fail
    refine (HIT.out _ HV3.out).mono ?_
    rintro e w2 ⟨rfl, hb2⟩
    have HB2 := Lib.hid (below_trans HB1.out hb2)
    have HK2 := Lib.hid (HK1.out.thru0 hb2)
    clear hb2 HB1 HK1 HV3
    have hne2 : ((bs (Lib.itoa (vl t : Int))).toList == (bs t).toList) = false := beq_eq_false_iff_ne.2 (fun e => HQ.out (bs_inj (toList_inj e)))
    have hd0 : decide ((65535 : Int) < (vl t : Int)) = false := decide_eq_false (by omega)
    have u0 : _ = some (Value.int .i64 0) := HK2.out.cell 0
    have u1 : _ = some (Value.string ⟨#[]⟩) := HK2.out.cell 1
    have u2 : _ = some (Value.int .i64 0) := HK2.out.cell 2
    have u3 : _ = some (Value.int .i64 0) := HK2.out.cell 3
    have u4 : _ = some (Value.int .i64 0) := HK2.out.cell 4
    have f0 := HK2.out.frozen 0
    have f1 := HK2.out.frozen 1
    have f2 := HK2.out.frozen 2
    have f3 := HK2.out.frozen 3
    have f4 := HK2.out.frozen 4
    go_wp2_with fail
    have HBF := Lib.hid (((((HB2.out.setCell (p := ⟨w.heap.size, 0, none⟩) HG.out (.int .i64 0)).setCell (p := ⟨w.heap.size, 1, none⟩) HG.out (.string ⟨#[]⟩)).setCell (p := ⟨w.heap.size, 2, none⟩) HG.out (.int .i64 0)).setCell (p := ⟨w.heap.size, 3, none⟩) HG.out (.int .i64 0)).setCell (p := ⟨w.heap.size, 4, none⟩) HG.out (.int .i64 0))
    refine bodyPost_ret (v := .tuple #[.agg #[.int .i64 0, .string ⟨#[]⟩, .int .i64 0, .int .i64 0, .int .i64 0], .int .i64 10]) ?_ rfl ⟨by rw [HE.out.1, HE.out.2.1, HE.out.2.2.1, HE.out.2.2.2]; rfl, HBF.out⟩
    simp [results, Tryz.results119, go_sem, *]
  · have HE := Lib.hid (show numKd t = 3 ∧ numTx t = t ∧ numV t = (vl t : Int) ∧ numE t = 0 by simp [numKd, numTx, numV, numE, hb])
    have HAT := Lib.hid (atoi_ok_later ha hl (w.alloc (.cells #[.int .i64 0, .string ⟨#[]⟩, .int .i64 0, .int .i64 0, .int .i64 0] 111)))
    have hle : (vl t : Int) ≤ 65535 := by omega
    have HIT := Lib.hid (fun (W : World) (hW : Vs W) => itoa_later (v := (vl t : Int)) (by omega) hle hW)
    have HQ := Lib.hid hi
    clear hb ha HC hv hi
    go_enter Tryz.func119, Tryz.ntmps119
    go_wp2_with fail
    refine HAT.out.mono ?_
    rintro e w1 ⟨rfl, hb1⟩
    have HB1 := Lib.hid (below_trans HA.out hb1)
    have HK1 := Lib.hid (HK.out.thru0 hb1)
    have HV3 := Lib.hid (HV2.out.below hb1)
    clear hb1 HA HK HV2
    go_wp2_with fail
    refine (HIT.out _ HV3.out).mono ?_
    rintro e w2 ⟨rfl, hb2⟩
    have HB2 := Lib.hid (below_trans HB1.out hb2)
    have HK2 := Lib.hid (HK1.out.thru0 hb2)
    clear hb2 HB1 HK1 HV3
    rw [HQ.out]
    have hd0 : decide ((65535 : Int) < (vl t : Int)) = false := decide_eq_false (by omega)
    have u0 : _ = some (Value.int .i64 0) := HK2.out.cell 0
    have u1 : _ = some (Value.string ⟨#[]⟩) := HK2.out.cell 1
    have u2 : _ = some (Value.int .i64 0) := HK2.out.cell 2
    have u3 : _ = some (Value.int .i64 0) := HK2.out.cell 3
    have u4 : _ = some (Value.int .i64 0) := HK2.out.cell 4
    have f0 := HK2.out.frozen 0
    have f1 := HK2.out.frozen 1
    have f2 := HK2.out.frozen 2
    have f3 := HK2.out.frozen 3
    have f4 := HK2.out.frozen 4
    go_wp2_with fail
    have HBF := Lib.hid (((((HB2.out.setCell (p := ⟨w.heap.size, 0, none⟩) HG.out (.int .i64 3)).setCell (p := ⟨w.heap.size, 1, none⟩) HG.out (.string (bs t))).setCell (p := ⟨w.heap.size, 2, none⟩) HG.out (.int .i64 (vl t : Int))).setCell (p := ⟨w.heap.size, 3, none⟩) HG.out (.int .i64 0)).setCell (p := ⟨w.heap.size, 4, none⟩) HG.out (.int .i64 0))
    refine bodyPost_ret (v := .tuple #[.agg #[.int .i64 3, .string (bs t), .int .i64 (vl t : Int), .int .i64 0, .int .i64 0], .int .i64 0]) ?_ rfl ⟨by rw [HE.out.1, HE.out.2.1, HE.out.2.2.1, HE.out.2.2.2]; rfl, HBF.out⟩
    simp [results, Tryz.results119, go_sem, *]
end Go.Proofs.YtkpmeelbjldcoaaGreatDoor
