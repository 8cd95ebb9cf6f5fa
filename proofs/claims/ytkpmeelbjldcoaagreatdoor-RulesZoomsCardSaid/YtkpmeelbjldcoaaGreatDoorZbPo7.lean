/- Texts: Po7. -/
import Derived.Test.YtkpmeelbjldcoaaGreatDoorZbPo6
import Derived.Test.YtkpmeelbjldcoaaGreatDoorZbLr1M
namespace Go.Proofs.YtkpmeelbjldcoaaGreatDoor
set_option linter.unusedVariables false
set_option linter.unusedSimpArgs false
open Go.RowKit
theorem toks_513 (l : Bs) : (toks l).1.length ≤ 100000 := by
  unfold toks
  split
  · simp
  · rename_i h
    exact Nat.le_trans (tz_few _ _ _) (by omega)
theorem rcells_one (lv : Value) (d : Dc) (bv : Value) (h1 : lv.oneCell' = true) (h2 : bv.oneCell' = true) : (rcells lv d bv).all (·.oneCell') = true := by
  have e : rcells lv d bv = (lv :: dcells d bv).toArray := rfl
  rw [e]
  refine all_oneCell_toArray fun v hv => ?_
  rcases List.mem_cons.1 hv with rfl | h
  · exact h1
  · exact (Array.all_eq_true_iff_forall_mem.1 (dcells_one d h2)) v (by simpa using h)
theorem Blk.there {w : World} {r : Nat} {t : TypeId} {cs : Array Value} (h : Blk w r t cs) {n : Nat} (hn : n ≤ cs.size) : w.there r 0 n := by
  intro j hj
  refine ⟨?_, h.frozen _⟩
  rw [Blk.cell h (0 + j)]
  have hs : 0 + j < cs.size := by omega
  rw [Array.getElem?_eq_getElem hs]
  rfl
theorem Hs.low {w w' : World} (h : Hs w) (hb : Below w.heap.size w w') : Hs w' := ⟨fun i hi => cell_block (h.h i hi) fun hl => hb.block _ hl⟩
theorem rset_all (lv lv' : Value) (d d' : Dc) (bv bv' : Value) : setsA (rcells lv d bv) 0 (rcells lv' d' bv').toList = rcells lv' d' bv' := by simp [setsA, rcells]
def ParseP (l : Bs) (w : World) (e : Ending) (w' : World) : Prop :=
  ∃ v, e = .returned (.tuple #[v, .agg #[.int .i64 (flE (parseP l).2), .int .i64 (flP (parseP l).2).1, .int .i64 (flP (parseP l).2).2]]) ∧ DRow w' w.heap.size v (parseP l).1 ∧ Below w.heap.size w w'
theorem Left.of_own {w : World} {r : Nat} {v : Value} {L : List Tk} (h : EOwn elT w v L) (hr : ∀ i, v.ownBlock = some i → i < r) : Left w r v L := by
  obtain ⟨A, c, rfl, h1, h2⟩ := h.slice
  refine ⟨A, c, rfl, h1, h2, fun i x hx => ?_⟩
  obtain ⟨_, g, rfl, hc⟩ := EOwn.cell elT_ok h hx
  refine ⟨g, 0, rfl, hr g rfl, fun j u hu => ?_⟩
  have := hc j u hu
  simpa [elT] using this
set_option maxRecDepth 100000 in
set_option maxHeartbeats 8000000 in
theorem parse_any (l : Bs) (w : World) (hV : Vs w) (hs : Hs w) (hg : 0 < w.heap.size) (hlen : l.length ≤ 140737488355328) : Calls Tryz.prog 25 #[.string (bs l)] w (ParseP l w) := by
  have HA := Lib.hid (show Below w.heap.size w (w.alloc (.cells #[.int .i64 0, .int .i64 0, .int .i64 0] 29)) from (Below.refl _ _).alloc (Nat.le_refl _) _)
  have HB := Lib.hid (Blk.new w 29 #[.int .i64 0, .int .i64 0, .int .i64 0])
  have HV := Lib.hid hV
  have HH := Lib.hid hs
  have HG := Lib.hid hg
  have hsz0 : (w.alloc (.cells #[.int .i64 0, .int .i64 0, .int .i64 0] 29)).heap.size = w.heap.size + 1 := by simp
  have HTK := Lib.hid (tokens_any l (w.alloc (.cells #[.int .i64 0, .int .i64 0, .int .i64 0] 29)) (hV.below HA.out) (by omega))
  unfold TokensP at HTK
  have HLN := Lib.hid hlen
  clear hV hs hg hlen
  go_enter Tryz.func25, Tryz.ntmps25
  go_wp2_with fail
  refine HTK.out.mono ?_
  rintro e W1 ⟨v, rfl, hO, hb, hf⟩
  obtain ⟨A1, n1, rfl, hn1, hn2⟩ := hO.slice
  have HO := Lib.hid hO
  have HB1 := Lib.hid (Blk.thru0 HB.out hb)
  have HW1 := Lib.hid (HA.out.trans (hb.mono (by omega)))
  have HF := Lib.hid (show ∀ i, (Value.slice A1 (toks l).1.length n1).ownBlock = some i → w.heap.size < i from fun i hi => by have := hf i hi; omega)
  clear hO hb hf HTK HB HA hsz0
  cases hF2 : (toks l).2 with
  | some f =>
    have HP := Lib.hid (show parseP l = ([], some f) by simp [parseP, hF2])
    have hne : flE (some f) ≠ 0 := by have := fl_ne l hF2; rw [hF2] at this; exact this
    have hnb : (flE (some f) != 0) = true := by simp [hne]
    have hz := HB1.out.lt
    have u0 := HB1.out.cell 0
    have u1 := HB1.out.cell 1
    have u2 := HB1.out.cell 2
    have f0 := HB1.out.frozen 0
    have f1 := HB1.out.frozen 1
    have f2 := HB1.out.frozen 2
    simp only [List.getElem?_toArray, List.getElem?_cons_zero, List.getElem?_cons_succ] at u0 u1 u2
    generalize hfe : flE (some f) = fe at *
    have HFE := Lib.hid hfe
    have HFP := Lib.hid (show flP (some f) = flP (some f) from rfl)
    generalize hpp : flP (some f) = fp at *
    have HPP := Lib.hid hpp
    clear hF2 hne hfe hpp HFP
    go_wp2_with fail
    have HAL := Lib.hid (show Below W1.heap.size W1 (W1.alloc (.cells #[.int .i64 fe, .int .i64 fp.1, .int .i64 fp.2] 29)) from (Below.refl _ _).alloc (Nat.le_refl _) _)
    have HB2 := Lib.hid (Blk.thru0 HB1.out HAL.out)
    have HN2 := Lib.hid (Blk.new W1 29 #[.int .i64 fe, .int .i64 fp.1, .int .i64 fp.2])
    clear u0 u1 u2 f0 f1 f2
    generalize (W1.alloc (.cells #[.int .i64 fe, .int .i64 fp.1, .int .i64 fp.2] 29)) = W2 at *
    have u0 := HB2.out.cell 0
    have u1 := HB2.out.cell 1
    have u2 := HB2.out.cell 2
    have f0 := HB2.out.frozen 0
    have f1 := HB2.out.frozen 1
    have f2 := HB2.out.frozen 2
    have n0 := HN2.out.cell 0
    have n1' := HN2.out.cell 1
    have n2 := HN2.out.cell 2
    simp only [List.getElem?_toArray, List.getElem?_cons_zero, List.getElem?_cons_succ] at u0 u1 u2 n0 n1' n2
    have HBW := Lib.hid (HW1.out.trans (HAL.out.mono (by omega)))
    have HBF := Lib.hid (below_drew1 (Below.set3 (b := w.heap.size) HBW.out (Nat.le_refl _) (.int .i64 fe) (.int .i64 fp.1) (.int .i64 fp.2)))
    go_region
    go_wp2_with fail
    refine bodyPost_ret (v := .tuple #[.slice none 0 0, .agg #[.int .i64 fe, .int .i64 fp.1, .int .i64 fp.2]]) ?_ rfl ⟨.slice none 0 0, by rw [HP.out]; simp only [HFE.out, HPP.out], by rw [HP.out]; exact DRow.nil_ _ _, HBF.out⟩
    simp [results, Tryz.results25, go_sem, *]
  | none =>
    have HE := Lib.hid hF2
    have hz := HB1.out.lt
    generalize hfe : flE none = fe
    generalize hfp : flP none = fp
    obtain rfl : fe = 0 := by rw [← hfe]; rfl
    obtain rfl : fp = (0, 0) := by rw [← hfp]; rfl
    clear hF2 hfe hfp
    have hBN := Blk.new (W1.alloc (.cells #[.int .i64 0, .int .i64 0, .int .i64 0] 29)) 86 #[.slice none 0 0, .int .i64 0, .string ⟨#[]⟩, .int .i64 0, .slice none 0 0, .bool false, .string ⟨#[]⟩, .int .i64 0, .int .i64 0, .int .i64 0, .int .i64 0, .int .i64 0, .bool false, .string ⟨#[]⟩, .int .i64 0, .int .i64 0, .int .i64 0, .bool false, .string ⟨#[]⟩, .int .i64 0, .int .i64 0, .int .i64 0, .int .i64 0, .int .i64 0, .int .i64 0]
    have hrs : (W1.alloc (.cells #[.int .i64 0, .int .i64 0, .int .i64 0] 29)).heap.size = W1.heap.size + 1 := by simp
    rw [hrs] at hBN
    have HBN := Lib.hid hBN
    have HTH := Lib.hid (hBN.there (n := 25) (by decide))
    clear hBN hrs
    go_wp2_with ((refine wpList_store_mid rfl 86 _ _ rfl (W1.heap.size + 1) 0 (rcells (.slice A1 (toks l).1.length n1) (Dc.z (0, 0)) (.slice none 0 0)) ?hx ?hy ?ht ?hi ?h1 ?_))
    case hx => rfl
    case hy => rfl
    case ht => exact HTH.out
    case hi => kernel_rfl
    case h1 => exact rcells_one _ _ _ rfl rfl
    have hBR : Blk ((((W1.alloc (.cells #[.int .i64 0, .int .i64 0, .int .i64 0] 29)).alloc (.cells #[.slice none 0 0, .int .i64 0, .string ⟨#[]⟩, .int .i64 0, .slice none 0 0, .bool false, .string ⟨#[]⟩, .int .i64 0, .int .i64 0, .int .i64 0, .int .i64 0, .int .i64 0, .bool false, .string ⟨#[]⟩, .int .i64 0, .int .i64 0, .int .i64 0, .bool false, .string ⟨#[]⟩, .int .i64 0, .int .i64 0, .int .i64 0, .int .i64 0, .int .i64 0, .int .i64 0] 86))).setCells (W1.heap.size + 1) 0 (rcells (.slice A1 (toks l).1.length n1) (Dc.z (0, 0)) (.slice none 0 0)).toList) (W1.heap.size + 1) 86 (rcells (.slice A1 (toks l).1.length n1) (Dc.z (0, 0)) (.slice none 0 0)) := by
      have := Blk.sets (rcells (.slice A1 (toks l).1.length n1) (Dc.z (0, 0)) (.slice none 0 0)).toList _ _ 0 HBN.out
      rw [show setsA #[.slice none 0 0, .int .i64 0, .string ⟨#[]⟩, .int .i64 0, .slice none 0 0, .bool false, .string ⟨#[]⟩, .int .i64 0, .int .i64 0, .int .i64 0, .int .i64 0, .int .i64 0, .bool false, .string ⟨#[]⟩, .int .i64 0, .int .i64 0, .int .i64 0, .bool false, .string ⟨#[]⟩, .int .i64 0, .int .i64 0, .int .i64 0, .int .i64 0, .int .i64 0, .int .i64 0] 0 (rcells (.slice A1 (toks l).1.length n1) (Dc.z (0, 0)) (.slice none 0 0)).toList = rcells (.slice A1 (toks l).1.length n1) (Dc.z (0, 0)) (.slice none 0 0) by simp [setsA, rcells]] at this
      exact this
    have hBT : But (W1.heap.size + 1) W1 ((((W1.alloc (.cells #[.int .i64 0, .int .i64 0, .int .i64 0] 29)).alloc (.cells #[.slice none 0 0, .int .i64 0, .string ⟨#[]⟩, .int .i64 0, .slice none 0 0, .bool false, .string ⟨#[]⟩, .int .i64 0, .int .i64 0, .int .i64 0, .int .i64 0, .int .i64 0, .bool false, .string ⟨#[]⟩, .int .i64 0, .int .i64 0, .int .i64 0, .bool false, .string ⟨#[]⟩, .int .i64 0, .int .i64 0, .int .i64 0, .int .i64 0, .int .i64 0, .int .i64 0] 86))).setCells (W1.heap.size + 1) 0 (rcells (.slice A1 (toks l).1.length n1) (Dc.z (0, 0)) (.slice none 0 0)).toList) := (((But.refl _ W1).alloc _).alloc _).trans (But.sets _ _ _)
    have hPR : PRd ((((W1.alloc (.cells #[.int .i64 0, .int .i64 0, .int .i64 0] 29)).alloc (.cells #[.slice none 0 0, .int .i64 0, .string ⟨#[]⟩, .int .i64 0, .slice none 0 0, .bool false, .string ⟨#[]⟩, .int .i64 0, .int .i64 0, .int .i64 0, .int .i64 0, .int .i64 0, .bool false, .string ⟨#[]⟩, .int .i64 0, .int .i64 0, .int .i64 0, .bool false, .string ⟨#[]⟩, .int .i64 0, .int .i64 0, .int .i64 0, .int .i64 0, .int .i64 0, .int .i64 0] 86))).setCells (W1.heap.size + 1) 0 (rcells (.slice A1 (toks l).1.length n1) (Dc.z (0, 0)) (.slice none 0 0)).toList) (W1.heap.size + 1) (toks l).1 (Dc.z (0, 0)) (.slice none 0 0) := ⟨_, hBR, (Left.of_own HO.out (fun i hi => by have := HO.out.lt hi; omega)).but hBT⟩
    have hB3 : Blk ((((W1.alloc (.cells #[.int .i64 0, .int .i64 0, .int .i64 0] 29)).alloc (.cells #[.slice none 0 0, .int .i64 0, .string ⟨#[]⟩, .int .i64 0, .slice none 0 0, .bool false, .string ⟨#[]⟩, .int .i64 0, .int .i64 0, .int .i64 0, .int .i64 0, .int .i64 0, .bool false, .string ⟨#[]⟩, .int .i64 0, .int .i64 0, .int .i64 0, .bool false, .string ⟨#[]⟩, .int .i64 0, .int .i64 0, .int .i64 0, .int .i64 0, .int .i64 0, .int .i64 0] 86))).setCells (W1.heap.size + 1) 0 (rcells (.slice A1 (toks l).1.length n1) (Dc.z (0, 0)) (.slice none 0 0)).toList) w.heap.size 29 #[.int .i64 0, .int .i64 0, .int .i64 0] := HB1.out.but hBT (by omega)
    have hW3 : Below w.heap.size w ((((W1.alloc (.cells #[.int .i64 0, .int .i64 0, .int .i64 0] 29)).alloc (.cells #[.slice none 0 0, .int .i64 0, .string ⟨#[]⟩, .int .i64 0, .slice none 0 0, .bool false, .string ⟨#[]⟩, .int .i64 0, .int .i64 0, .int .i64 0, .int .i64 0, .int .i64 0, .bool false, .string ⟨#[]⟩, .int .i64 0, .int .i64 0, .int .i64 0, .bool false, .string ⟨#[]⟩, .int .i64 0, .int .i64 0, .int .i64 0, .int .i64 0, .int .i64 0, .int .i64 0] 86))).setCells (W1.heap.size + 1) 0 (rcells (.slice A1 (toks l).1.length n1) (Dc.z (0, 0)) (.slice none 0 0)).toList) := Below.but HW1.out hBT (by omega) (Nat.le_refl _)
    have hsz3 : W1.heap.size + 1 < ((((W1.alloc (.cells #[.int .i64 0, .int .i64 0, .int .i64 0] 29)).alloc (.cells #[.slice none 0 0, .int .i64 0, .string ⟨#[]⟩, .int .i64 0, .slice none 0 0, .bool false, .string ⟨#[]⟩, .int .i64 0, .int .i64 0, .int .i64 0, .int .i64 0, .int .i64 0, .bool false, .string ⟨#[]⟩, .int .i64 0, .int .i64 0, .int .i64 0, .bool false, .string ⟨#[]⟩, .int .i64 0, .int .i64 0, .int .i64 0, .int .i64 0, .int .i64 0, .int .i64 0] 86))).setCells (W1.heap.size + 1) 0 (rcells (.slice A1 (toks l).1.length n1) (Dc.z (0, 0)) (.slice none 0 0)).toList).heap.size := hBR.lt
    have HPR := Lib.hid hPR
    have HB3 := Lib.hid hB3
    have HW3 := Lib.hid hW3
    clear hBR hBT hPR hB3 hW3 HBN HTH HO HB1
    generalize ((((W1.alloc (.cells #[.int .i64 0, .int .i64 0, .int .i64 0] 29)).alloc (.cells #[.slice none 0 0, .int .i64 0, .string ⟨#[]⟩, .int .i64 0, .slice none 0 0, .bool false, .string ⟨#[]⟩, .int .i64 0, .int .i64 0, .int .i64 0, .int .i64 0, .int .i64 0, .bool false, .string ⟨#[]⟩, .int .i64 0, .int .i64 0, .int .i64 0, .bool false, .string ⟨#[]⟩, .int .i64 0, .int .i64 0, .int .i64 0, .int .i64 0, .int .i64 0, .int .i64 0] 86))).setCells (W1.heap.size + 1) 0 (rcells (.slice A1 (toks l).1.length n1) (Dc.z (0, 0)) (.slice none 0 0)).toList) = Wr at *
    have hGR : 0 ≠ W1.heap.size + 1 := by have := HG.out; omega
    refine (pall_any Wr (W1.heap.size + 1) (toks l).1 (Dc.z (0, 0)) (.slice none 0 0) HPR.out (HH.out.low HW3.out) hGR (toks_513 l)).mono ?_
    intro e W3 hq
    unfold AllQ at hq
    generalize hall : allP (toks l).1 = R at *
    obtain ⟨v3, d3, bv3, rfl, hP3, hD3, hB4⟩ := hq
    obtain ⟨b, L3, D3⟩ := R
    have HP3 := Lib.hid hP3
    have HD3 := Lib.hid hD3
    have HB4 := Lib.hid (HB3.out.but hB4 (by omega))
    have HW4 := Lib.hid (Below.but HW3.out hB4 (by omega) (Nat.le_refl _))
    clear hP3 hD3 hB4 HPR HB3 HW3
    cases b with
    | true =>
      have HP := Lib.hid (show parseP l = (D3, none) by simp [parseP, HE.out, hall])
      have u0 := HB4.out.cell 0
      have u1 := HB4.out.cell 1
      have u2 := HB4.out.cell 2
      have f0 := HB4.out.frozen 0
      have f1 := HB4.out.frozen 1
      have f2 := HB4.out.frozen 2
      simp only [List.getElem?_toArray, List.getElem?_cons_zero, List.getElem?_cons_succ] at u0 u1 u2
      have hz4 := HB4.out.lt
      have HBF := Lib.hid (Below.set3 (b := w.heap.size) HW4.out (Nat.le_refl _) (.int .i64 0) (.int .i64 0) (.int .i64 0))
      have HDF := Lib.hid (((HD3.out.but (But.set (r := w.heap.size) W3 0 (.int .i64 0)) (by omega)).but (But.set (r := w.heap.size) _ 1 (.int .i64 0)) (by omega)).but (But.set (r := w.heap.size) _ 2 (.int .i64 0)) (by omega))
      clear hall
      go_wp2_with fail
      refine bodyPost_ret (v := .tuple #[v3, .agg #[.int .i64 0, .int .i64 0, .int .i64 0]]) ?_ rfl ⟨v3, by rw [HP.out]; rfl, by rw [HP.out]; exact HDF.out.le (by omega), HBF.out⟩
      simp [results, Tryz.results25, go_sem, *]
    | false =>
      have HP := Lib.hid (show parseP l = ([], some (31, pPlace L3 (advs (1, 1) l))) by simp [parseP, HE.out, hall])
      clear hall HD3
      have HEN := Lib.hid (end_any (bs l) W3 (by rw [bs_size]; exact HLN.out))
      rw [bs_data] at HEN
      go_wp2_with fail
      refine HEN.out.mono ?_
      rintro e W5 ⟨rfl, hb5⟩
      have HP5 := Lib.hid (HP3.out.far hb5)
      have HB5 := Lib.hid (Blk.thru0 HB4.out hb5)
      have HW5 := Lib.hid (HW4.out.trans (hb5.mono HW4.out.size))
      clear hb5 HEN HP3 HB4 HW4
      go_wp2_with fail
      refine (pplace_any W5 (W1.heap.size + 1) L3 d3 bv3 (advs (1, 1) l) HP5.out).mono ?_
      rintro e W6 ⟨rfl, hb6⟩
      have HB6 := Lib.hid (Blk.thru0 HB5.out hb6)
      have HW6 := Lib.hid (HW5.out.trans (hb6.mono HW5.out.size))
      clear hb6 HP5 HB5 HW5
      have u0 := HB6.out.cell 0
      have u1 := HB6.out.cell 1
      have u2 := HB6.out.cell 2
      have f0 := HB6.out.frozen 0
      have f1 := HB6.out.frozen 1
      have f2 := HB6.out.frozen 2
      simp only [List.getElem?_toArray, List.getElem?_cons_zero, List.getElem?_cons_succ] at u0 u1 u2
      have hz4 := HB6.out.lt
      generalize hpp : pPlace L3 (advs (1, 1) l) = pp at *
      have HBF := Lib.hid (Below.set3 (b := w.heap.size) HW6.out (Nat.le_refl _) (.int .i64 31) (.int .i64 pp.1) (.int .i64 pp.2))
      go_wp2_with fail
      refine bodyPost_ret (v := .tuple #[.slice none 0 0, .agg #[.int .i64 31, .int .i64 pp.1, .int .i64 pp.2]]) ?_ rfl ⟨.slice none 0 0, by rw [HP.out]; rfl, by rw [HP.out]; exact DRow.nil_ _ _, HBF.out⟩
      simp [results, Tryz.results25, go_sem, *]
end Go.Proofs.YtkpmeelbjldcoaaGreatDoor
