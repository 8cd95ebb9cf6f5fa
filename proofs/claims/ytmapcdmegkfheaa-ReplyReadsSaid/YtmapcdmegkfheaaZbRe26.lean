/- reply: read of shapes, by contract. -/
import Derived.Test.YtmapcdmegkfheaaZbRe25
namespace Go.Proofs.Ytmapcdmegkfheaa
set_option linter.unusedVariables false
set_option linter.unusedSimpArgs false
open Go.RowKit
set_option maxRecDepth 100000 in
set_option maxHeartbeats 8000000 in
theorem read_seen {R : Bs} (w : World) (op : Int) (A : Option Addr) (c : Nat) (hop : op = 13 ∨ op = 14 ∨ op = 15 ∨ op = 16) (hl : 3 ≤ R.length) (hl9 : R.length ≤ 1000) (hc : R.length ≤ c) (hm : c ≤ maxLen) (hr : RB w A R.length R) :
    Calls Try.prog 38 #[.int .i64 op, .slice A R.length c] w (ReadP op R w) := by
  obtain ⟨n, hn⟩ : ∃ n, n = R.length := ⟨_, rfl⟩
  rw [← hn]
  obtain ⟨W, hW⟩ : ∃ W, W = (((((w.alloc (.cells #[.int .i64 0, .int .u64 0, .int .i64 0, .int .i64 0, .int .i64 0, .int .i64 0, .int .i64 0, .int .i64 0, .int .i64 0, .int .i64 0, .slice none 0 0, .slice none 0 0] TA)).alloc (.cells #[.int .i64 0, .int .u64 0, .int .i64 0, .int .i64 0, .int .i64 0, .int .i64 0, .int .i64 0, .int .i64 0, .int .i64 0, .int .i64 0, .slice none 0 0, .slice none 0 0] TA)).alloc (.cells #[.int .i64 0] 3)).alloc (.cells #[.int .i64 0] 3)).alloc (.cells #[.slice A n c] TRs)).alloc (.cells #[.pointer (some ⟨w.heap.size + 1, 0, none⟩), .pointer (some ⟨w.heap.size + 1 + 1, 0, none⟩), .pointer (some ⟨w.heap.size + 1 + 1 + 1, 0, none⟩)] 80) := ⟨_, rfl⟩
  have hb0 : Below w.heap.size w W := by rw [hW]; exact ((((((Below.refl _ _).alloc (Nat.le_refl _) _).alloc (by simp) _).alloc (by simp; omega) _).alloc (by simp; omega) _).alloc (by simp; omega) _).alloc (by simp; omega) _
  have K4 : Blk W w.heap.size TA #[.int .i64 0, .int .u64 0, .int .i64 0, .int .i64 0, .int .i64 0, .int .i64 0, .int .i64 0, .int .i64 0, .int .i64 0, .int .i64 0, .slice none 0 0, .slice none 0 0] := by rw [hW]; exact (((((Blk.new w _ _).alloc _).alloc _).alloc _).alloc _).alloc _
  have K5 : Blk W (w.heap.size + 1) TA #[.int .i64 0, .int .u64 0, .int .i64 0, .int .i64 0, .int .i64 0, .int .i64 0, .int .i64 0, .int .i64 0, .int .i64 0, .int .i64 0, .slice none 0 0, .slice none 0 0] := by rw [hW]; exact ((((Blk.newAt (by simp)).alloc _).alloc _).alloc _).alloc _
  have K6 : Blk W (w.heap.size + 1 + 1) 3 #[.int .i64 0] := by rw [hW]; exact (((Blk.newAt (by simp)).alloc _).alloc _).alloc _
  have K7 : Blk W (w.heap.size + 1 + 1 + 1) 3 #[.int .i64 0] := by rw [hW]; exact ((Blk.newAt (by simp)).alloc _).alloc _
  have K8 : Blk W (w.heap.size + 1 + 1 + 1 + 1) TRs #[.slice A R.length c] := by rw [hW, hn]; exact (Blk.newAt (by simp)).alloc _
  have K9 : Blk W (w.heap.size + 1 + 1 + 1 + 1 + 1) 80 #[.pointer (some ⟨w.heap.size + 1, 0, none⟩), .pointer (some ⟨w.heap.size + 1 + 1, 0, none⟩), .pointer (some ⟨w.heap.size + 1 + 1 + 1, 0, none⟩)] := by rw [hW]; exact Blk.newAt (by simp)
  have KR : RS w.heap.size (w.heap.size + 1 + 1 + 1 + 1) R W := ⟨by omega, A, c, K8, hc, hm, Reads.below hr hb0⟩
  have HN0 := Lib.hid (nums_abc W 1 (w.heap.size + 1 + 1 + 1 + 1 + 1) 3 (w.heap.size + 1) (w.heap.size + 1 + 1) (w.heap.size + 1 + 1 + 1) 0 0 0 TA 3 3 #[.int .i64 0, .int .u64 0, .int .i64 0, .int .i64 0, .int .i64 0, .int .i64 0, .int .i64 0, .int .i64 0, .int .i64 0, .int .i64 0, .slice none 0 0, .slice none 0 0] #[.int .i64 0] #[.int .i64 0] (by decide) (by decide) KR K9 (by omega) (by omega) K5 (by omega) (by omega) (by omega) K6 (by omega) (by omega) (by omega) K7 (by omega) (by omega) (by omega) (by omega) (by omega) (by omega) (by simp) (by simp) (by simp))
  have HB0 := Lib.hid hb0
  have HK4 := Lib.hid K4
  have HV0 := Lib.hid (gI0 R 1)
  have HV2 : Hid (gI R 2 1 = ((getB (((R.drop 1).drop 1).take 1) : Nat) : Int)) := Lib.hid (by unfold gI; simp only [List.drop_drop])
  have HL := Lib.hid hl
  have HL9 := Lib.hid hl9
  have hWs := hW.symm
  clear hW hb0 K4 K5 K6 K7 K8 K9 KR hr hc hm hl hl9 hn
  go_enter Try.func38, Try.ntmps38
  go_wp2_with fail
  refine HN0.out.mono ?_
  rintro e w1 ⟨rfl, hrs, hba, hbs, hbi, hnf⟩
  have HRS := Lib.hid hrs
  have HB1 := Lib.hid (hnf.below HB0.out (by simp; omega))
  have H4 := Lib.hid (hnf.blk HK4.out (by simp; omega))
  simp only [List.setIfInBounds_toArray, List.set_cons_zero, List.set_cons_succ] at hba hbs hbi
  rw [← HV0.out] at hba
  rw [← HV2.out] at hbi
  have HA := Lib.hid hba
  have HI := Lib.hid hbi
  have HR3 : Hid (((R.drop 1).drop 1).drop 1 = R.drop 3) := Lib.hid (by simp only [List.drop_drop])
  rw [HR3.out] at HRS
  clear hrs hba hbs hbi hnf hWs HV0 HV2 HR3 HN0
  obtain ⟨it, hit⟩ : ∃ it, it = itemsR R := ⟨_, rfl⟩
  have HIT : Hid (gI R 2 1 = (it : Int)) := Lib.hid (by rw [hit]; unfold itemsR; have := gI_le R 2 1 (by decide); omega)
  rw [HIT.out] at HI
  have HITE := Lib.hid hit
  have hi1000 : it ≤ 1000 := by rw [hit]; have h1 := gI_1 R 2; unfold itemsR; omega
  have HAN : Hid (∀ (A : Option Addr) (n c : Nat), (anR op R A n c none 0 0).cs = #[.int .i64 (gI R 0 1), .int .u64 0, .int .i64 0, .int .i64 0, .int .i64 0, .int .i64 0, .int .i64 0, .int .i64 0, .int .i64 0, .int .i64 0, .slice A n c, .slice none 0 0]) := Lib.hid (by intro A n c; rcases hop with rfl | rfl | rfl | rfl <;> rfl)
  have HSE : Hid (seensR op R = (List.range it).map (sntR R)) := Lib.hid (by unfold seensR; rw [if_pos hop, hit])
  have HEV : Hid (evtsR op R = []) := Lib.hid (by unfold evtsR; rw [if_neg (by omega)])
  clear hit
  have HTY := Lib.hid (show Try.prog.underlying 35 = some (.slice elOS.T) from Try.underlying35)
  have HL0 : Hid (LS elOS w w.heap.size (w.heap.size + 1) (w.heap.size + 1 + 1 + 1 + 1) 10 #[.int .i64 0, .int .u64 0, .int .i64 0, .int .i64 0, .int .i64 0, .int .i64 0, .int .i64 0, .int .i64 0, .int .i64 0, .int .i64 0, .slice none 0 0, .slice none 0 0] #[.int .i64 (gI R 0 1), .int .u64 0, .int .i64 0, .int .i64 0, .int .i64 0, .int .i64 0, .int .i64 0, .int .i64 0, .int .i64 0, .int .i64 0, .slice none 0 0, .slice none 0 0] (R.drop (3 + 11 * 0)) ((List.range 0).map (sntR R)) (.slice none 0 0) w1) := Lib.hid ⟨by omega, by omega, by omega, by omega, by omega, by decide, by decide, HB1.out, HRS.out, HA.out, H4.out, EOwn.nil_ _, fun i hi => by simp [Value.ownBlock] at hi⟩
  have i0 := HI.out.cell 0
  simp only [List.getElem?_toArray, List.getElem?_cons_zero, List.getElem?_cons_succ] at i0
  have HQV : ∀ v : Value, (#[.int .i64 (gI R 0 1), .int .u64 0, .int .i64 0, .int .i64 0, .int .i64 0, .int .i64 0, .int .i64 0, .int .i64 0, .int .i64 0, .int .i64 0, .slice none 0 0, .slice none 0 0]).setIfInBounds 10 v = #[.int .i64 (gI R 0 1), .int .u64 0, .int .i64 0, .int .i64 0, .int .i64 0, .int .i64 0, .int .i64 0, .int .i64 0, .int .i64 0, .int .i64 0, v, .slice none 0 0] := fun v => rfl
  have HQW := Lib.hid HQV
  clear HQV
  generalize gI R 0 1 = st0 at *
  rcases hop with rfl | rfl | rfl | rfl
  all_goals
    go_wp2_with fail
    clear i0
    go_loopw [47] (fun i wr => ∃ (j : Nat) (v : Value), j ≤ it ∧ i = .int .i64 j ∧ Hid (LS elOS w w.heap.size (w.heap.size + 1) (w.heap.size + 1 + 1 + 1 + 1) 10 #[.int .i64 0, .int .u64 0, .int .i64 0, .int .i64 0, .int .i64 0, .int .i64 0, .int .i64 0, .int .i64 0, .int .i64 0, .int .i64 0, .slice none 0 0, .slice none 0 0] #[.int .i64 st0, .int .u64 0, .int .i64 0, .int .i64 0, .int .i64 0, .int .i64 0, .int .i64 0, .int .i64 0, .int .i64 0, .int .i64 0, .slice none 0 0, .slice none 0 0] (R.drop (3 + 11 * j)) ((List.range j).map (sntR R)) v wr)) (fun i _ => it - (intOf i).toNat)
    case atStart => exact ⟨0, _, Nat.zero_le _, rfl, HL0⟩
    case round =>
      rename World => wr
      obtain ⟨j, v, hj, rfl, HS⟩ := hrel
      by_cases hlt : j < it
      · have HRG : Hid ((List.range (j + 1)).map (sntR R) = (List.range j).map (sntR R) ++ [sntR R j]) := Lib.hid (by rw [List.range_succ, List.map_append]; rfl)
        have HLN : Hid (((List.range j).map (sntR R)).length ≤ 1000) := Lib.hid (by rw [List.length_map, List.length_range]; omega)
        have HDR : Hid ((R.drop (3 + 11 * j)).drop 11 = R.drop (3 + 11 * (j + 1))) := Lib.hid (by rw [List.drop_drop]; congr 1)
        have HCT := Lib.hid (fun (X : World) (hX : RS w.heap.size (w.heap.size + 1 + 1 + 1 + 1) (R.drop (3 + 11 * j)) X) => rcut_lo X 11 hX (by decide))
        unfold CutL at HCT
        have HSX : Hid (sntR R j = ⟨gI ((R.drop (3 + 11 * j)).take 11) 0 2, gI ((R.drop (3 + 11 * j)).take 11) 2 1, gI ((R.drop (3 + 11 * j)).take 11) 3 2, gI ((R.drop (3 + 11 * j)).take 11) 5 2, gI ((R.drop (3 + 11 * j)).take 11) 7 2, gI ((R.drop (3 + 11 * j)).take 11) 9 2⟩) := Lib.hid (by unfold sntR; simp only [gI_sub (R := R) (b := 3 + 11 * j) (n := 11) (a := 0) (k := 2) (by decide), gI_sub (R := R) (b := 3 + 11 * j) (n := 11) (a := 2) (k := 1) (by decide), gI_sub (R := R) (b := 3 + 11 * j) (n := 11) (a := 3) (k := 2) (by decide), gI_sub (R := R) (b := 3 + 11 * j) (n := 11) (a := 5) (k := 2) (by decide), gI_sub (R := R) (b := 3 + 11 * j) (n := 11) (a := 7) (k := 2) (by decide), gI_sub (R := R) (b := 3 + 11 * j) (n := 11) (a := 9) (k := 2) (by decide), Nat.add_zero])
        have HTL : Hid (((R.drop (3 + 11 * j)).take 11).length ≤ 11) := Lib.hid (by rw [List.length_take]; omega)
        have hlt2 : (j : Int) < it := by omega
        have HSD := Lib.hid (HS.out.below (below_drawn (Below.refl wr.heap.size wr) 1))
        have t0 := HS.out.ba.cell 10
        rw [HQW.out] at t0
        simp only [List.getElem?_toArray, List.getElem?_cons_zero, List.getElem?_cons_succ] at t0
        generalize hsb : (R.drop (3 + 11 * j)).take 11 = SB at *
        have HSB := Lib.hid hsb
        clear hsb
        generalize sntR R j = x at *
        generalize (List.range j).map (sntR R) = LJ at *
        go_upto_region 20 with fail
        go_region_law (first
          | (go_simp; go_at_call 54; refine (HCT.out _ (by first | exact HSD.out.rs | exact HS.out.rs)).mono ?_; rintro e w8 ⟨A1, rfl, hrd, hrs, u1, hu1⟩; have H8 := Lib.hid (by first | exact HSD.out.cut hu1 hrs | exact HS.out.cut hu1 hrs); have HRD8 := Lib.hid hrd; have HU8 := Lib.hid hu1; have t8 := H8.out.ba.cell 10; rw [HQW.out] at t8; simp only [List.getElem?_toArray, List.getElem?_cons_zero, List.getElem?_cons_succ] at t8; clear hrd hrs hu1)
          | (go_simp; go_at_call 56; refine (rseen_any (R := SB) _ A1 SB.length (Nat.le_refl _) (by have := HTL.out; simp only [maxLen]; omega) H8.out.bel.size (by rw [HU8.out]; exact HRD8.out.setCell (p := ⟨w.heap.size + 1 + 1 + 1 + 1, 0, none⟩) (by simp; omega) _)).mono ?_; rintro e w9 ⟨rfl, hb9⟩; have H9 := Lib.hid (H8.out.below hb9); have t9 := H9.out.ba.cell 10; rw [HQW.out] at t9; simp only [List.getElem?_toArray, List.getElem?_cons_zero, List.getElem?_cons_succ] at t9; have t9b := cell_later ((Below.refl w9.heap.size w9).alloc (Nat.le_refl _) (.cells #[.int .i64 (gI SB 0 2), .int .i64 (gI SB 2 1), .int .i64 (gI SB 3 2), .int .i64 (gI SB 5 2), .int .i64 (gI SB 7 2), .int .i64 (gI SB 9 2)] 59)) t9; clear hb9)
          | (refine step_epush elOS_ok rfl (.tmp 50) (.tmp 53) _ rfl HTY.out v LJ x w9.heap.size 1 (by simp [Act.eval, Act.put]) (by simp [Act.eval, Act.put]) (H9.out.own.below ((Below.refl _ _).alloc (Nat.le_refl _) _)) (fun jj u hu => new_cellT _ _ _ jj (by rw [HSX.out] at hu; simpa [elOS] using hu)) (by have := HLN.out; omega) ?_; intro v2 w7 hA2; have HP := Lib.hid (H9.out.push hA2 (by simp)); obtain ⟨gg, cap2, hv2, -⟩ := hA2; subst hv2; generalize (LJ ++ [x]).length = ln2 at HP ⊢; have q7 := HP.out.1.cell 10; rw [HQW.out] at q7; have f7 := HP.out.1.frozen 10; simp only [List.getElem?_toArray, List.getElem?_cons_zero, List.getElem?_cons_succ] at q7))
        all_goals
          go_wp2_with fail
          go_roundw
          case rel => exact ⟨j + 1, _, by omega, by go_num, Lib.hid (by rw [HRG.out, ← HDR.out]; exact HP.out.2)⟩
          case measure => simp [intOf]; omega
      · obtain rfl : j = it := by omega
        have HOW := Lib.hid HS.out.own
        have HBA := Lib.hid HS.out.ba
        have HBZ := Lib.hid HS.out.bz
        have HBE := Lib.hid HS.out.bel
        have HFAR := Lib.hid HS.out.far
        have HNZ := Lib.hid (own_ne HS.out.own HS.out.bz HS.out.ta)
        obtain ⟨A9, c9, hv9, hl9, hm9⟩ := HOW.out.slice
        have hln : ((List.range j).map (sntR R)).length = j := by rw [List.length_map, List.length_range]
        rw [hln] at hv9
        subst hv9
        rw [HQW.out] at HBA
        clear HS hl9 hm9 hln
        have t0 := HBA.out.cell 0
        have t1 := HBA.out.cell 1
        have t2 := HBA.out.cell 2
        have t3 := HBA.out.cell 3
        have t4 := HBA.out.cell 4
        have t5 := HBA.out.cell 5
        have t6 := HBA.out.cell 6
        have t7 := HBA.out.cell 7
        have t8 := HBA.out.cell 8
        have t9 := HBA.out.cell 9
        have t10 := HBA.out.cell 10
        have t11 := HBA.out.cell 11
        simp only [List.getElem?_toArray, List.getElem?_cons_zero, List.getElem?_cons_succ] at t0 t1 t2 t3 t4 t5 t6 t7 t8 t9 t10 t11
        have s0 := HBZ.out.cell 0
        have s1 := HBZ.out.cell 1
        have s2 := HBZ.out.cell 2
        have s3 := HBZ.out.cell 3
        have s4 := HBZ.out.cell 4
        have s5 := HBZ.out.cell 5
        have s6 := HBZ.out.cell 6
        have s7 := HBZ.out.cell 7
        have s8 := HBZ.out.cell 8
        have s9 := HBZ.out.cell 9
        have s10 := HBZ.out.cell 10
        have s11 := HBZ.out.cell 11
        simp only [List.getElem?_toArray, List.getElem?_cons_zero, List.getElem?_cons_succ] at s0 s1 s2 s3 s4 s5 s6 s7 s8 s9 s10 s11
        have f0 := HBZ.out.frozen 0
        have f1 := HBZ.out.frozen 1
        have f2 := HBZ.out.frozen 2
        have f3 := HBZ.out.frozen 3
        have f4 := HBZ.out.frozen 4
        have f5 := HBZ.out.frozen 5
        have f6 := HBZ.out.frozen 6
        have f7 := HBZ.out.frozen 7
        have f8 := HBZ.out.frozen 8
        have f9 := HBZ.out.frozen 9
        have f10 := HBZ.out.frozen 10
        have f11 := HBZ.out.frozen 11
        have hge : ¬ ((j : Int) < (j : Int)) := by omega
        go_wp2_with fail
        (try simp only [Exit.inBlock, Exit.then])
        refine bodyPost_ret (results_cell_row rfl _ _ _ _ _ _ _ rfl (blk12 HBZ.out _ _ _ _ _ _ _ _ _ _ _ _) rfl rfl (by rfl)) rfl ?_
        have HNF := Lib.hid (fun y0 y1 y2 y3 y4 y5 y6 y7 y8 y9 y10 y11 => nf12 (S := [w.heap.size]) (w := wr) (g := w.heap.size) (by simp) y0 y1 y2 y3 y4 y5 y6 y7 y8 y9 y10 y11)
        refine ⟨(HNF.out _ _ _ _ _ _ _ _ _ _ _ _).below HBE.out (by simp), A9, j, c9, none, 0, 0, ?_, ?_, fun g o h => HFAR.out g (by rw [h]; simp [Value.ownBlock]), fun g o h => (by cases h)⟩
        · rw [HAN.out]
        · rw [HSE.out, HEV.out]
          exact ⟨ERd.of_own elOS_ok (HOW.out.keep fun i hi e => (HNF.out _ _ _ _ _ _ _ _ _ _ _ _).block i (by simp; exact HNZ.out i e)), ERd.of_own elOE_ok (EOwn.nil_ _), by rw [List.length_map, List.length_range]; rfl, rfl, by rw [List.length_map, List.length_range]; omega, by simp⟩
theorem read_any {R : Bs} (w : World) (op : Int) (A : Option Addr) (c : Nat) (h1 : 1 ≤ op) (h2 : op ≤ 19) (hl : 3 + onceN op.toNat ≤ R.length) (hl9 : R.length ≤ 1000) (hc : R.length ≤ c) (hm : c ≤ maxLen) (hr : RB w A R.length R) :
    Calls Try.prog 38 #[.int .i64 op, .slice A R.length c] w (ReadP op R w) := by
  by_cases h4 : op = 4
  · subst h4
    have e1 : onceN (4 : Int).toNat = 8 := rfl
    exact read_mint w 4 A c rfl (by omega) hl9 hc hm hr
  · by_cases h5 : op = 5
    · subst h5
      have e1 : onceN (5 : Int).toNat = 8 := rfl
      exact read_att w 5 A c rfl (by omega) hl9 hc hm hr
    · by_cases h10 : op = 10
      · subst h10
        have e1 : onceN (10 : Int).toNat = 8 := rfl
        exact read_pub w 10 A c rfl (by omega) hl9 hc hm hr
      · by_cases h12 : op = 12
        · subst h12
          have e1 : onceN (12 : Int).toNat = 5 := rfl
          exact read_where w 12 A c rfl (by omega) hl9 hc hm hr
        · by_cases hs : op = 13 ∨ op = 14 ∨ op = 15 ∨ op = 16
          · have e1 : onceN op.toNat = 0 := by rcases hs with rfl | rfl | rfl | rfl <;> rfl
            have e2 : eachN op.toNat = 11 := by rcases hs with rfl | rfl | rfl | rfl <;> rfl
            rw [e1] at hl
            exact read_seen w op A c hs (by omega) hl9 hc hm hr
          · by_cases he : op = 17 ∨ op = 18
            · have e1 : onceN op.toNat = 0 := by rcases he with rfl | rfl <;> rfl
              have e2 : eachN op.toNat = 8 := by rcases he with rfl | rfl <;> rfl
              rw [e1] at hl
              exact read_events w op A c he (by omega) hl9 hc hm hr
            · exact read_else w op A c h4 h5 h10 h12 (by omega) (by omega) (by omega) (by omega) (by omega) (by omega) (by omega) hl9 hc hm hr
end Go.Proofs.Ytmapcdmegkfheaa
