/- TokenPlays: (P16.2, P16.3) whatever is done with a table, step by step it tells what the document says. Conditions: none. -/
import Derived.Test.YteepimmnajnhfaaTo32
namespace Go.Proofs.Yteepimmnajnhfaa.tokenPlays
set_option linter.unusedVariables false
set_option linter.unusedSimpArgs false
open Go.ChangeShapes Go.WideShapes Go.ChangeAt Go.RowKit
open Go.ChangeMaps (open_string shut_string)
set_option maxRecDepth 1000000 in
set_option maxHeartbeats 16000000 in
theorem walkN (u : Value) (O : List Ot) (w : World) (h : ERd elO w u O) (hO : ∀ o ∈ O, o.I) :
    Calls Try.prog 3 #[u] w fun e w' => e = .returned (.bool true) ∧ Below w.heap.size w w' := by
  obtain ⟨A1, c1, rfl, hc1, hc2⟩ := h.shape
  have HL := Lib.hid h
  clear h
  obtain ⟨n, hn⟩ : ∃ n, n = O.length := ⟨_, rfl⟩
  rw [← hn] at HL hc1 ⊢
  have HN := Lib.hid hn; clear hn
  have hmx : n ≤ 9223372036854775807 := by unfold maxLen at hc2; omega
  clear hc1 hc2
  go_enter Try.func3, Try.ntmps3
  go_wp2_with fail
  refine (tnew_any _).mono ?_
  rintro e w1 ⟨rfl, hT1, hb1⟩
  have HS : Hid (ST w w.heap.size (.slice none 0 0) [] (.slice none 0 0) [] w1) := ⟨hb1, hT1, EOwn.nil_ _, Nat.le_refl _, fun i hi => by simp [Value.ownBlock] at hi, fun i hi => by simp [Value.ownBlock] at hi⟩
  clear hT1 hb1
  obtain ⟨y, hy⟩ : ∃ y, w.heap.size = y := ⟨_, rfl⟩
  rw [hy] at HS ⊢
  clear hy
  go_wp2_with fail
  go_loopw [4, 5, 6, 7, 8, 9, 10, 11, 12, 13] (fun hv i _ _ _ _ _ _ _ _ wr => ∃ (j : Nat) (v0 : Value) (L : List Tk) (h0 : Value), j ≤ n ∧ hv = h0 ∧ i = .int .i64 j ∧ Hid (ST w y v0 L h0 L wr) ∧ Hid (TOk L)) (fun _ i _ _ _ _ _ _ _ _ _ => n - (intOf i).toNat)
  case atStart => exact ⟨0, _, [], _, Nat.zero_le _, rfl, rfl, HS.out, TOk.nil⟩
  case round =>
    rename World => wr
    clear HS
    obtain ⟨j, v0, L, h0, hj, hv, rfl, HS, HK⟩ := hrel
    have hv' := hv.symm
    clear hv
    subst hv'
    by_cases hgo : j < n ∧ j < 60
    · obtain ⟨hlt, h60⟩ := hgo
      have hd1 : decide ((j : Int) < (n : Int)) = true := by simp; exact hlt
      have hd2 : decide ((j : Int) < 60) = true := by simp; omega
      have hkl : j < O.length := by rw [← HN.out]; exact hlt
      have hx : O[j]? = some O[j] := List.getElem?_eq_getElem hkl
      have hI := hO _ (List.getElem_mem hkl)
      obtain ⟨g, o, rfl, b0, b1, b2, b3, b4, b5, b6, b7, b8, b9, b10, b11⟩ := (HL.out.below HS.out.bel).twelve hx
      generalize O[j] = x at *
      clear hx
      have hsr := hI.src
      have hdr := hI.draw
      clear hI
      obtain ⟨kd, sr, dr, ⟨g0, g1, g2, g3, g4, g5, g6, g7⟩, nw⟩ := x
      simp only at b0 b1 b2 b3 b4 b5 b6 b7 b8 b9 b10 b11 hsr hdr
      have hlt2 : (j : Int) < n := by omega
      go_upto_region 9 with fail
      have OB0 := Lib.hid (BX.new HS.out 32 #[.int .i64 kd, .int .u64 sr, .int .u64 dr, .int .i64 g0, .int .i64 g1, .int .i64 g2, .int .i64 g3, .int .i64 g4, .int .i64 g5, .bool g6, .int .i64 g7, .int .i64 nw])
      have S0 := Lib.hid (HS.out.below (al (.cells #[.int .i64 kd, .int .u64 sr, .int .u64 dr, .int .i64 g0, .int .i64 g1, .int .i64 g2, .int .i64 g3, .int .i64 g4, .int .i64 g5, .bool g6, .int .i64 g7, .int .i64 nw] 32)))
      clear HS b0 b1 b2 b3 b4 b5 b6 b7 b8 b9 b10 b11
      generalize (wr.alloc (.cells #[.int .i64 kd, .int .u64 sr, .int .u64 dr, .int .i64 g0, .int .i64 g1, .int .i64 g2, .int .i64 g3, .int .i64 g4, .int .i64 g5, .bool g6, .int .i64 g7, .int .i64 nw] 32)) = w2 at *
      generalize wr.heap.size = ob at *
      have HLE := Lib.hid (show L.length ≤ 1000 by have := HK.out.len; omega)
      have HLL := Lib.hid (le_left HK.out.wf nw)
      have HK1 := Lib.hid (HK.out.left nw)
      try (obtain ⟨Ah, ch, rfl, -, -⟩ := S0.out.own.slice)
      have o0 := OB0.out.blk.cell 0
      have o1 := OB0.out.blk.cell 1
      have o2 := OB0.out.blk.cell 2
      have o3 := OB0.out.blk.cell 3
      have o4 := OB0.out.blk.cell 4
      have o5 := OB0.out.blk.cell 5
      have o6 := OB0.out.blk.cell 6
      have o7 := OB0.out.blk.cell 7
      have o8 := OB0.out.blk.cell 8
      have o9 := OB0.out.blk.cell 9
      have o10 := OB0.out.blk.cell 10
      have o11 := OB0.out.blk.cell 11
      simp only [List.getElem?_toArray, List.getElem?_cons_zero, List.getElem?_cons_succ] at o0 o1 o2 o3 o4 o5 o6 o7 o8 o9 o10 o11
      go_wp2_with fail
      refine (left_any _ _ L nw (ERd.of_own elT_ok S0.out.own) HLE.out HK.out.so HK.out.wf).mono ?_
      rintro e w3 ⟨h3, rfl, hF3⟩
      rw [HLL.out] at hF3
      have S1 := Lib.hid (S0.out.have_ hF3)
      have OB1 := Lib.hid (OB0.out.below hF3.bel)
      clear hF3 S0 OB0 o0 o1 o2 o3 o4 o5 o6 o7 o8 o9 o10 o11
      have HMI := Lib.hid (fun W v (h : TB W y v L) => mint_any W y dr v L ⟨g0, g1, g2, g3, g4, g5, g6, g7⟩ nw h HLE.out HK.out.so hdr)
      have HDE := Lib.hid (fun W v (h : TB W y v L) => derive_any W y sr dr v L ⟨g0, g1, g2, g3, g4, g5, g6, g7⟩ nw h HLE.out HK.out.so hdr hsr)
      have HRE := Lib.hid (fun W v (h : TB W y v L) => revoke_any W y sr v L nw h HLE.out HK.out.so hsr)
      have HLI := Lib.hid (fun W v (h : TB W y v L) => live_any W y sr v L nw h HLE.out HK.out.so HK1.out.wf.ord hsr)
      clear HLL
      generalize leftC nw L = L1 at *
      have HLE1 := Lib.hid (show L1.length ≤ 1000 by have := HK1.out.len; omega)
      try (obtain ⟨Ai, ci, rfl, -, -⟩ := S1.out.own.slice)
      have HFI := Lib.hid (rfindT_any w3 _ L1 sr (ERd.of_own elT_ok S1.out.own) (by have := HLE1.out; omega) hsr)
      obtain ⟨q, hq⟩ : ∃ q, rfG L1 sr = q := ⟨_, rfl⟩
      obtain ⟨b, hb⟩ : ∃ b, rfB L1 sr = b := ⟨_, rfl⟩
      rw [hq, hb] at HFI
      have HQ := Lib.hid hq
      have HBB := Lib.hid hb
      clear hq hb
      obtain ⟨xs, xp, ⟨h0, h1, h2, h3, h4, h5, h6, h7⟩⟩ := q
      simp only [Tk.V] at HFI
      have o0 := OB1.out.blk.cell 0
      have o1 := OB1.out.blk.cell 1
      have o2 := OB1.out.blk.cell 2
      have o3 := OB1.out.blk.cell 3
      have o4 := OB1.out.blk.cell 4
      have o5 := OB1.out.blk.cell 5
      have o6 := OB1.out.blk.cell 6
      have o7 := OB1.out.blk.cell 7
      have o8 := OB1.out.blk.cell 8
      have o9 := OB1.out.blk.cell 9
      have o10 := OB1.out.blk.cell 10
      have o11 := OB1.out.blk.cell 11
      simp only [List.getElem?_toArray, List.getElem?_cons_zero, List.getElem?_cons_succ] at o0 o1 o2 o3 o4 o5 o6 o7 o8 o9 o10 o11
      go_wp2_with fail
      refine HFI.out.mono ?_
      rintro e w4 ⟨rfl, hb4⟩
      have S2 := Lib.hid (S1.out.below hb4)
      have OB2 := Lib.hid (OB1.out.below hb4)
      clear hb4 S1 OB1 HFI o0 o1 o2 o3 o4 o5 o6 o7 o8 o9 o10 o11
      go_upto_region 11 with fail
      have KB := Lib.hid (BX.new S2.out 35 #[.int .u64 xs, .int .u64 xp, .int .i64 h0, .int .i64 h1, .int .i64 h2, .int .i64 h3, .int .i64 h4, .int .i64 h5, .bool h6, .int .i64 h7])
      have SA := Lib.hid (S2.out.below (al (.cells #[.int .u64 xs, .int .u64 xp, .int .i64 h0, .int .i64 h1, .int .i64 h2, .int .i64 h3, .int .i64 h4, .int .i64 h5, .bool h6, .int .i64 h7] 35)))
      have OB := Lib.hid (OB2.out.below (al (.cells #[.int .u64 xs, .int .u64 xp, .int .i64 h0, .int .i64 h1, .int .i64 h2, .int .i64 h3, .int .i64 h4, .int .i64 h5, .bool h6, .int .i64 h7] 35)))
      clear S2 OB2
      generalize (w4.alloc (.cells #[.int .u64 xs, .int .u64 xp, .int .i64 h0, .int .i64 h1, .int .i64 h2, .int .i64 h3, .int .i64 h4, .int .i64 h5, .bool h6, .int .i64 h7] 35)) = w5 at *
      generalize w4.heap.size = kb at *
      by_cases hk0 : kd = 0
      · have hke : (kd == 0) = true := by simpa using hk0
        clear hk0 KB
        have o0 := OB.out.blk.cell 0
        have o1 := OB.out.blk.cell 1
        have o2 := OB.out.blk.cell 2
        have o3 := OB.out.blk.cell 3
        have o4 := OB.out.blk.cell 4
        have o5 := OB.out.blk.cell 5
        have o6 := OB.out.blk.cell 6
        have o7 := OB.out.blk.cell 7
        have o8 := OB.out.blk.cell 8
        have o9 := OB.out.blk.cell 9
        have o10 := OB.out.blk.cell 10
        have o11 := OB.out.blk.cell 11
        simp only [List.getElem?_toArray, List.getElem?_cons_zero, List.getElem?_cons_succ] at o0 o1 o2 o3 o4 o5 o6 o7 o8 o9 o10 o11
        go_wp2_with fail
        refine (HMI.out _ _ SA.out.tb).mono ?_
        rintro e w6 ⟨v6, rfl, hT6⟩
        have SZ := Lib.hid (SA.out.table hT6)
        have OZ := Lib.hid (OB.out.table hT6)
        have HK2 : Hid (TOk (putL L1 ⟨dr, 0, ⟨g0, g1, g2, g3, g4, g5, g6, g7⟩⟩)) := HK1.out.mint dr ⟨g0, g1, g2, g3, g4, g5, g6, g7⟩ hdr
        clear hT6 SA OB o0 o1 o2 o3 o4 o5 o6 o7 o8 o9 o10 o11
        try (obtain ⟨Af, cf, rfl, -, -⟩ := SZ.out.own.slice)
        have o0 := OZ.out.blk.cell 0
        have o1 := OZ.out.blk.cell 1
        have o2 := OZ.out.blk.cell 2
        have o3 := OZ.out.blk.cell 3
        have o4 := OZ.out.blk.cell 4
        have o5 := OZ.out.blk.cell 5
        have o6 := OZ.out.blk.cell 6
        have o7 := OZ.out.blk.cell 7
        have o8 := OZ.out.blk.cell 8
        have o9 := OZ.out.blk.cell 9
        have o10 := OZ.out.blk.cell 10
        have o11 := OZ.out.blk.cell 11
        simp only [List.getElem?_toArray, List.getElem?_cons_zero, List.getElem?_cons_succ] at o0 o1 o2 o3 o4 o5 o6 o7 o8 o9 o10 o11
        go_wp2_with fail
        refine (make_any _ _ L1 0 dr ⟨g0, g1, g2, g3, g4, g5, g6, g7⟩ (ERd.of_own elT_ok SZ.out.own) HLE1.out hdr).mono ?_
        rintro e w7 ⟨v7, rfl, hM⟩
        have SOZ : Hid (ST w y v6 (putL L1 ⟨dr, 0, ⟨g0, g1, g2, g3, g4, g5, g6, g7⟩⟩) v7 (putL L1 ⟨dr, 0, ⟨g0, g1, g2, g3, g4, g5, g6, g7⟩⟩) w7 ∧ BX y v6 ob 32 #[.int .i64 kd, .int .u64 sr, .int .u64 dr, .int .i64 g0, .int .i64 g1, .int .i64 g2, .int .i64 g3, .int .i64 g4, .int .i64 g5, .bool g6, .int .i64 g7, .int .i64 nw] w7) := by
          rcases hM with ⟨h1, rfl, h2⟩ | ⟨h1, h2⟩
          · have e1 : putL L1 ⟨dr, 0, ⟨g0, g1, g2, g3, g4, g5, g6, g7⟩⟩ = L1 := by rw [putL, if_neg h1]
            have s1 := SZ.out.below h2
            rw [e1] at s1 ⊢
            exact ⟨s1, OZ.out.below h2⟩
          · have e1 : putL L1 ⟨dr, 0, ⟨g0, g1, g2, g3, g4, g5, g6, g7⟩⟩ = L1 ++ [⟨dr, 0, ⟨g0, g1, g2, g3, g4, g5, g6, g7⟩⟩] := by rw [putL, if_pos h1]
            have s1 := SZ.out.have_ h2
            rw [e1] at s1 ⊢
            exact ⟨s1, OZ.out.below h2.bel⟩
        have SA := Lib.hid SOZ.out.1
        have OB := Lib.hid SOZ.out.2
        clear hM SZ OZ SOZ o0 o1 o2 o3 o4 o5 o6 o7 o8 o9 o10 o11
        generalize putE L1 ⟨dr, 0, ⟨g0, g1, g2, g3, g4, g5, g6, g7⟩⟩ = EE at *
        generalize putL L1 ⟨dr, 0, ⟨g0, g1, g2, g3, g4, g5, g6, g7⟩⟩ = L2 at *
        have hee : (EE != EE) = false := by simp
        have HLL2 := Lib.hid (le_left HK2.out.wf nw)
        have HLA2 := Lib.hid (left_again HK2.out.wf nw)
        have HK3 := Lib.hid (HK2.out.left nw)
        have HLE2 := Lib.hid (show L2.length ≤ 1000 by have := HK2.out.len; omega)
        obtain ⟨L3, hL3⟩ : ∃ L3, leftC nw L2 = L3 := ⟨_, rfl⟩
        rw [hL3] at HLL2 HLA2 HK3
        have HL3 := Lib.hid hL3
        clear hL3
        have HLE3 := Lib.hid (show L3.length ≤ 1000 by have := HK3.out.len; omega)
        try (obtain ⟨Ah, ch, rfl, -, -⟩ := SA.out.own.slice)
        have o0 := OB.out.blk.cell 0
        have o1 := OB.out.blk.cell 1
        have o2 := OB.out.blk.cell 2
        have o3 := OB.out.blk.cell 3
        have o4 := OB.out.blk.cell 4
        have o5 := OB.out.blk.cell 5
        have o6 := OB.out.blk.cell 6
        have o7 := OB.out.blk.cell 7
        have o8 := OB.out.blk.cell 8
        have o9 := OB.out.blk.cell 9
        have o10 := OB.out.blk.cell 10
        have o11 := OB.out.blk.cell 11
        simp only [List.getElem?_toArray, List.getElem?_cons_zero, List.getElem?_cons_succ] at o0 o1 o2 o3 o4 o5 o6 o7 o8 o9 o10 o11
        go_wp2_with fail
        refine (left_any _ _ L2 nw (ERd.of_own elT_ok SA.out.own) HLE2.out HK2.out.so HK2.out.wf).mono ?_
        rintro e wa ⟨ra, rfl, hFa⟩
        rw [HLL2.out] at hFa
        have SB := Lib.hid (SA.out.have_ hFa)
        have OC := Lib.hid (OB.out.below hFa.bel)
        clear hFa SA OB o0 o1 o2 o3 o4 o5 o6 o7 o8 o9 o10 o11
        try (obtain ⟨Ai, ci, rfl, -, -⟩ := SB.out.own.slice)
        have o0 := OC.out.blk.cell 0
        have o1 := OC.out.blk.cell 1
        have o2 := OC.out.blk.cell 2
        have o3 := OC.out.blk.cell 3
        have o4 := OC.out.blk.cell 4
        have o5 := OC.out.blk.cell 5
        have o6 := OC.out.blk.cell 6
        have o7 := OC.out.blk.cell 7
        have o8 := OC.out.blk.cell 8
        have o9 := OC.out.blk.cell 9
        have o10 := OC.out.blk.cell 10
        have o11 := OC.out.blk.cell 11
        simp only [List.getElem?_toArray, List.getElem?_cons_zero, List.getElem?_cons_succ] at o0 o1 o2 o3 o4 o5 o6 o7 o8 o9 o10 o11
        go_wp2_with fail
        refine (tickets_any _ y _ L2 nw SB.out.tb HLE2.out HK2.out.so).mono ?_
        rintro e wb ⟨vb, rb, rfl, hTb, hRb, hFb⟩
        rw [HL3.out] at hTb hRb
        have SC := Lib.hid (SB.out.table hTb)
        have OD := Lib.hid (OC.out.table hTb)
        have RB := Lib.hid hRb
        clear hTb hRb hFb SB OC o0 o1 o2 o3 o4 o5 o6 o7 o8 o9 o10 o11
        obtain ⟨Aj, cj, rfl, -, -⟩ := RB.out.slice
        have o0 := OD.out.blk.cell 0
        have o1 := OD.out.blk.cell 1
        have o2 := OD.out.blk.cell 2
        have o3 := OD.out.blk.cell 3
        have o4 := OD.out.blk.cell 4
        have o5 := OD.out.blk.cell 5
        have o6 := OD.out.blk.cell 6
        have o7 := OD.out.blk.cell 7
        have o8 := OD.out.blk.cell 8
        have o9 := OD.out.blk.cell 9
        have o10 := OD.out.blk.cell 10
        have o11 := OD.out.blk.cell 11
        simp only [List.getElem?_toArray, List.getElem?_cons_zero, List.getElem?_cons_succ] at o0 o1 o2 o3 o4 o5 o6 o7 o8 o9 o10 o11
        go_wp2_with fail
        refine (rsameT_any _ _ _ L3 (ERd.of_own elT_ok RB.out) (ERd.of_own elT_ok SC.out.own) (by have := HLE3.out; omega)).mono ?_
        rintro e wc ⟨rfl, qc, hqc⟩
        have hbc : Below wb.heap.size wb wc := by subst hqc; exact below_drawn (Below.refl _ _) qc
        have SD := Lib.hid (SC.out.below hbc)
        have OE := Lib.hid (OD.out.below hbc)
        clear hbc hqc SC OD RB o0 o1 o2 o3 o4 o5 o6 o7 o8 o9 o10 o11
        have o0 := OE.out.blk.cell 0
        have o1 := OE.out.blk.cell 1
        have o2 := OE.out.blk.cell 2
        have o3 := OE.out.blk.cell 3
        have o4 := OE.out.blk.cell 4
        have o5 := OE.out.blk.cell 5
        have o6 := OE.out.blk.cell 6
        have o7 := OE.out.blk.cell 7
        have o8 := OE.out.blk.cell 8
        have o9 := OE.out.blk.cell 9
        have o10 := OE.out.blk.cell 10
        have o11 := OE.out.blk.cell 11
        simp only [List.getElem?_toArray, List.getElem?_cons_zero, List.getElem?_cons_succ] at o0 o1 o2 o3 o4 o5 o6 o7 o8 o9 o10 o11
        go_wp2_with fail
        refine (len_any _ y vb L3 nw SD.out.tb HLE3.out HK3.out.so).mono ?_
        rintro e wd ⟨vd, rfl, hTd⟩
        rw [HLA2.out] at hTd ⊢
        have SE := Lib.hid (SD.out.table hTd)
        clear hTd SD OE o0 o1 o2 o3 o4 o5 o6 o7 o8 o9 o10 o11
        go_wp2
        go_roundw
        case rel => exact ⟨j + 1, vd, L3, _, by omega, rfl, by go_num, SE, HK3⟩
        case measure => simp [intOf]; omega

      · have hke : (kd == 0) = false := by simpa using hk0
        by_cases hk1 : kd = 1
        · have hke1 : (kd == 1) = true := by simpa using hk1
          clear hk1 hk0 KB
          have o0 := OB.out.blk.cell 0
          have o1 := OB.out.blk.cell 1
          have o2 := OB.out.blk.cell 2
          have o3 := OB.out.blk.cell 3
          have o4 := OB.out.blk.cell 4
          have o5 := OB.out.blk.cell 5
          have o6 := OB.out.blk.cell 6
          have o7 := OB.out.blk.cell 7
          have o8 := OB.out.blk.cell 8
          have o9 := OB.out.blk.cell 9
          have o10 := OB.out.blk.cell 10
          have o11 := OB.out.blk.cell 11
          simp only [List.getElem?_toArray, List.getElem?_cons_zero, List.getElem?_cons_succ] at o0 o1 o2 o3 o4 o5 o6 o7 o8 o9 o10 o11
          have HOE := Lib.hid (HK1.out.derive sr dr ⟨g0, g1, g2, g3, g4, g5, g6, g7⟩ hsr hdr)
          go_wp2_with fail
          refine (HDE.out _ _ SA.out.tb).mono ?_
          rintro e w6 ⟨v6, rfl, hT6⟩
          have SZ := Lib.hid (SA.out.table hT6)
          have OZ := Lib.hid (OB.out.table hT6)
          clear hT6 SA OB o0 o1 o2 o3 o4 o5 o6 o7 o8 o9 o10 o11
          cases b with
          | false =>
            have HE := Lib.hid (show derE L1 sr dr ⟨g0, g1, g2, g3, g4, g5, g6, g7⟩ = 21 from if_pos (by have h9 := HBB.out; rw [rfB] at h9; simpa using h9))
            have HD := Lib.hid (show derL L1 sr dr ⟨g0, g1, g2, g3, g4, g5, g6, g7⟩ = L1 from if_pos (by have h9 := HBB.out; rw [rfB] at h9; simpa using h9))
            rw [HE.out]
            have SA := Lib.hid (show ST w y v6 L1 _ L1 w6 by have h9 := SZ.out; rw [HD.out] at h9; exact h9)
            have OB := Lib.hid OZ.out
            clear SZ OZ HE HD HOE
            have HK2 := Lib.hid HK1.out
            clear HK1 HMI HDE HRE HLI
            generalize L1 = L2 at *
            have HLL2 := Lib.hid (le_left HK2.out.wf nw)
            have HLA2 := Lib.hid (left_again HK2.out.wf nw)
            have HK3 := Lib.hid (HK2.out.left nw)
            have HLE2 := Lib.hid (show L2.length ≤ 1000 by have := HK2.out.len; omega)
            obtain ⟨L3, hL3⟩ : ∃ L3, leftC nw L2 = L3 := ⟨_, rfl⟩
            rw [hL3] at HLL2 HLA2 HK3
            have HL3 := Lib.hid hL3
            clear hL3
            have HLE3 := Lib.hid (show L3.length ≤ 1000 by have := HK3.out.len; omega)
            try (obtain ⟨Ah, ch, rfl, -, -⟩ := SA.out.own.slice)
            have o0 := OB.out.blk.cell 0
            have o1 := OB.out.blk.cell 1
            have o2 := OB.out.blk.cell 2
            have o3 := OB.out.blk.cell 3
            have o4 := OB.out.blk.cell 4
            have o5 := OB.out.blk.cell 5
            have o6 := OB.out.blk.cell 6
            have o7 := OB.out.blk.cell 7
            have o8 := OB.out.blk.cell 8
            have o9 := OB.out.blk.cell 9
            have o10 := OB.out.blk.cell 10
            have o11 := OB.out.blk.cell 11
            simp only [List.getElem?_toArray, List.getElem?_cons_zero, List.getElem?_cons_succ] at o0 o1 o2 o3 o4 o5 o6 o7 o8 o9 o10 o11
            go_wp2_with fail
            refine (left_any _ _ L2 nw (ERd.of_own elT_ok SA.out.own) HLE2.out HK2.out.so HK2.out.wf).mono ?_
            rintro e wa ⟨ra, rfl, hFa⟩
            rw [HLL2.out] at hFa
            have SB := Lib.hid (SA.out.have_ hFa)
            have OC := Lib.hid (OB.out.below hFa.bel)
            clear hFa SA OB o0 o1 o2 o3 o4 o5 o6 o7 o8 o9 o10 o11
            try (obtain ⟨Ai, ci, rfl, -, -⟩ := SB.out.own.slice)
            have o0 := OC.out.blk.cell 0
            have o1 := OC.out.blk.cell 1
            have o2 := OC.out.blk.cell 2
            have o3 := OC.out.blk.cell 3
            have o4 := OC.out.blk.cell 4
            have o5 := OC.out.blk.cell 5
            have o6 := OC.out.blk.cell 6
            have o7 := OC.out.blk.cell 7
            have o8 := OC.out.blk.cell 8
            have o9 := OC.out.blk.cell 9
            have o10 := OC.out.blk.cell 10
            have o11 := OC.out.blk.cell 11
            simp only [List.getElem?_toArray, List.getElem?_cons_zero, List.getElem?_cons_succ] at o0 o1 o2 o3 o4 o5 o6 o7 o8 o9 o10 o11
            go_wp2_with fail
            refine (tickets_any _ y _ L2 nw SB.out.tb HLE2.out HK2.out.so).mono ?_
            rintro e wb ⟨vb, rb, rfl, hTb, hRb, hFb⟩
            rw [HL3.out] at hTb hRb
            have SC := Lib.hid (SB.out.table hTb)
            have OD := Lib.hid (OC.out.table hTb)
            have RB := Lib.hid hRb
            clear hTb hRb hFb SB OC o0 o1 o2 o3 o4 o5 o6 o7 o8 o9 o10 o11
            obtain ⟨Aj, cj, rfl, -, -⟩ := RB.out.slice
            have o0 := OD.out.blk.cell 0
            have o1 := OD.out.blk.cell 1
            have o2 := OD.out.blk.cell 2
            have o3 := OD.out.blk.cell 3
            have o4 := OD.out.blk.cell 4
            have o5 := OD.out.blk.cell 5
            have o6 := OD.out.blk.cell 6
            have o7 := OD.out.blk.cell 7
            have o8 := OD.out.blk.cell 8
            have o9 := OD.out.blk.cell 9
            have o10 := OD.out.blk.cell 10
            have o11 := OD.out.blk.cell 11
            simp only [List.getElem?_toArray, List.getElem?_cons_zero, List.getElem?_cons_succ] at o0 o1 o2 o3 o4 o5 o6 o7 o8 o9 o10 o11
            go_wp2_with fail
            refine (rsameT_any _ _ _ L3 (ERd.of_own elT_ok RB.out) (ERd.of_own elT_ok SC.out.own) (by have := HLE3.out; omega)).mono ?_
            rintro e wc ⟨rfl, qc, hqc⟩
            have hbc : Below wb.heap.size wb wc := by subst hqc; exact below_drawn (Below.refl _ _) qc
            have SD := Lib.hid (SC.out.below hbc)
            have OE := Lib.hid (OD.out.below hbc)
            clear hbc hqc SC OD RB o0 o1 o2 o3 o4 o5 o6 o7 o8 o9 o10 o11
            have o0 := OE.out.blk.cell 0
            have o1 := OE.out.blk.cell 1
            have o2 := OE.out.blk.cell 2
            have o3 := OE.out.blk.cell 3
            have o4 := OE.out.blk.cell 4
            have o5 := OE.out.blk.cell 5
            have o6 := OE.out.blk.cell 6
            have o7 := OE.out.blk.cell 7
            have o8 := OE.out.blk.cell 8
            have o9 := OE.out.blk.cell 9
            have o10 := OE.out.blk.cell 10
            have o11 := OE.out.blk.cell 11
            simp only [List.getElem?_toArray, List.getElem?_cons_zero, List.getElem?_cons_succ] at o0 o1 o2 o3 o4 o5 o6 o7 o8 o9 o10 o11
            go_wp2_with fail
            refine (len_any _ y vb L3 nw SD.out.tb HLE3.out HK3.out.so).mono ?_
            rintro e wd ⟨vd, rfl, hTd⟩
            rw [HLA2.out] at hTd ⊢
            have SE := Lib.hid (SD.out.table hTd)
            clear hTd SD OE o0 o1 o2 o3 o4 o5 o6 o7 o8 o9 o10 o11
            go_wp2
            go_roundw
            case rel => exact ⟨j + 1, vd, L3, _, by omega, rfl, by go_num, SE, HK3⟩
            case measure => simp [intOf]; omega
          | true =>
            have HE := Lib.hid (show derE L1 sr dr ⟨g0, g1, g2, g3, g4, g5, g6, g7⟩ = putE L1 ⟨dr, sr, ⟨g0, g1, g2, g3, g4, g5, g6, g7⟩⟩ from if_neg (by have h9 := HBB.out; rw [rfB] at h9; simpa using h9))
            have HD := Lib.hid (show derL L1 sr dr ⟨g0, g1, g2, g3, g4, g5, g6, g7⟩ = putL L1 ⟨dr, sr, ⟨g0, g1, g2, g3, g4, g5, g6, g7⟩⟩ from if_neg (by have h9 := HBB.out; rw [rfB] at h9; simpa using h9))
            rw [HE.out]
            have HK2 : Hid (TOk (putL L1 ⟨dr, sr, ⟨g0, g1, g2, g3, g4, g5, g6, g7⟩⟩)) := by unfold Hid; rw [← HD.out]; exact HOE.out
            have SZ2 := Lib.hid (show ST w y v6 (putL L1 ⟨dr, sr, ⟨g0, g1, g2, g3, g4, g5, g6, g7⟩⟩) _ L1 w6 by have h9 := SZ.out; rw [HD.out] at h9; exact h9)
            clear SZ HE HD HOE
            have SZ := Lib.hid SZ2.out
            clear SZ2
            try (obtain ⟨Af, cf, rfl, -, -⟩ := SZ.out.own.slice)
            have o0 := OZ.out.blk.cell 0
            have o1 := OZ.out.blk.cell 1
            have o2 := OZ.out.blk.cell 2
            have o3 := OZ.out.blk.cell 3
            have o4 := OZ.out.blk.cell 4
            have o5 := OZ.out.blk.cell 5
            have o6 := OZ.out.blk.cell 6
            have o7 := OZ.out.blk.cell 7
            have o8 := OZ.out.blk.cell 8
            have o9 := OZ.out.blk.cell 9
            have o10 := OZ.out.blk.cell 10
            have o11 := OZ.out.blk.cell 11
            simp only [List.getElem?_toArray, List.getElem?_cons_zero, List.getElem?_cons_succ] at o0 o1 o2 o3 o4 o5 o6 o7 o8 o9 o10 o11
            go_wp2_with fail
            refine (make_any _ _ L1 sr dr ⟨g0, g1, g2, g3, g4, g5, g6, g7⟩ (ERd.of_own elT_ok SZ.out.own) HLE1.out hdr).mono ?_
            rintro e w7 ⟨v7, rfl, hM⟩
            have SOZ : Hid (ST w y v6 (putL L1 ⟨dr, sr, ⟨g0, g1, g2, g3, g4, g5, g6, g7⟩⟩) v7 (putL L1 ⟨dr, sr, ⟨g0, g1, g2, g3, g4, g5, g6, g7⟩⟩) w7 ∧ BX y v6 ob 32 #[.int .i64 kd, .int .u64 sr, .int .u64 dr, .int .i64 g0, .int .i64 g1, .int .i64 g2, .int .i64 g3, .int .i64 g4, .int .i64 g5, .bool g6, .int .i64 g7, .int .i64 nw] w7) := by
              rcases hM with ⟨h1, rfl, h2⟩ | ⟨h1, h2⟩
              · have e1 : putL L1 ⟨dr, sr, ⟨g0, g1, g2, g3, g4, g5, g6, g7⟩⟩ = L1 := by rw [putL, if_neg h1]
                have s1 := SZ.out.below h2
                rw [e1] at s1 ⊢
                exact ⟨s1, OZ.out.below h2⟩
              · have e1 : putL L1 ⟨dr, sr, ⟨g0, g1, g2, g3, g4, g5, g6, g7⟩⟩ = L1 ++ [⟨dr, sr, ⟨g0, g1, g2, g3, g4, g5, g6, g7⟩⟩] := by rw [putL, if_pos h1]
                have s1 := SZ.out.have_ h2
                rw [e1] at s1 ⊢
                exact ⟨s1, OZ.out.below h2.bel⟩
            have SA := Lib.hid SOZ.out.1
            have OB := Lib.hid SOZ.out.2
            clear hM SZ OZ SOZ o0 o1 o2 o3 o4 o5 o6 o7 o8 o9 o10 o11
            generalize putE L1 ⟨dr, sr, ⟨g0, g1, g2, g3, g4, g5, g6, g7⟩⟩ = EE at *
            generalize putL L1 ⟨dr, sr, ⟨g0, g1, g2, g3, g4, g5, g6, g7⟩⟩ = L2 at *
            have hee : (EE != EE) = false := by simp
            have HLL2 := Lib.hid (le_left HK2.out.wf nw)
            have HLA2 := Lib.hid (left_again HK2.out.wf nw)
            have HK3 := Lib.hid (HK2.out.left nw)
            have HLE2 := Lib.hid (show L2.length ≤ 1000 by have := HK2.out.len; omega)
            obtain ⟨L3, hL3⟩ : ∃ L3, leftC nw L2 = L3 := ⟨_, rfl⟩
            rw [hL3] at HLL2 HLA2 HK3
            have HL3 := Lib.hid hL3
            clear hL3
            have HLE3 := Lib.hid (show L3.length ≤ 1000 by have := HK3.out.len; omega)
            try (obtain ⟨Ah, ch, rfl, -, -⟩ := SA.out.own.slice)
            have o0 := OB.out.blk.cell 0
            have o1 := OB.out.blk.cell 1
            have o2 := OB.out.blk.cell 2
            have o3 := OB.out.blk.cell 3
            have o4 := OB.out.blk.cell 4
            have o5 := OB.out.blk.cell 5
            have o6 := OB.out.blk.cell 6
            have o7 := OB.out.blk.cell 7
            have o8 := OB.out.blk.cell 8
            have o9 := OB.out.blk.cell 9
            have o10 := OB.out.blk.cell 10
            have o11 := OB.out.blk.cell 11
            simp only [List.getElem?_toArray, List.getElem?_cons_zero, List.getElem?_cons_succ] at o0 o1 o2 o3 o4 o5 o6 o7 o8 o9 o10 o11
            go_wp2_with fail
            refine (left_any _ _ L2 nw (ERd.of_own elT_ok SA.out.own) HLE2.out HK2.out.so HK2.out.wf).mono ?_
            rintro e wa ⟨ra, rfl, hFa⟩
            rw [HLL2.out] at hFa
            have SB := Lib.hid (SA.out.have_ hFa)
            have OC := Lib.hid (OB.out.below hFa.bel)
            clear hFa SA OB o0 o1 o2 o3 o4 o5 o6 o7 o8 o9 o10 o11
            try (obtain ⟨Ai, ci, rfl, -, -⟩ := SB.out.own.slice)
            have o0 := OC.out.blk.cell 0
            have o1 := OC.out.blk.cell 1
            have o2 := OC.out.blk.cell 2
            have o3 := OC.out.blk.cell 3
            have o4 := OC.out.blk.cell 4
            have o5 := OC.out.blk.cell 5
            have o6 := OC.out.blk.cell 6
            have o7 := OC.out.blk.cell 7
            have o8 := OC.out.blk.cell 8
            have o9 := OC.out.blk.cell 9
            have o10 := OC.out.blk.cell 10
            have o11 := OC.out.blk.cell 11
            simp only [List.getElem?_toArray, List.getElem?_cons_zero, List.getElem?_cons_succ] at o0 o1 o2 o3 o4 o5 o6 o7 o8 o9 o10 o11
            go_wp2_with fail
            refine (tickets_any _ y _ L2 nw SB.out.tb HLE2.out HK2.out.so).mono ?_
            rintro e wb ⟨vb, rb, rfl, hTb, hRb, hFb⟩
            rw [HL3.out] at hTb hRb
            have SC := Lib.hid (SB.out.table hTb)
            have OD := Lib.hid (OC.out.table hTb)
            have RB := Lib.hid hRb
            clear hTb hRb hFb SB OC o0 o1 o2 o3 o4 o5 o6 o7 o8 o9 o10 o11
            obtain ⟨Aj, cj, rfl, -, -⟩ := RB.out.slice
            have o0 := OD.out.blk.cell 0
            have o1 := OD.out.blk.cell 1
            have o2 := OD.out.blk.cell 2
            have o3 := OD.out.blk.cell 3
            have o4 := OD.out.blk.cell 4
            have o5 := OD.out.blk.cell 5
            have o6 := OD.out.blk.cell 6
            have o7 := OD.out.blk.cell 7
            have o8 := OD.out.blk.cell 8
            have o9 := OD.out.blk.cell 9
            have o10 := OD.out.blk.cell 10
            have o11 := OD.out.blk.cell 11
            simp only [List.getElem?_toArray, List.getElem?_cons_zero, List.getElem?_cons_succ] at o0 o1 o2 o3 o4 o5 o6 o7 o8 o9 o10 o11
            go_wp2_with fail
            refine (rsameT_any _ _ _ L3 (ERd.of_own elT_ok RB.out) (ERd.of_own elT_ok SC.out.own) (by have := HLE3.out; omega)).mono ?_
            rintro e wc ⟨rfl, qc, hqc⟩
            have hbc : Below wb.heap.size wb wc := by subst hqc; exact below_drawn (Below.refl _ _) qc
            have SD := Lib.hid (SC.out.below hbc)
            have OE := Lib.hid (OD.out.below hbc)
            clear hbc hqc SC OD RB o0 o1 o2 o3 o4 o5 o6 o7 o8 o9 o10 o11
            have o0 := OE.out.blk.cell 0
            have o1 := OE.out.blk.cell 1
            have o2 := OE.out.blk.cell 2
            have o3 := OE.out.blk.cell 3
            have o4 := OE.out.blk.cell 4
            have o5 := OE.out.blk.cell 5
            have o6 := OE.out.blk.cell 6
            have o7 := OE.out.blk.cell 7
            have o8 := OE.out.blk.cell 8
            have o9 := OE.out.blk.cell 9
            have o10 := OE.out.blk.cell 10
            have o11 := OE.out.blk.cell 11
            simp only [List.getElem?_toArray, List.getElem?_cons_zero, List.getElem?_cons_succ] at o0 o1 o2 o3 o4 o5 o6 o7 o8 o9 o10 o11
            go_wp2_with fail
            refine (len_any _ y vb L3 nw SD.out.tb HLE3.out HK3.out.so).mono ?_
            rintro e wd ⟨vd, rfl, hTd⟩
            rw [HLA2.out] at hTd ⊢
            have SE := Lib.hid (SD.out.table hTd)
            clear hTd SD OE o0 o1 o2 o3 o4 o5 o6 o7 o8 o9 o10 o11
            go_wp2
            go_roundw
            case rel => exact ⟨j + 1, vd, L3, _, by omega, rfl, by go_num, SE, HK3⟩
            case measure => simp [intOf]; omega
        · have hke1 : (kd == 1) = false := by simpa using hk1
          by_cases hk2 : kd = 2
          · have hke2 : (kd == 2) = true := by simpa using hk2
            clear hk2 hk1 hk0 KB
            have o0 := OB.out.blk.cell 0
            have o1 := OB.out.blk.cell 1
            have o2 := OB.out.blk.cell 2
            have o3 := OB.out.blk.cell 3
            have o4 := OB.out.blk.cell 4
            have o5 := OB.out.blk.cell 5
            have o6 := OB.out.blk.cell 6
            have o7 := OB.out.blk.cell 7
            have o8 := OB.out.blk.cell 8
            have o9 := OB.out.blk.cell 9
            have o10 := OB.out.blk.cell 10
            have o11 := OB.out.blk.cell 11
            simp only [List.getElem?_toArray, List.getElem?_cons_zero, List.getElem?_cons_succ] at o0 o1 o2 o3 o4 o5 o6 o7 o8 o9 o10 o11
            have HOE := Lib.hid (HK1.out.rev sr)
            go_wp2_with fail
            refine (HRE.out _ _ SA.out.tb).mono ?_
            rintro e w6 ⟨v6, rfl, hT6⟩
            have SZ := Lib.hid (SA.out.table hT6)
            have OZ := Lib.hid (OB.out.table hT6)
            clear hT6 SA OB o0 o1 o2 o3 o4 o5 o6 o7 o8 o9 o10 o11
            cases b with
            | false =>
              have HE := Lib.hid (show revE L1 sr = 21 from if_pos (by have h9 := HBB.out; rw [rfB] at h9; simpa using h9))
              have HD := Lib.hid (show revL L1 sr = L1 from if_pos (by have h9 := HBB.out; rw [rfB] at h9; simpa using h9))
              rw [HE.out]
              have SA := Lib.hid (show ST w y v6 L1 _ L1 w6 by have h9 := SZ.out; rw [HD.out] at h9; exact h9)
              have OB := Lib.hid OZ.out
              clear SZ OZ HE HD HOE
              have HK2 := Lib.hid HK1.out
              clear HK1 HMI HDE HRE HLI
              generalize L1 = L2 at *
              have HLL2 := Lib.hid (le_left HK2.out.wf nw)
              have HLA2 := Lib.hid (left_again HK2.out.wf nw)
              have HK3 := Lib.hid (HK2.out.left nw)
              have HLE2 := Lib.hid (show L2.length ≤ 1000 by have := HK2.out.len; omega)
              obtain ⟨L3, hL3⟩ : ∃ L3, leftC nw L2 = L3 := ⟨_, rfl⟩
              rw [hL3] at HLL2 HLA2 HK3
              have HL3 := Lib.hid hL3
              clear hL3
              have HLE3 := Lib.hid (show L3.length ≤ 1000 by have := HK3.out.len; omega)
              try (obtain ⟨Ah, ch, rfl, -, -⟩ := SA.out.own.slice)
              have o0 := OB.out.blk.cell 0
              have o1 := OB.out.blk.cell 1
              have o2 := OB.out.blk.cell 2
              have o3 := OB.out.blk.cell 3
              have o4 := OB.out.blk.cell 4
              have o5 := OB.out.blk.cell 5
              have o6 := OB.out.blk.cell 6
              have o7 := OB.out.blk.cell 7
              have o8 := OB.out.blk.cell 8
              have o9 := OB.out.blk.cell 9
              have o10 := OB.out.blk.cell 10
              have o11 := OB.out.blk.cell 11
              simp only [List.getElem?_toArray, List.getElem?_cons_zero, List.getElem?_cons_succ] at o0 o1 o2 o3 o4 o5 o6 o7 o8 o9 o10 o11
              go_wp2_with fail
              refine (left_any _ _ L2 nw (ERd.of_own elT_ok SA.out.own) HLE2.out HK2.out.so HK2.out.wf).mono ?_
              rintro e wa ⟨ra, rfl, hFa⟩
              rw [HLL2.out] at hFa
              have SB := Lib.hid (SA.out.have_ hFa)
              have OC := Lib.hid (OB.out.below hFa.bel)
              clear hFa SA OB o0 o1 o2 o3 o4 o5 o6 o7 o8 o9 o10 o11
              try (obtain ⟨Ai, ci, rfl, -, -⟩ := SB.out.own.slice)
              have o0 := OC.out.blk.cell 0
              have o1 := OC.out.blk.cell 1
              have o2 := OC.out.blk.cell 2
              have o3 := OC.out.blk.cell 3
              have o4 := OC.out.blk.cell 4
              have o5 := OC.out.blk.cell 5
              have o6 := OC.out.blk.cell 6
              have o7 := OC.out.blk.cell 7
              have o8 := OC.out.blk.cell 8
              have o9 := OC.out.blk.cell 9
              have o10 := OC.out.blk.cell 10
              have o11 := OC.out.blk.cell 11
              simp only [List.getElem?_toArray, List.getElem?_cons_zero, List.getElem?_cons_succ] at o0 o1 o2 o3 o4 o5 o6 o7 o8 o9 o10 o11
              go_wp2_with fail
              refine (tickets_any _ y _ L2 nw SB.out.tb HLE2.out HK2.out.so).mono ?_
              rintro e wb ⟨vb, rb, rfl, hTb, hRb, hFb⟩
              rw [HL3.out] at hTb hRb
              have SC := Lib.hid (SB.out.table hTb)
              have OD := Lib.hid (OC.out.table hTb)
              have RB := Lib.hid hRb
              clear hTb hRb hFb SB OC o0 o1 o2 o3 o4 o5 o6 o7 o8 o9 o10 o11
              obtain ⟨Aj, cj, rfl, -, -⟩ := RB.out.slice
              have o0 := OD.out.blk.cell 0
              have o1 := OD.out.blk.cell 1
              have o2 := OD.out.blk.cell 2
              have o3 := OD.out.blk.cell 3
              have o4 := OD.out.blk.cell 4
              have o5 := OD.out.blk.cell 5
              have o6 := OD.out.blk.cell 6
              have o7 := OD.out.blk.cell 7
              have o8 := OD.out.blk.cell 8
              have o9 := OD.out.blk.cell 9
              have o10 := OD.out.blk.cell 10
              have o11 := OD.out.blk.cell 11
              simp only [List.getElem?_toArray, List.getElem?_cons_zero, List.getElem?_cons_succ] at o0 o1 o2 o3 o4 o5 o6 o7 o8 o9 o10 o11
              go_wp2_with fail
              refine (rsameT_any _ _ _ L3 (ERd.of_own elT_ok RB.out) (ERd.of_own elT_ok SC.out.own) (by have := HLE3.out; omega)).mono ?_
              rintro e wc ⟨rfl, qc, hqc⟩
              have hbc : Below wb.heap.size wb wc := by subst hqc; exact below_drawn (Below.refl _ _) qc
              have SD := Lib.hid (SC.out.below hbc)
              have OE := Lib.hid (OD.out.below hbc)
              clear hbc hqc SC OD RB o0 o1 o2 o3 o4 o5 o6 o7 o8 o9 o10 o11
              have o0 := OE.out.blk.cell 0
              have o1 := OE.out.blk.cell 1
              have o2 := OE.out.blk.cell 2
              have o3 := OE.out.blk.cell 3
              have o4 := OE.out.blk.cell 4
              have o5 := OE.out.blk.cell 5
              have o6 := OE.out.blk.cell 6
              have o7 := OE.out.blk.cell 7
              have o8 := OE.out.blk.cell 8
              have o9 := OE.out.blk.cell 9
              have o10 := OE.out.blk.cell 10
              have o11 := OE.out.blk.cell 11
              simp only [List.getElem?_toArray, List.getElem?_cons_zero, List.getElem?_cons_succ] at o0 o1 o2 o3 o4 o5 o6 o7 o8 o9 o10 o11
              go_wp2_with fail
              refine (len_any _ y vb L3 nw SD.out.tb HLE3.out HK3.out.so).mono ?_
              rintro e wd ⟨vd, rfl, hTd⟩
              rw [HLA2.out] at hTd ⊢
              have SE := Lib.hid (SD.out.table hTd)
              clear hTd SD OE o0 o1 o2 o3 o4 o5 o6 o7 o8 o9 o10 o11
              go_wp2
              go_roundw
              case rel => exact ⟨j + 1, vd, L3, _, by omega, rfl, by go_num, SE, HK3⟩
              case measure => simp [intOf]; omega
            | true =>
              have HE := Lib.hid (show revE L1 sr = 0 from if_neg (by have h9 := HBB.out; rw [rfB] at h9; simpa using h9))
              have HD := Lib.hid (show revL L1 sr = woR L1 sr by rw [wo_drop HK1.out.wf]; exact if_neg (by have h9 := HBB.out; rw [rfB] at h9; simpa using h9))
              rw [HE.out]
              have HK2 : Hid (TOk (woR L1 sr)) := by unfold Hid; rw [← HD.out]; exact HOE.out
              have SZ2 := Lib.hid (show ST w y v6 (woR L1 sr) _ L1 w6 by have h9 := SZ.out; rw [HD.out] at h9; exact h9)
              clear SZ HE HD HOE
              try (obtain ⟨Af, cf, rfl, -, -⟩ := SZ2.out.own.slice)
              have o0 := OZ.out.blk.cell 0
              have o1 := OZ.out.blk.cell 1
              have o2 := OZ.out.blk.cell 2
              have o3 := OZ.out.blk.cell 3
              have o4 := OZ.out.blk.cell 4
              have o5 := OZ.out.blk.cell 5
              have o6 := OZ.out.blk.cell 6
              have o7 := OZ.out.blk.cell 7
              have o8 := OZ.out.blk.cell 8
              have o9 := OZ.out.blk.cell 9
              have o10 := OZ.out.blk.cell 10
              have o11 := OZ.out.blk.cell 11
              simp only [List.getElem?_toArray, List.getElem?_cons_zero, List.getElem?_cons_succ] at o0 o1 o2 o3 o4 o5 o6 o7 o8 o9 o10 o11
              go_wp2_with fail
              refine (without_any _ _ L1 sr (ERd.of_own elT_ok SZ2.out.own) HLE1.out HK1.out.so hsr).mono ?_
              rintro e w7 ⟨v7, rfl, hM⟩
              have SA := Lib.hid (SZ2.out.have_ hM)
              have OB := Lib.hid (OZ.out.below hM.bel)
              clear hM SZ2 OZ o0 o1 o2 o3 o4 o5 o6 o7 o8 o9 o10 o11
              generalize woR L1 sr = L2 at *
              have HLL2 := Lib.hid (le_left HK2.out.wf nw)
              have HLA2 := Lib.hid (left_again HK2.out.wf nw)
              have HK3 := Lib.hid (HK2.out.left nw)
              have HLE2 := Lib.hid (show L2.length ≤ 1000 by have := HK2.out.len; omega)
              obtain ⟨L3, hL3⟩ : ∃ L3, leftC nw L2 = L3 := ⟨_, rfl⟩
              rw [hL3] at HLL2 HLA2 HK3
              have HL3 := Lib.hid hL3
              clear hL3
              have HLE3 := Lib.hid (show L3.length ≤ 1000 by have := HK3.out.len; omega)
              try (obtain ⟨Ah, ch, rfl, -, -⟩ := SA.out.own.slice)
              have o0 := OB.out.blk.cell 0
              have o1 := OB.out.blk.cell 1
              have o2 := OB.out.blk.cell 2
              have o3 := OB.out.blk.cell 3
              have o4 := OB.out.blk.cell 4
              have o5 := OB.out.blk.cell 5
              have o6 := OB.out.blk.cell 6
              have o7 := OB.out.blk.cell 7
              have o8 := OB.out.blk.cell 8
              have o9 := OB.out.blk.cell 9
              have o10 := OB.out.blk.cell 10
              have o11 := OB.out.blk.cell 11
              simp only [List.getElem?_toArray, List.getElem?_cons_zero, List.getElem?_cons_succ] at o0 o1 o2 o3 o4 o5 o6 o7 o8 o9 o10 o11
              go_wp2_with fail
              refine (left_any _ _ L2 nw (ERd.of_own elT_ok SA.out.own) HLE2.out HK2.out.so HK2.out.wf).mono ?_
              rintro e wa ⟨ra, rfl, hFa⟩
              rw [HLL2.out] at hFa
              have SB := Lib.hid (SA.out.have_ hFa)
              have OC := Lib.hid (OB.out.below hFa.bel)
              clear hFa SA OB o0 o1 o2 o3 o4 o5 o6 o7 o8 o9 o10 o11
              try (obtain ⟨Ai, ci, rfl, -, -⟩ := SB.out.own.slice)
              have o0 := OC.out.blk.cell 0
              have o1 := OC.out.blk.cell 1
              have o2 := OC.out.blk.cell 2
              have o3 := OC.out.blk.cell 3
              have o4 := OC.out.blk.cell 4
              have o5 := OC.out.blk.cell 5
              have o6 := OC.out.blk.cell 6
              have o7 := OC.out.blk.cell 7
              have o8 := OC.out.blk.cell 8
              have o9 := OC.out.blk.cell 9
              have o10 := OC.out.blk.cell 10
              have o11 := OC.out.blk.cell 11
              simp only [List.getElem?_toArray, List.getElem?_cons_zero, List.getElem?_cons_succ] at o0 o1 o2 o3 o4 o5 o6 o7 o8 o9 o10 o11
              go_wp2_with fail
              refine (tickets_any _ y _ L2 nw SB.out.tb HLE2.out HK2.out.so).mono ?_
              rintro e wb ⟨vb, rb, rfl, hTb, hRb, hFb⟩
              rw [HL3.out] at hTb hRb
              have SC := Lib.hid (SB.out.table hTb)
              have OD := Lib.hid (OC.out.table hTb)
              have RB := Lib.hid hRb
              clear hTb hRb hFb SB OC o0 o1 o2 o3 o4 o5 o6 o7 o8 o9 o10 o11
              obtain ⟨Aj, cj, rfl, -, -⟩ := RB.out.slice
              have o0 := OD.out.blk.cell 0
              have o1 := OD.out.blk.cell 1
              have o2 := OD.out.blk.cell 2
              have o3 := OD.out.blk.cell 3
              have o4 := OD.out.blk.cell 4
              have o5 := OD.out.blk.cell 5
              have o6 := OD.out.blk.cell 6
              have o7 := OD.out.blk.cell 7
              have o8 := OD.out.blk.cell 8
              have o9 := OD.out.blk.cell 9
              have o10 := OD.out.blk.cell 10
              have o11 := OD.out.blk.cell 11
              simp only [List.getElem?_toArray, List.getElem?_cons_zero, List.getElem?_cons_succ] at o0 o1 o2 o3 o4 o5 o6 o7 o8 o9 o10 o11
              go_wp2_with fail
              refine (rsameT_any _ _ _ L3 (ERd.of_own elT_ok RB.out) (ERd.of_own elT_ok SC.out.own) (by have := HLE3.out; omega)).mono ?_
              rintro e wc ⟨rfl, qc, hqc⟩
              have hbc : Below wb.heap.size wb wc := by subst hqc; exact below_drawn (Below.refl _ _) qc
              have SD := Lib.hid (SC.out.below hbc)
              have OE := Lib.hid (OD.out.below hbc)
              clear hbc hqc SC OD RB o0 o1 o2 o3 o4 o5 o6 o7 o8 o9 o10 o11
              have o0 := OE.out.blk.cell 0
              have o1 := OE.out.blk.cell 1
              have o2 := OE.out.blk.cell 2
              have o3 := OE.out.blk.cell 3
              have o4 := OE.out.blk.cell 4
              have o5 := OE.out.blk.cell 5
              have o6 := OE.out.blk.cell 6
              have o7 := OE.out.blk.cell 7
              have o8 := OE.out.blk.cell 8
              have o9 := OE.out.blk.cell 9
              have o10 := OE.out.blk.cell 10
              have o11 := OE.out.blk.cell 11
              simp only [List.getElem?_toArray, List.getElem?_cons_zero, List.getElem?_cons_succ] at o0 o1 o2 o3 o4 o5 o6 o7 o8 o9 o10 o11
              go_wp2_with fail
              refine (len_any _ y vb L3 nw SD.out.tb HLE3.out HK3.out.so).mono ?_
              rintro e wd ⟨vd, rfl, hTd⟩
              rw [HLA2.out] at hTd ⊢
              have SE := Lib.hid (SD.out.table hTd)
              clear hTd SD OE o0 o1 o2 o3 o4 o5 o6 o7 o8 o9 o10 o11
              go_wp2
              go_roundw
              case rel => exact ⟨j + 1, vd, L3, _, by omega, rfl, by go_num, SE, HK3⟩
              case measure => simp [intOf]; omega
          · have hke2 : (kd == 2) = false := by simpa using hk2
            clear hk2 hk1 hk0
            have o0 := OB.out.blk.cell 0
            have o1 := OB.out.blk.cell 1
            have o2 := OB.out.blk.cell 2
            have o3 := OB.out.blk.cell 3
            have o4 := OB.out.blk.cell 4
            have o5 := OB.out.blk.cell 5
            have o6 := OB.out.blk.cell 6
            have o7 := OB.out.blk.cell 7
            have o8 := OB.out.blk.cell 8
            have o9 := OB.out.blk.cell 9
            have o10 := OB.out.blk.cell 10
            have o11 := OB.out.blk.cell 11
            simp only [List.getElem?_toArray, List.getElem?_cons_zero, List.getElem?_cons_succ] at o0 o1 o2 o3 o4 o5 o6 o7 o8 o9 o10 o11
            have HCL := Lib.hid (HLI.out _ _ SA.out.tb)
            rw [show livB L1 sr = b from HBB.out] at HCL
            obtain ⟨m, hm⟩ : ∃ m, livG L1 sr = m := ⟨_, rfl⟩
            rw [hm] at HCL
            have HM := Lib.hid hm
            clear hm
            obtain ⟨m0, m1, m2, m3, m4, m5, m6, m7⟩ := m
            go_wp2_with fail
            refine HCL.out.mono ?_
            rintro e w6 ⟨v6, rfl, hT6⟩
            simp only [Gt.V]
            have S3 := Lib.hid (SA.out.table hT6)
            have O3 := Lib.hid (OB.out.table hT6)
            have K3 := Lib.hid (KB.out.table hT6)
            clear hT6 SA OB KB o0 o1 o2 o3 o4 o5 o6 o7 o8 o9 o10 o11 HCL
            go_upto_region 14 with fail
            have GB4 := Lib.hid (BX.new S3.out 30 #[.int .i64 m0, .int .i64 m1, .int .i64 m2, .int .i64 m3, .int .i64 m4, .int .i64 m5, .bool m6, .int .i64 m7])
            have S4 := Lib.hid (S3.out.below (al (.cells #[.int .i64 m0, .int .i64 m1, .int .i64 m2, .int .i64 m3, .int .i64 m4, .int .i64 m5, .bool m6, .int .i64 m7] 30)))
            have O4 := Lib.hid (O3.out.below (al (.cells #[.int .i64 m0, .int .i64 m1, .int .i64 m2, .int .i64 m3, .int .i64 m4, .int .i64 m5, .bool m6, .int .i64 m7] 30)))
            have K4 := Lib.hid (K3.out.below (al (.cells #[.int .i64 m0, .int .i64 m1, .int .i64 m2, .int .i64 m3, .int .i64 m4, .int .i64 m5, .bool m6, .int .i64 m7] 30)))
            clear S3 O3 K3
            generalize (w6.alloc (.cells #[.int .i64 m0, .int .i64 m1, .int .i64 m2, .int .i64 m3, .int .i64 m4, .int .i64 m5, .bool m6, .int .i64 m7] 30)) = w7 at *
            generalize w6.heap.size = gb at *
            go_upto_region 15 with fail
            have XB5 := Lib.hid (BX.new S4.out 30 #[.int .i64 0, .int .i64 0, .int .i64 0, .int .i64 0, .int .i64 0, .int .i64 0, .bool false, .int .i64 0])
            have S5 := Lib.hid (S4.out.below (al (.cells #[.int .i64 0, .int .i64 0, .int .i64 0, .int .i64 0, .int .i64 0, .int .i64 0, .bool false, .int .i64 0] 30)))
            have O5 := Lib.hid (O4.out.below (al (.cells #[.int .i64 0, .int .i64 0, .int .i64 0, .int .i64 0, .int .i64 0, .int .i64 0, .bool false, .int .i64 0] 30)))
            have K5 := Lib.hid (K4.out.below (al (.cells #[.int .i64 0, .int .i64 0, .int .i64 0, .int .i64 0, .int .i64 0, .int .i64 0, .bool false, .int .i64 0] 30)))
            have G5 := Lib.hid (GB4.out.below (al (.cells #[.int .i64 0, .int .i64 0, .int .i64 0, .int .i64 0, .int .i64 0, .int .i64 0, .bool false, .int .i64 0] 30)))
            have HXG := Lib.hid (show w7.heap.size ≠ gb from by have := GB4.out.blk.lt; omega)
            have HOXX := Lib.hid (show ob ≠ w7.heap.size from by have := O4.out.blk.lt; omega)
            have HHX := Lib.hid S4.out.hne
            have HWX := Lib.hid (show w.heap.size ≤ w7.heap.size from S4.out.bel.size)
            clear S4 O4 K4 GB4
            generalize (w7.alloc (.cells #[.int .i64 0, .int .i64 0, .int .i64 0, .int .i64 0, .int .i64 0, .int .i64 0, .bool false, .int .i64 0] 30)) = w8 at *
            generalize w7.heap.size = xb at *
            have HOX := Lib.hid (show ob ≠ xb from HOXX.out)
            cases b with
            | false =>
              have HZ := Lib.hid (show (⟨m0, m1, m2, m3, m4, m5, m6, m7⟩ : Gt) = Gt.zero by rw [← HM.out]; exact if_pos (by have h9 := HBB.out; rw [rfB] at h9; simpa using h9))
              obtain ⟨rfl, rfl, rfl, rfl, rfl, rfl, rfl, rfl⟩ : m0 = 0 ∧ m1 = 0 ∧ m2 = 0 ∧ m3 = 0 ∧ m4 = 0 ∧ m5 = 0 ∧ m6 = false ∧ m7 = 0 := by have h9 := HZ.out; simpa [Gt.zero] using h9
              clear HZ HM K5
              have q0 := G5.out.blk.cell 0
              have q1 := G5.out.blk.cell 1
              have q2 := G5.out.blk.cell 2
              have q3 := G5.out.blk.cell 3
              have q4 := G5.out.blk.cell 4
              have q5 := G5.out.blk.cell 5
              have q6 := G5.out.blk.cell 6
              have q7 := G5.out.blk.cell 7
              simp only [List.getElem?_toArray, List.getElem?_cons_zero, List.getElem?_cons_succ] at q0 q1 q2 q3 q4 q5 q6 q7
              have z0 := XB5.out.blk.cell 0
              have z1 := XB5.out.blk.cell 1
              have z2 := XB5.out.blk.cell 2
              have z3 := XB5.out.blk.cell 3
              have z4 := XB5.out.blk.cell 4
              have z5 := XB5.out.blk.cell 5
              have z6 := XB5.out.blk.cell 6
              have z7 := XB5.out.blk.cell 7
              simp only [List.getElem?_toArray, List.getElem?_cons_zero, List.getElem?_cons_succ] at z0 z1 z2 z3 z4 z5 z6 z7
              go_upto_region 33 with fail
              clear q0 z0 q1 z1 q2 z2 q3 z3 q4 z4 q5 z5 q6 z6 q7 z7 G5 XB5
              have SA := Lib.hid S5.out
              have OB := Lib.hid O5.out
              clear S5 O5
              have HK2 := Lib.hid HK1.out
              clear HK1 HMI HDE HRE HLI
              generalize L1 = L2 at *
              have HLL2 := Lib.hid (le_left HK2.out.wf nw)
              have HLA2 := Lib.hid (left_again HK2.out.wf nw)
              have HK3 := Lib.hid (HK2.out.left nw)
              have HLE2 := Lib.hid (show L2.length ≤ 1000 by have := HK2.out.len; omega)
              obtain ⟨L3, hL3⟩ : ∃ L3, leftC nw L2 = L3 := ⟨_, rfl⟩
              rw [hL3] at HLL2 HLA2 HK3
              have HL3 := Lib.hid hL3
              clear hL3
              have HLE3 := Lib.hid (show L3.length ≤ 1000 by have := HK3.out.len; omega)
              try (obtain ⟨Ah, ch, rfl, -, -⟩ := SA.out.own.slice)
              have o0 := OB.out.blk.cell 0
              have o1 := OB.out.blk.cell 1
              have o2 := OB.out.blk.cell 2
              have o3 := OB.out.blk.cell 3
              have o4 := OB.out.blk.cell 4
              have o5 := OB.out.blk.cell 5
              have o6 := OB.out.blk.cell 6
              have o7 := OB.out.blk.cell 7
              have o8 := OB.out.blk.cell 8
              have o9 := OB.out.blk.cell 9
              have o10 := OB.out.blk.cell 10
              have o11 := OB.out.blk.cell 11
              simp only [List.getElem?_toArray, List.getElem?_cons_zero, List.getElem?_cons_succ] at o0 o1 o2 o3 o4 o5 o6 o7 o8 o9 o10 o11
              go_wp2_with fail
              refine (left_any _ _ L2 nw (ERd.of_own elT_ok SA.out.own) HLE2.out HK2.out.so HK2.out.wf).mono ?_
              rintro e wa ⟨ra, rfl, hFa⟩
              rw [HLL2.out] at hFa
              have SB := Lib.hid (SA.out.have_ hFa)
              have OC := Lib.hid (OB.out.below hFa.bel)
              clear hFa SA OB o0 o1 o2 o3 o4 o5 o6 o7 o8 o9 o10 o11
              try (obtain ⟨Ai, ci, rfl, -, -⟩ := SB.out.own.slice)
              have o0 := OC.out.blk.cell 0
              have o1 := OC.out.blk.cell 1
              have o2 := OC.out.blk.cell 2
              have o3 := OC.out.blk.cell 3
              have o4 := OC.out.blk.cell 4
              have o5 := OC.out.blk.cell 5
              have o6 := OC.out.blk.cell 6
              have o7 := OC.out.blk.cell 7
              have o8 := OC.out.blk.cell 8
              have o9 := OC.out.blk.cell 9
              have o10 := OC.out.blk.cell 10
              have o11 := OC.out.blk.cell 11
              simp only [List.getElem?_toArray, List.getElem?_cons_zero, List.getElem?_cons_succ] at o0 o1 o2 o3 o4 o5 o6 o7 o8 o9 o10 o11
              go_wp2_with fail
              refine (tickets_any _ y _ L2 nw SB.out.tb HLE2.out HK2.out.so).mono ?_
              rintro e wb ⟨vb, rb, rfl, hTb, hRb, hFb⟩
              rw [HL3.out] at hTb hRb
              have SC := Lib.hid (SB.out.table hTb)
              have OD := Lib.hid (OC.out.table hTb)
              have RB := Lib.hid hRb
              clear hTb hRb hFb SB OC o0 o1 o2 o3 o4 o5 o6 o7 o8 o9 o10 o11
              obtain ⟨Aj, cj, rfl, -, -⟩ := RB.out.slice
              have o0 := OD.out.blk.cell 0
              have o1 := OD.out.blk.cell 1
              have o2 := OD.out.blk.cell 2
              have o3 := OD.out.blk.cell 3
              have o4 := OD.out.blk.cell 4
              have o5 := OD.out.blk.cell 5
              have o6 := OD.out.blk.cell 6
              have o7 := OD.out.blk.cell 7
              have o8 := OD.out.blk.cell 8
              have o9 := OD.out.blk.cell 9
              have o10 := OD.out.blk.cell 10
              have o11 := OD.out.blk.cell 11
              simp only [List.getElem?_toArray, List.getElem?_cons_zero, List.getElem?_cons_succ] at o0 o1 o2 o3 o4 o5 o6 o7 o8 o9 o10 o11
              go_wp2_with fail
              refine (rsameT_any _ _ _ L3 (ERd.of_own elT_ok RB.out) (ERd.of_own elT_ok SC.out.own) (by have := HLE3.out; omega)).mono ?_
              rintro e wc ⟨rfl, qc, hqc⟩
              have hbc : Below wb.heap.size wb wc := by subst hqc; exact below_drawn (Below.refl _ _) qc
              have SD := Lib.hid (SC.out.below hbc)
              have OE := Lib.hid (OD.out.below hbc)
              clear hbc hqc SC OD RB o0 o1 o2 o3 o4 o5 o6 o7 o8 o9 o10 o11
              have o0 := OE.out.blk.cell 0
              have o1 := OE.out.blk.cell 1
              have o2 := OE.out.blk.cell 2
              have o3 := OE.out.blk.cell 3
              have o4 := OE.out.blk.cell 4
              have o5 := OE.out.blk.cell 5
              have o6 := OE.out.blk.cell 6
              have o7 := OE.out.blk.cell 7
              have o8 := OE.out.blk.cell 8
              have o9 := OE.out.blk.cell 9
              have o10 := OE.out.blk.cell 10
              have o11 := OE.out.blk.cell 11
              simp only [List.getElem?_toArray, List.getElem?_cons_zero, List.getElem?_cons_succ] at o0 o1 o2 o3 o4 o5 o6 o7 o8 o9 o10 o11
              go_wp2_with fail
              refine (len_any _ y vb L3 nw SD.out.tb HLE3.out HK3.out.so).mono ?_
              rintro e wd ⟨vd, rfl, hTd⟩
              rw [HLA2.out] at hTd ⊢
              have SE := Lib.hid (SD.out.table hTd)
              clear hTd SD OE o0 o1 o2 o3 o4 o5 o6 o7 o8 o9 o10 o11
              go_wp2
              go_roundw
              case rel => exact ⟨j + 1, vd, L3, _, by omega, rfl, by go_num, SE, HK3⟩
              case measure => simp [intOf]; omega
            | true =>
              have HRG := Lib.hid (show rGr L1 ⟨xs, xp, ⟨h0, h1, h2, h3, h4, h5, h6, h7⟩⟩ = ⟨m0, m1, m2, m3, m4, m5, m6, m7⟩ by
                obtain ⟨i, hi, e1, e2, _⟩ := rfG_get L1 sr HBB.out
                rw [← HQ.out, e2, rgr_grI HK1.out.wf i hi, ← HM.out, livG, e1, if_neg (by omega), Int.toNat_natCast])
              have HRT := Lib.hid (show Rt (⟨h0, h1, h2, h3, h4, h5, h6, h7⟩ : Gt) by have h9 := HK1.out.wf.rt sr HBB.out; rw [HQ.out] at h9; exact h9)
              have HPO := Lib.hid (show xp ≤ 18446744073709551615 by have h9 := (HK1.out.so.rf sr).2; rw [HQ.out] at h9; exact h9)
              have HGC := Lib.hid (grants_any w8 _ L1 ⟨xs, xp, ⟨h0, h1, h2, h3, h4, h5, h6, h7⟩⟩ (ERd.of_own elT_ok S5.out.own) HLE1.out HK1.out.so HK1.out.wf HPO.out HRT.out)
              rw [HRG.out] at HGC
              simp only [Gt.V, Tk.V] at HGC
              have r0 := K5.out.blk.cell 0
              have r1 := K5.out.blk.cell 1
              have r2 := K5.out.blk.cell 2
              have r3 := K5.out.blk.cell 3
              have r4 := K5.out.blk.cell 4
              have r5 := K5.out.blk.cell 5
              have r6 := K5.out.blk.cell 6
              have r7 := K5.out.blk.cell 7
              have r8 := K5.out.blk.cell 8
              have r9 := K5.out.blk.cell 9
              simp only [List.getElem?_toArray, List.getElem?_cons_zero, List.getElem?_cons_succ] at r0 r1 r2 r3 r4 r5 r6 r7 r8 r9
              go_wp2_with fail
              refine HGC.out.mono ?_
              rintro e w9 ⟨rfl, hb9⟩
              have S6 := Lib.hid (S5.out.below hb9)
              have O6 := Lib.hid (O5.out.below hb9)
              have G6 := Lib.hid (G5.out.below hb9)
              have X6 := Lib.hid (XB5.out.below hb9)
              clear hb9 S5 O5 K5 G5 XB5 HGC r0 r1 r2 r3 r4 r5 r6 r7 r8 r9
              have z0 := X6.out.blk.cell 0
              have z1 := X6.out.blk.cell 1
              have z2 := X6.out.blk.cell 2
              have z3 := X6.out.blk.cell 3
              have z4 := X6.out.blk.cell 4
              have z5 := X6.out.blk.cell 5
              have z6 := X6.out.blk.cell 6
              have z7 := X6.out.blk.cell 7
              simp only [List.getElem?_toArray, List.getElem?_cons_zero, List.getElem?_cons_succ] at z0 z1 z2 z3 z4 z5 z6 z7
              have fz0 := X6.out.blk.frozen 0
              have fz1 := X6.out.blk.frozen 1
              have fz2 := X6.out.blk.frozen 2
              have fz3 := X6.out.blk.frozen 3
              have fz4 := X6.out.blk.frozen 4
              have fz5 := X6.out.blk.frozen 5
              have fz6 := X6.out.blk.frozen 6
              have fz7 := X6.out.blk.frozen 7
              go_upto_region 17 with fail
              have hwb : w.heap.size ≤ xb := HWX.out
              have S7 := Lib.hid (show ST w y v6 L1 _ L1 ((((((((w9.setCell ⟨xb, 0, none⟩ (.int .i64 m0)).setCell ⟨xb, 1, none⟩ (.int .i64 m1)).setCell ⟨xb, 2, none⟩ (.int .i64 m2)).setCell ⟨xb, 3, none⟩ (.int .i64 m3)).setCell ⟨xb, 4, none⟩ (.int .i64 m4)).setCell ⟨xb, 5, none⟩ (.int .i64 m5)).setCell ⟨xb, 6, none⟩ (.bool m6)).setCell ⟨xb, 7, none⟩ (.int .i64 m7)) by
                iterate 8 with_reducible refine ST.put ?_ hwb X6.out.ny X6.out.nv HHX.out _ _
                exact S6.out)
              have O7 := Lib.hid (show BX y v6 ob 32 #[.int .i64 kd, .int .u64 sr, .int .u64 dr, .int .i64 g0, .int .i64 g1, .int .i64 g2, .int .i64 g3, .int .i64 g4, .int .i64 g5, .bool g6, .int .i64 g7, .int .i64 nw] ((((((((w9.setCell ⟨xb, 0, none⟩ (.int .i64 m0)).setCell ⟨xb, 1, none⟩ (.int .i64 m1)).setCell ⟨xb, 2, none⟩ (.int .i64 m2)).setCell ⟨xb, 3, none⟩ (.int .i64 m3)).setCell ⟨xb, 4, none⟩ (.int .i64 m4)).setCell ⟨xb, 5, none⟩ (.int .i64 m5)).setCell ⟨xb, 6, none⟩ (.bool m6)).setCell ⟨xb, 7, none⟩ (.int .i64 m7)) by
                iterate 8 with_reducible refine BX.put ?_ HOX.out _ _
                exact O6.out)
              have G7 := Lib.hid (show BX y v6 gb 30 #[.int .i64 m0, .int .i64 m1, .int .i64 m2, .int .i64 m3, .int .i64 m4, .int .i64 m5, .bool m6, .int .i64 m7] ((((((((w9.setCell ⟨xb, 0, none⟩ (.int .i64 m0)).setCell ⟨xb, 1, none⟩ (.int .i64 m1)).setCell ⟨xb, 2, none⟩ (.int .i64 m2)).setCell ⟨xb, 3, none⟩ (.int .i64 m3)).setCell ⟨xb, 4, none⟩ (.int .i64 m4)).setCell ⟨xb, 5, none⟩ (.int .i64 m5)).setCell ⟨xb, 6, none⟩ (.bool m6)).setCell ⟨xb, 7, none⟩ (.int .i64 m7)) by
                iterate 8 with_reducible refine BX.put ?_ (Ne.symm HXG.out) _ _
                exact G6.out)
              have X7 := Lib.hid (X6.out.blk.put8 rfl (.int .i64 m0) (.int .i64 m1) (.int .i64 m2) (.int .i64 m3) (.int .i64 m4) (.int .i64 m5) (.bool m6) (.int .i64 m7))
              clear z0 fz0 z1 fz1 z2 fz2 z3 fz3 z4 fz4 z5 fz5 z6 fz6 z7 fz7 S6 O6 G6 X6 hwb
              generalize ((((((((w9.setCell ⟨xb, 0, none⟩ (.int .i64 m0)).setCell ⟨xb, 1, none⟩ (.int .i64 m1)).setCell ⟨xb, 2, none⟩ (.int .i64 m2)).setCell ⟨xb, 3, none⟩ (.int .i64 m3)).setCell ⟨xb, 4, none⟩ (.int .i64 m4)).setCell ⟨xb, 5, none⟩ (.int .i64 m5)).setCell ⟨xb, 6, none⟩ (.bool m6)).setCell ⟨xb, 7, none⟩ (.int .i64 m7)) = wz at *
              have q0 := G7.out.blk.cell 0
              have q1 := G7.out.blk.cell 1
              have q2 := G7.out.blk.cell 2
              have q3 := G7.out.blk.cell 3
              have q4 := G7.out.blk.cell 4
              have q5 := G7.out.blk.cell 5
              have q6 := G7.out.blk.cell 6
              have q7 := G7.out.blk.cell 7
              simp only [List.getElem?_toArray, List.getElem?_cons_zero, List.getElem?_cons_succ] at q0 q1 q2 q3 q4 q5 q6 q7
              have z0 := X7.out.cell 0
              have z1 := X7.out.cell 1
              have z2 := X7.out.cell 2
              have z3 := X7.out.cell 3
              have z4 := X7.out.cell 4
              have z5 := X7.out.cell 5
              have z6 := X7.out.cell 6
              have z7 := X7.out.cell 7
              simp only [List.getElem?_toArray, List.getElem?_cons_zero, List.getElem?_cons_succ] at z0 z1 z2 z3 z4 z5 z6 z7
              have e0 : (m0 == m0) = true := by simp
              have e1 : (m1 == m1) = true := by simp
              have e2 : (m2 == m2) = true := by simp
              have e3 : (m3 == m3) = true := by simp
              have e4 : (m4 == m4) = true := by simp
              have e5 : (m5 == m5) = true := by simp
              have e6 : (m6 == m6) = true := by simp
              have e7 : (m7 == m7) = true := by simp
              go_upto_region 33 with fail
              clear q0 z0 e0 q1 z1 e1 q2 z2 e2 q3 z3 e3 q4 z4 e4 q5 z5 e5 q6 z6 e6 q7 z7 e7 G7 X7
              have SA := Lib.hid S7.out
              have OB := Lib.hid O7.out
              clear S7 O7 HRG HRT HPO HM
              have HK2 := Lib.hid HK1.out
              clear HK1 HMI HDE HRE HLI
              generalize L1 = L2 at *
              have HLL2 := Lib.hid (le_left HK2.out.wf nw)
              have HLA2 := Lib.hid (left_again HK2.out.wf nw)
              have HK3 := Lib.hid (HK2.out.left nw)
              have HLE2 := Lib.hid (show L2.length ≤ 1000 by have := HK2.out.len; omega)
              obtain ⟨L3, hL3⟩ : ∃ L3, leftC nw L2 = L3 := ⟨_, rfl⟩
              rw [hL3] at HLL2 HLA2 HK3
              have HL3 := Lib.hid hL3
              clear hL3
              have HLE3 := Lib.hid (show L3.length ≤ 1000 by have := HK3.out.len; omega)
              try (obtain ⟨Ah, ch, rfl, -, -⟩ := SA.out.own.slice)
              have o0 := OB.out.blk.cell 0
              have o1 := OB.out.blk.cell 1
              have o2 := OB.out.blk.cell 2
              have o3 := OB.out.blk.cell 3
              have o4 := OB.out.blk.cell 4
              have o5 := OB.out.blk.cell 5
              have o6 := OB.out.blk.cell 6
              have o7 := OB.out.blk.cell 7
              have o8 := OB.out.blk.cell 8
              have o9 := OB.out.blk.cell 9
              have o10 := OB.out.blk.cell 10
              have o11 := OB.out.blk.cell 11
              simp only [List.getElem?_toArray, List.getElem?_cons_zero, List.getElem?_cons_succ] at o0 o1 o2 o3 o4 o5 o6 o7 o8 o9 o10 o11
              go_wp2_with fail
              refine (left_any _ _ L2 nw (ERd.of_own elT_ok SA.out.own) HLE2.out HK2.out.so HK2.out.wf).mono ?_
              rintro e wa ⟨ra, rfl, hFa⟩
              rw [HLL2.out] at hFa
              have SB := Lib.hid (SA.out.have_ hFa)
              have OC := Lib.hid (OB.out.below hFa.bel)
              clear hFa SA OB o0 o1 o2 o3 o4 o5 o6 o7 o8 o9 o10 o11
              try (obtain ⟨Ai, ci, rfl, -, -⟩ := SB.out.own.slice)
              have o0 := OC.out.blk.cell 0
              have o1 := OC.out.blk.cell 1
              have o2 := OC.out.blk.cell 2
              have o3 := OC.out.blk.cell 3
              have o4 := OC.out.blk.cell 4
              have o5 := OC.out.blk.cell 5
              have o6 := OC.out.blk.cell 6
              have o7 := OC.out.blk.cell 7
              have o8 := OC.out.blk.cell 8
              have o9 := OC.out.blk.cell 9
              have o10 := OC.out.blk.cell 10
              have o11 := OC.out.blk.cell 11
              simp only [List.getElem?_toArray, List.getElem?_cons_zero, List.getElem?_cons_succ] at o0 o1 o2 o3 o4 o5 o6 o7 o8 o9 o10 o11
              go_wp2_with fail
              refine (tickets_any _ y _ L2 nw SB.out.tb HLE2.out HK2.out.so).mono ?_
              rintro e wb ⟨vb, rb, rfl, hTb, hRb, hFb⟩
              rw [HL3.out] at hTb hRb
              have SC := Lib.hid (SB.out.table hTb)
              have OD := Lib.hid (OC.out.table hTb)
              have RB := Lib.hid hRb
              clear hTb hRb hFb SB OC o0 o1 o2 o3 o4 o5 o6 o7 o8 o9 o10 o11
              obtain ⟨Aj, cj, rfl, -, -⟩ := RB.out.slice
              have o0 := OD.out.blk.cell 0
              have o1 := OD.out.blk.cell 1
              have o2 := OD.out.blk.cell 2
              have o3 := OD.out.blk.cell 3
              have o4 := OD.out.blk.cell 4
              have o5 := OD.out.blk.cell 5
              have o6 := OD.out.blk.cell 6
              have o7 := OD.out.blk.cell 7
              have o8 := OD.out.blk.cell 8
              have o9 := OD.out.blk.cell 9
              have o10 := OD.out.blk.cell 10
              have o11 := OD.out.blk.cell 11
              simp only [List.getElem?_toArray, List.getElem?_cons_zero, List.getElem?_cons_succ] at o0 o1 o2 o3 o4 o5 o6 o7 o8 o9 o10 o11
              go_wp2_with fail
              refine (rsameT_any _ _ _ L3 (ERd.of_own elT_ok RB.out) (ERd.of_own elT_ok SC.out.own) (by have := HLE3.out; omega)).mono ?_
              rintro e wc ⟨rfl, qc, hqc⟩
              have hbc : Below wb.heap.size wb wc := by subst hqc; exact below_drawn (Below.refl _ _) qc
              have SD := Lib.hid (SC.out.below hbc)
              have OE := Lib.hid (OD.out.below hbc)
              clear hbc hqc SC OD RB o0 o1 o2 o3 o4 o5 o6 o7 o8 o9 o10 o11
              have o0 := OE.out.blk.cell 0
              have o1 := OE.out.blk.cell 1
              have o2 := OE.out.blk.cell 2
              have o3 := OE.out.blk.cell 3
              have o4 := OE.out.blk.cell 4
              have o5 := OE.out.blk.cell 5
              have o6 := OE.out.blk.cell 6
              have o7 := OE.out.blk.cell 7
              have o8 := OE.out.blk.cell 8
              have o9 := OE.out.blk.cell 9
              have o10 := OE.out.blk.cell 10
              have o11 := OE.out.blk.cell 11
              simp only [List.getElem?_toArray, List.getElem?_cons_zero, List.getElem?_cons_succ] at o0 o1 o2 o3 o4 o5 o6 o7 o8 o9 o10 o11
              go_wp2_with fail
              refine (len_any _ y vb L3 nw SD.out.tb HLE3.out HK3.out.so).mono ?_
              rintro e wd ⟨vd, rfl, hTd⟩
              rw [HLA2.out] at hTd ⊢
              have SE := Lib.hid (SD.out.table hTd)
              clear hTd SD OE o0 o1 o2 o3 o4 o5 o6 o7 o8 o9 o10 o11
              go_wp2
              go_roundw
              case rel => exact ⟨j + 1, vd, L3, _, by omega, rfl, by go_num, SE, HK3⟩
              case measure => simp [intOf]; omega
    · by_cases hlt : j < n
      · have hd1 : decide ((j : Int) < (n : Int)) = true := by simp; exact hlt
        have hd2 : decide ((j : Int) < 60) = false := by simp; omega
        go_wp2_with fail
        refine (tknown_any _).mono ?_
        rintro e w9 ⟨rfl, h9⟩
        have HEND := Lib.hid (below_trans HS.out.bel h9)
        clear h9
        go_wp2
        go_ret
        exact ⟨rfl, HEND.out⟩
      · have hd1 : decide ((j : Int) < (n : Int)) = false := by simp; omega
        go_wp2_with fail
        refine (tknown_any _).mono ?_
        rintro e w9 ⟨rfl, h9⟩
        have HEND := Lib.hid (below_trans HS.out.bel h9)
        clear h9
        go_wp2
        go_ret
        exact ⟨rfl, HEND.out⟩
theorem walk (a : Option Addr) (n c : Nat) (w : World) (h : IsSl w 12 okOp a n c) :
    Calls Try.prog 3 #[.slice a n c] w fun e w' => e = .returned (.bool true) ∧ Below w.heap.size w w' := by
  obtain ⟨O, h1, h2, h3⟩ := ops_of h
  exact walkN _ O w h1 h3
theorem own : ownKnob Try.prog.godebug = none := by kernel_rfl
theorem laidOut : laidOutB Try.prog = true := by kernel_rfl
set_option maxRecDepth 100000 in
theorem lifted (os : Os) (started : os.Started) (H : Type) (enc : TypeId × Value → H) :
    ReturnsInHanded {} Try.checked os 3 .any (Rows.tokenPlaysSpec.pre6 enc Try.prog Try.f3 Rows.tokenPlaysRow.domain false) (Rows.tokenPlaysSpec.post enc Try.prog Try.f3 false true false false) := by
  refine returnsInHanded_of_change_sized (C := Try.checked) own started (by kernel_rfl) Try.func3
    (ChangeSpec.witness6 (enc := enc) (C := Try.checked) false ⟨#[], #[.slice none 0 0], []⟩ 8 (by kernel_rfl) (by kernel_rfl) (by kernel_rfl) (by kernel_rfl)) ?_
  intro W base args ds gs before hval0 hW hcnd hsz0 _
  have hval : ∀ (j : Nat) t v, Try.f3.params[j]? = some t → args[j]? = some v → Value.okWide Try.prog W .any base t v := hval0
  have hW' := hW
  obtain ⟨p, q, hA0, hV, rfl, hfz, hnd⟩ := hW
  have hA : DataW.TrodAll enc Try.prog W 0 (fun _ => true) true Try.f3.params.toList args.toList ds p := hA0
  rw [Try.params3] at hA hval
  obtain ⟨v0, vs0, d0, ds0, p0, q0, hargs, rfl, rfl, h0, r0⟩ := trodAll_cons hA
  obtain ⟨rfl, rfl, rfl⟩ := trodAll_nil r0
  obtain rfl : args = #[v0] := by cases args; simp_all
  obtain ⟨rfl, rfl⟩ := trodVars_none hV
  have k0 := h0
  have lt0 : ∀ x ∈ p0, x.block < W.heap.size := by obtain ⟨m, hm⟩ := k0; exact DataW.trod_lt m _ _ _ hm
  obtain ⟨a0, len0, cap0, rfl⟩ := okWide_slice Try.underlying22 (hval 0 22 v0 rfl rfl)
  have w0 : IsSl W 12 (okOpW W) a0 len0 cap0 := by
    obtain ⟨fuel, hf⟩ := h0
    exact isSl_of Try.underlying22 (by kernel_rfl) okOpP hf (fun n hn => of_decide_eq_true (List.all_eq_true.1 hsz0 n (DataW.weights_mem_each (j := 0) (t := 22) (d := d0) rfl rfl n hn)))
  clear hA0 hval0
  refine (walk a0 len0 cap0 W w0).mono fun e W' ⟨he, bel⟩ => ?_
  subst he
  exact ⟨_, rfl, _, _, _, [], _, [], hW', trodAll_mk1 (shut_bool Try.underlying4 _), (trodAll_cons_mk (Below.trod laidOut (by kernel_rfl) (of_decide_eq_true (by kernel_rfl)) k0 bel lt0) trodAll_mk0), rfl, bel.frame _, fun h => by cases h⟩
theorem over : Rows.tokenPlaysRow.holds Try.pinned (OpenSpec.ofChange Rows.tokenPlaysSpec) :=
  OpenClaim.holds_of_wide 3 Try.f3 rfl rfl rfl rfl rfl rfl rfl ⟨rfl, rfl, rfl, rfl, rfl⟩ rfl rfl rfl rfl rfl (by kernel_rfl) Try.func3 (by kernel_rfl)
    (of_decide_eq_true (by kernel_rfl)) (by unfold Func.isWrapper; first | (rw [if_pos (by decide +kernel)]; kernel_rfl) | (rw [if_neg (by decide +kernel)]; exact ⟨rfl, rfl⟩))
    (fun os started H enc _ => lifted os started H enc)
/-- The statement. -/
theorem proved : Rows.TokenPlaysSaid := over
#print axioms proved
end Go.Proofs.Yteepimmnajnhfaa.tokenPlays
