/- The document's Grants, by contract. -/
import Derived.Test.YteepimmnajnhfaaTo21
import Derived.Test.YteepimmnajnhfaaTo25
namespace Go.Proofs.Yteepimmnajnhfaa
set_option linter.unusedVariables false
set_option linter.unusedSimpArgs false
open Go.RowKit
theorem Blk.put8 {w : World} {g : Nat} {t : TypeId} {cur : Array Value} (h : Blk w g t cur) (hs : cur.size = 8) (v0 v1 v2 v3 v4 v5 v6 v7 : Value) : Blk ((((((((w.setCell ⟨g, 0, none⟩ v0).setCell ⟨g, 1, none⟩ v1).setCell ⟨g, 2, none⟩ v2).setCell ⟨g, 3, none⟩ v3).setCell ⟨g, 4, none⟩ v4).setCell ⟨g, 5, none⟩ v5).setCell ⟨g, 6, none⟩ v6).setCell ⟨g, 7, none⟩ v7) g t #[v0, v1, v2, v3, v4, v5, v6, v7] := by
  have h9 := Blk.setCellsT [v0, v1, v2, v3, v4, v5, v6, v7] 0 cur w h (by simp [hs])
  have e : (cur.toList.take 0 ++ [v0, v1, v2, v3, v4, v5, v6, v7] ++ cur.toList.drop (0 + [v0, v1, v2, v3, v4, v5, v6, v7].length)).toArray = #[v0, v1, v2, v3, v4, v5, v6, v7] := by simp [hs]
  rw [e] at h9
  exact h9
theorem Blk.by8 {w : World} {g g' : Nat} {t : TypeId} {cur : Array Value} (h : Blk w g' t cur) (hne : g' ≠ g) (v0 v1 v2 v3 v4 v5 v6 v7 : Value) : Blk ((((((((w.setCell ⟨g, 0, none⟩ v0).setCell ⟨g, 1, none⟩ v1).setCell ⟨g, 2, none⟩ v2).setCell ⟨g, 3, none⟩ v3).setCell ⟨g, 4, none⟩ v4).setCell ⟨g, 5, none⟩ v5).setCell ⟨g, 6, none⟩ v6).setCell ⟨g, 7, none⟩ v7) g' t cur := by
  repeat (refine Blk.far (p := ⟨g, _, none⟩) ?_ hne _)
  exact h
theorem below_put8 {a w : World} {g B : Nat} (h : Below B a w) (hg : B ≤ g) (v0 v1 v2 v3 v4 v5 v6 v7 : Value) : Below B a ((((((((w.setCell ⟨g, 0, none⟩ v0).setCell ⟨g, 1, none⟩ v1).setCell ⟨g, 2, none⟩ v2).setCell ⟨g, 3, none⟩ v3).setCell ⟨g, 4, none⟩ v4).setCell ⟨g, 5, none⟩ v5).setCell ⟨g, 6, none⟩ v6).setCell ⟨g, 7, none⟩ v7) := by
  repeat (refine Below.setCell ?_ (p := ⟨g, _, none⟩) hg _)
  exact h
theorem Blk.put10 {w : World} {g : Nat} {t : TypeId} {cur : Array Value} (h : Blk w g t cur) (hs : cur.size = 10) (v0 v1 v2 v3 v4 v5 v6 v7 v8 v9 : Value) : Blk ((((((((((w.setCell ⟨g, 0, none⟩ v0).setCell ⟨g, 1, none⟩ v1).setCell ⟨g, 2, none⟩ v2).setCell ⟨g, 3, none⟩ v3).setCell ⟨g, 4, none⟩ v4).setCell ⟨g, 5, none⟩ v5).setCell ⟨g, 6, none⟩ v6).setCell ⟨g, 7, none⟩ v7).setCell ⟨g, 8, none⟩ v8).setCell ⟨g, 9, none⟩ v9) g t #[v0, v1, v2, v3, v4, v5, v6, v7, v8, v9] := by
  have h9 := Blk.setCellsT [v0, v1, v2, v3, v4, v5, v6, v7, v8, v9] 0 cur w h (by simp [hs])
  have e : (cur.toList.take 0 ++ [v0, v1, v2, v3, v4, v5, v6, v7, v8, v9] ++ cur.toList.drop (0 + [v0, v1, v2, v3, v4, v5, v6, v7, v8, v9].length)).toArray = #[v0, v1, v2, v3, v4, v5, v6, v7, v8, v9] := by simp [hs]
  rw [e] at h9
  exact h9
theorem Blk.by10 {w : World} {g g' : Nat} {t : TypeId} {cur : Array Value} (h : Blk w g' t cur) (hne : g' ≠ g) (v0 v1 v2 v3 v4 v5 v6 v7 v8 v9 : Value) : Blk ((((((((((w.setCell ⟨g, 0, none⟩ v0).setCell ⟨g, 1, none⟩ v1).setCell ⟨g, 2, none⟩ v2).setCell ⟨g, 3, none⟩ v3).setCell ⟨g, 4, none⟩ v4).setCell ⟨g, 5, none⟩ v5).setCell ⟨g, 6, none⟩ v6).setCell ⟨g, 7, none⟩ v7).setCell ⟨g, 8, none⟩ v8).setCell ⟨g, 9, none⟩ v9) g' t cur := by
  repeat (refine Blk.far (p := ⟨g, _, none⟩) ?_ hne _)
  exact h
theorem below_put10 {a w : World} {g B : Nat} (h : Below B a w) (hg : B ≤ g) (v0 v1 v2 v3 v4 v5 v6 v7 v8 v9 : Value) : Below B a ((((((((((w.setCell ⟨g, 0, none⟩ v0).setCell ⟨g, 1, none⟩ v1).setCell ⟨g, 2, none⟩ v2).setCell ⟨g, 3, none⟩ v3).setCell ⟨g, 4, none⟩ v4).setCell ⟨g, 5, none⟩ v5).setCell ⟨g, 6, none⟩ v6).setCell ⟨g, 7, none⟩ v7).setCell ⟨g, 8, none⟩ v8).setCell ⟨g, 9, none⟩ v9) := by
  repeat (refine Below.setCell ?_ (p := ⟨g, _, none⟩) hg _)
  exact h
/-- What is met on the way up, so many steps. -/
def graR (L : List Tk) : Nat → Gt → Tk → Bool → Gt
  | 0, g, _, _ => g
  | f + 1, g, p, b => if b = true then graR L f (meetG g p.g) (rfG L p.par) (rfB L p.par) else g
def rGr (L : List Tk) (k : Tk) : Gt := graR L L.length k.g (rfG L k.par) (rfB L k.par)
theorem WF.rt {L : List Tk} (h : WF L) (s : Nat) (hb : rfB L s = true) : Rt (rfG L s).g := by
  obtain ⟨i, hi, _, e, _⟩ := rfG_get L s hb
  rw [e]
  exact (rt_iff _).1 (h.right _ (List.getElem_mem hi))
set_option maxRecDepth 100000 in
set_option maxHeartbeats 8000000 in
theorem grants_any (w : World) (v : Value) (L : List Tk) (k : Tk) (h : ERd elT w v L) (hl : L.length ≤ 1000) (hs : SecOk L) (hw : WF L) (hk : k.par ≤ 18446744073709551615) (hr : Rt k.g) :
    Calls Try.prog 19 #[v, k.V] w fun e w' => e = .returned (rGr L k).V ∧ Below w.heap.size w w' := by
  obtain ⟨A1, c1, rfl, -, -⟩ := h.shape
  have HL := Lib.hid h
  clear h
  obtain ⟨n, hn⟩ : ∃ n, n = L.length := ⟨_, rfl⟩
  have HRS := Lib.hid (show rGr L k = graR L n k.g (rfG L k.par) (rfB L k.par) by rw [rGr, hn])
  rw [← hn] at HL hl ⊢
  have HN := Lib.hid hn; clear hn
  obtain ⟨res, hres⟩ : ∃ res, rGr L k = res := ⟨_, rfl⟩
  rw [hres] at HRS ⊢
  clear hres
  obtain ⟨xs, xp, ⟨g0, g1, g2, g3, g4, g5, g6, g7⟩⟩ := k
  simp only [Tk.V] at HRS hk hr ⊢
  have HRT := Lib.hid hr
  clear hr
  have HFI := Lib.hid (fun W (hb : Below w.heap.size w W) => rfindT_any W _ L xp (HL.out.below hb) (by rw [← HN.out]; omega) hk)
  have HFR := Lib.hid (hs.rf xp)
  have HFW := Lib.hid (hw.rt xp)
  obtain ⟨p, hp⟩ : ∃ p, rfG L xp = p := ⟨_, rfl⟩
  obtain ⟨b, hb⟩ : ∃ b, rfB L xp = b := ⟨_, rfl⟩
  rw [hp] at HFI HFR HFW HRS
  rw [hb] at HFI HFW HRS
  clear hp hb
  obtain ⟨ps, pp, ⟨p0, p1, p2, p3, p4, p5, p6, p7⟩⟩ := p
  simp only [Tk.V] at HFI
  go_enter Try.func19, Try.ntmps19
  go_upto_region 2 with fail
  have K0 : Blk (((w.alloc (.cells #[.int .u64 xs, .int .u64 xp, .int .i64 g0, .int .i64 g1, .int .i64 g2, .int .i64 g3, .int .i64 g4, .int .i64 g5, .bool g6, .int .i64 g7] 35)).alloc (.cells #[.int .i64 0, .int .i64 0, .int .i64 0, .int .i64 0, .int .i64 0, .int .i64 0, .bool false, .int .i64 0] 30)).alloc (.cells #[.int .i64 g0, .int .i64 g1, .int .i64 g2, .int .i64 g3, .int .i64 g4, .int .i64 g5, .bool g6, .int .i64 g7] 30)) w.heap.size 35 #[.int .u64 xs, .int .u64 xp, .int .i64 g0, .int .i64 g1, .int .i64 g2, .int .i64 g3, .int .i64 g4, .int .i64 g5, .bool g6, .int .i64 g7] := ((Blk.newAt rfl).alloc _).alloc _
  have R0 : Blk (((w.alloc (.cells #[.int .u64 xs, .int .u64 xp, .int .i64 g0, .int .i64 g1, .int .i64 g2, .int .i64 g3, .int .i64 g4, .int .i64 g5, .bool g6, .int .i64 g7] 35)).alloc (.cells #[.int .i64 0, .int .i64 0, .int .i64 0, .int .i64 0, .int .i64 0, .int .i64 0, .bool false, .int .i64 0] 30)).alloc (.cells #[.int .i64 g0, .int .i64 g1, .int .i64 g2, .int .i64 g3, .int .i64 g4, .int .i64 g5, .bool g6, .int .i64 g7] 30)) (w.heap.size + 1) 30 #[.int .i64 0, .int .i64 0, .int .i64 0, .int .i64 0, .int .i64 0, .int .i64 0, .bool false, .int .i64 0] := (Blk.newAt (by simp)).alloc _
  have G0 : Blk (((w.alloc (.cells #[.int .u64 xs, .int .u64 xp, .int .i64 g0, .int .i64 g1, .int .i64 g2, .int .i64 g3, .int .i64 g4, .int .i64 g5, .bool g6, .int .i64 g7] 35)).alloc (.cells #[.int .i64 0, .int .i64 0, .int .i64 0, .int .i64 0, .int .i64 0, .int .i64 0, .bool false, .int .i64 0] 30)).alloc (.cells #[.int .i64 g0, .int .i64 g1, .int .i64 g2, .int .i64 g3, .int .i64 g4, .int .i64 g5, .bool g6, .int .i64 g7] 30)) (w.heap.size + 1 + 1) 30 #[.int .i64 g0, .int .i64 g1, .int .i64 g2, .int .i64 g3, .int .i64 g4, .int .i64 g5, .bool g6, .int .i64 g7] := Blk.newAt (by simp)
  have B0 : Below w.heap.size w (((w.alloc (.cells #[.int .u64 xs, .int .u64 xp, .int .i64 g0, .int .i64 g1, .int .i64 g2, .int .i64 g3, .int .i64 g4, .int .i64 g5, .bool g6, .int .i64 g7] 35)).alloc (.cells #[.int .i64 0, .int .i64 0, .int .i64 0, .int .i64 0, .int .i64 0, .int .i64 0, .bool false, .int .i64 0] 30)).alloc (.cells #[.int .i64 g0, .int .i64 g1, .int .i64 g2, .int .i64 g3, .int .i64 g4, .int .i64 g5, .bool g6, .int .i64 g7] 30)) := by go_grown
  generalize (((w.alloc (.cells #[.int .u64 xs, .int .u64 xp, .int .i64 g0, .int .i64 g1, .int .i64 g2, .int .i64 g3, .int .i64 g4, .int .i64 g5, .bool g6, .int .i64 g7] 35)).alloc (.cells #[.int .i64 0, .int .i64 0, .int .i64 0, .int .i64 0, .int .i64 0, .int .i64 0, .bool false, .int .i64 0] 30)).alloc (.cells #[.int .i64 g0, .int .i64 g1, .int .i64 g2, .int .i64 g3, .int .i64 g4, .int .i64 g5, .bool g6, .int .i64 g7] 30)) = w0 at *
  have r0 := K0.cell 0
  have r1 := K0.cell 1
  have r2 := K0.cell 2
  have r3 := K0.cell 3
  have r4 := K0.cell 4
  have r5 := K0.cell 5
  have r6 := K0.cell 6
  have r7 := K0.cell 7
  have r8 := K0.cell 8
  have r9 := K0.cell 9
  simp only [List.getElem?_toArray, List.getElem?_cons_zero, List.getElem?_cons_succ] at r0 r1 r2 r3 r4 r5 r6 r7 r8 r9
  go_wp2_with fail
  refine (HFI.out _ B0).mono ?_
  rintro e w1 ⟨rfl, hb1⟩
  have P2 : Blk (w1.alloc (.cells #[.int .u64 ps, .int .u64 pp, .int .i64 p0, .int .i64 p1, .int .i64 p2, .int .i64 p3, .int .i64 p4, .int .i64 p5, .bool p6, .int .i64 p7] 35)) w1.heap.size 35 #[.int .u64 ps, .int .u64 pp, .int .i64 p0, .int .i64 p1, .int .i64 p2, .int .i64 p3, .int .i64 p4, .int .i64 p5, .bool p6, .int .i64 p7] := Blk.newAt rfl
  have R2 := (Blk.thru0 R0 hb1).alloc (.cells #[.int .u64 ps, .int .u64 pp, .int .i64 p0, .int .i64 p1, .int .i64 p2, .int .i64 p3, .int .i64 p4, .int .i64 p5, .bool p6, .int .i64 p7] 35)
  have G2 := (Blk.thru0 G0 hb1).alloc (.cells #[.int .u64 ps, .int .u64 pp, .int .i64 p0, .int .i64 p1, .int .i64 p2, .int .i64 p3, .int .i64 p4, .int .i64 p5, .bool p6, .int .i64 p7] 35)
  have B1 := below_trans B0 hb1
  have B2 : Below w.heap.size w (w1.alloc (.cells #[.int .u64 ps, .int .u64 pp, .int .i64 p0, .int .i64 p1, .int .i64 p2, .int .i64 p3, .int .i64 p4, .int .i64 p5, .bool p6, .int .i64 p7] 35)) := B1.alloc B1.size _
  have hGP : w.heap.size + 1 + 1 < w1.heap.size := (Blk.thru0 G0 hb1).lt
  clear r0 r1 r2 r3 r4 r5 r6 r7 r8 r9 K0 R0 G0 B0 hb1 B1 HFI
  go_upto_region 4 with fail
  obtain ⟨pb, hpb⟩ : ∃ pb, w1.heap.size = pb := ⟨_, rfl⟩
  generalize (w1.alloc (.cells #[.int .u64 ps, .int .u64 pp, .int .i64 p0, .int .i64 p1, .int .i64 p2, .int .i64 p3, .int .i64 p4, .int .i64 p5, .bool p6, .int .i64 p7] 35)) = w2 at *
  rw [hpb] at P2 hGP ⊢
  clear hpb
  have HP2 := Lib.hid P2
  have HR2 := Lib.hid R2
  have HG2 := Lib.hid G2
  have HB2 := Lib.hid B2
  clear P2 R2 G2 B2
  go_loopw [7, 8] (fun ok i wr => ∃ (j : Nat) (b : Bool) (g : Gt) (p : Tk), j ≤ n ∧ i = .int .i64 j ∧ ok = .bool b ∧ Hid (Below w.heap.size w wr) ∧ Hid (Blk wr (w.heap.size + 1) 30 #[.int .i64 0, .int .i64 0, .int .i64 0, .int .i64 0, .int .i64 0, .int .i64 0, .bool false, .int .i64 0]) ∧ Hid (Blk wr (w.heap.size + 1 + 1) 30 #[.int .i64 g.ops, .int .i64 g.zoom, .int .i64 g.x0, .int .i64 g.y0, .int .i64 g.x1, .int .i64 g.y1, .bool g.void, .int .i64 g.til]) ∧ Hid (Blk wr pb 35 (elT.enc p).toArray) ∧ Hid (res = graR L (n - j) g p b) ∧ Hid (Rt g) ∧ Hid (b = true → Rt p.g) ∧ Hid (p.sec ≤ 18446744073709551615 ∧ p.par ≤ 18446744073709551615)) (fun _ i _ => n - (intOf i).toNat)
  case atStart => exact ⟨0, b, ⟨g0, g1, g2, g3, g4, g5, g6, g7⟩, ⟨ps, pp, ⟨p0, p1, p2, p3, p4, p5, p6, p7⟩⟩, Nat.zero_le _, rfl, rfl, HB2.out, HR2.out, HG2.out, HP2.out, HRS.out.symm ▸ rfl, HRT.out, HFW.out, HFR.out⟩
  case round =>
    rename World => wr
    clear HB2 HR2 HG2 HP2 HRS HRT HFW HFR
    obtain ⟨j, b, g, p, hj, rfl, rfl, HB, HR, HG, HP, HS, HRG, HRP, HPO⟩ := hrel
    have hend : ∀ (m : Gt), res = m → Hid (res = m) := fun _ h => h
    clear hend
    by_cases hgo : j < n ∧ b = true
    · obtain ⟨hlt, rfl⟩ := hgo
      have hd1 : decide ((j : Int) < (n : Int)) = true := by simp; exact hlt
      have HS2 := Lib.hid (show res = graR L (n - (j + 1)) (meetG g p.g) (rfG L p.par) (rfB L p.par) by have h9 := HS.out; rw [show n - j = (n - (j + 1)) + 1 by omega, graR, if_pos rfl] at h9; exact h9)
      have HRM := Lib.hid (rt_meet HRG.out (HRP.out rfl))
      have HM := Lib.hid (fun W => rtmeet_any g p.g HRG.out (HRP.out rfl) W)
      have hpp := HPO.out.2
      have HFI := Lib.hid (fun W (hb : Below w.heap.size w W) => rfindT_any W _ L p.par (HL.out.below hb) (by rw [← HN.out]; omega) hpp)
      have HFR := Lib.hid (hs.rf p.par)
      have HFW := Lib.hid (hw.rt p.par)
      generalize meetG g p.g = m at *
      generalize rfG L p.par = q at *
      generalize rfB L p.par = b2 at *
      obtain ⟨g0, g1, g2, g3, g4, g5, g6, g7⟩ := g
      obtain ⟨ps, pp, ⟨p0, p1, p2, p3, p4, p5, p6, p7⟩⟩ := p
      obtain ⟨m0, m1, m2, m3, m4, m5, m6, m7⟩ := m
      obtain ⟨qs, qp, ⟨q0, q1, q2, q3, q4, q5, q6, q7⟩⟩ := q
      simp only [Gt.V, Tk.V] at HM HFI HG
      have HPL : Hid (Blk wr pb 35 #[.int .u64 ps, .int .u64 pp, .int .i64 p0, .int .i64 p1, .int .i64 p2, .int .i64 p3, .int .i64 p4, .int .i64 p5, .bool p6, .int .i64 p7]) := HP.out
      clear HP HS hpp
      have a0 := HG.out.cell 0
      have a1 := HG.out.cell 1
      have a2 := HG.out.cell 2
      have a3 := HG.out.cell 3
      have a4 := HG.out.cell 4
      have a5 := HG.out.cell 5
      have a6 := HG.out.cell 6
      have a7 := HG.out.cell 7
      simp only [List.getElem?_toArray, List.getElem?_cons_zero, List.getElem?_cons_succ] at a0 a1 a2 a3 a4 a5 a6 a7
      have r0 := HPL.out.cell 0
      have r1 := HPL.out.cell 1
      have r2 := HPL.out.cell 2
      have r3 := HPL.out.cell 3
      have r4 := HPL.out.cell 4
      have r5 := HPL.out.cell 5
      have r6 := HPL.out.cell 6
      have r7 := HPL.out.cell 7
      have r8 := HPL.out.cell 8
      have r9 := HPL.out.cell 9
      simp only [List.getElem?_toArray, List.getElem?_cons_zero, List.getElem?_cons_succ] at r0 r1 r2 r3 r4 r5 r6 r7 r8 r9
      have hgl := HG.out.lt
      have hpl := HPL.out.lt
      go_wp2_with fail
      refine (HM.out _).mono ?_
      rintro e w3 ⟨rfl, hb3⟩
      have HB3 := Lib.hid (below_trans HB.out hb3)
      have HR3 := Lib.hid (Blk.thru0 HR.out hb3)
      have HG3 := Lib.hid (Blk.thru0 HG.out hb3)
      have HP3 := Lib.hid (Blk.thru0 HPL.out hb3)
      clear hb3 a0 a1 a2 a3 a4 a5 a6 a7 r0 r1 r2 r3 r4 r5 r6 r7 r8 r9 HB HR HG HPL HM
      have a0 := HG3.out.cell 0
      have a1 := HG3.out.cell 1
      have a2 := HG3.out.cell 2
      have a3 := HG3.out.cell 3
      have a4 := HG3.out.cell 4
      have a5 := HG3.out.cell 5
      have a6 := HG3.out.cell 6
      have a7 := HG3.out.cell 7
      simp only [List.getElem?_toArray, List.getElem?_cons_zero, List.getElem?_cons_succ] at a0 a1 a2 a3 a4 a5 a6 a7
      have fa0 := HG3.out.frozen 0
      have fa1 := HG3.out.frozen 1
      have fa2 := HG3.out.frozen 2
      have fa3 := HG3.out.frozen 3
      have fa4 := HG3.out.frozen 4
      have fa5 := HG3.out.frozen 5
      have fa6 := HG3.out.frozen 6
      have fa7 := HG3.out.frozen 7
      go_upto_region 7 with fail
      have hbz := HB3.out.size
      have HB4 := Lib.hid (below_put8 HB3.out (g := w.heap.size + 1 + 1) (by omega) (.int .i64 m0) (.int .i64 m1) (.int .i64 m2) (.int .i64 m3) (.int .i64 m4) (.int .i64 m5) (.bool m6) (.int .i64 m7))
      have HR4 := Lib.hid (HR3.out.by8 (g := w.heap.size + 1 + 1) (by omega) (.int .i64 m0) (.int .i64 m1) (.int .i64 m2) (.int .i64 m3) (.int .i64 m4) (.int .i64 m5) (.bool m6) (.int .i64 m7))
      have HG4 := Lib.hid (HG3.out.put8 rfl (.int .i64 m0) (.int .i64 m1) (.int .i64 m2) (.int .i64 m3) (.int .i64 m4) (.int .i64 m5) (.bool m6) (.int .i64 m7))
      have HP4 := Lib.hid (HP3.out.by8 (g := w.heap.size + 1 + 1) (by omega) (.int .i64 m0) (.int .i64 m1) (.int .i64 m2) (.int .i64 m3) (.int .i64 m4) (.int .i64 m5) (.bool m6) (.int .i64 m7))
      clear a0 fa0 a1 fa1 a2 fa2 a3 fa3 a4 fa4 a5 fa5 a6 fa6 a7 fa7 HB3 HR3 HG3 HP3 hgl hpl
      generalize ((((((((w3.setCell ⟨w.heap.size + 1 + 1, 0, none⟩ (.int .i64 m0)).setCell ⟨w.heap.size + 1 + 1, 1, none⟩ (.int .i64 m1)).setCell ⟨w.heap.size + 1 + 1, 2, none⟩ (.int .i64 m2)).setCell ⟨w.heap.size + 1 + 1, 3, none⟩ (.int .i64 m3)).setCell ⟨w.heap.size + 1 + 1, 4, none⟩ (.int .i64 m4)).setCell ⟨w.heap.size + 1 + 1, 5, none⟩ (.int .i64 m5)).setCell ⟨w.heap.size + 1 + 1, 6, none⟩ (.bool m6)).setCell ⟨w.heap.size + 1 + 1, 7, none⟩ (.int .i64 m7)) = w4 at *
      have r0 := HP4.out.cell 0
      have r1 := HP4.out.cell 1
      have r2 := HP4.out.cell 2
      have r3 := HP4.out.cell 3
      have r4 := HP4.out.cell 4
      have r5 := HP4.out.cell 5
      have r6 := HP4.out.cell 6
      have r7 := HP4.out.cell 7
      have r8 := HP4.out.cell 8
      have r9 := HP4.out.cell 9
      simp only [List.getElem?_toArray, List.getElem?_cons_zero, List.getElem?_cons_succ] at r0 r1 r2 r3 r4 r5 r6 r7 r8 r9
      go_wp2_with fail
      refine (HFI.out _ HB4.out).mono ?_
      rintro e w5 ⟨rfl, hb5⟩
      have HB5 := Lib.hid (below_trans HB4.out hb5)
      have HR5 := Lib.hid (Blk.thru0 HR4.out hb5)
      have HG5 := Lib.hid (Blk.thru0 HG4.out hb5)
      have HP5 := Lib.hid (Blk.thru0 HP4.out hb5)
      clear hb5 r0 r1 r2 r3 r4 r5 r6 r7 r8 r9 HB4 HR4 HG4 HP4 HFI
      have r0 := HP5.out.cell 0
      have r1 := HP5.out.cell 1
      have r2 := HP5.out.cell 2
      have r3 := HP5.out.cell 3
      have r4 := HP5.out.cell 4
      have r5 := HP5.out.cell 5
      have r6 := HP5.out.cell 6
      have r7 := HP5.out.cell 7
      have r8 := HP5.out.cell 8
      have r9 := HP5.out.cell 9
      simp only [List.getElem?_toArray, List.getElem?_cons_zero, List.getElem?_cons_succ] at r0 r1 r2 r3 r4 r5 r6 r7 r8 r9
      have fr0 := HP5.out.frozen 0
      have fr1 := HP5.out.frozen 1
      have fr2 := HP5.out.frozen 2
      have fr3 := HP5.out.frozen 3
      have fr4 := HP5.out.frozen 4
      have fr5 := HP5.out.frozen 5
      have fr6 := HP5.out.frozen 6
      have fr7 := HP5.out.frozen 7
      have fr8 := HP5.out.frozen 8
      have fr9 := HP5.out.frozen 9
      go_upto_region 5 with fail
      have HB6 := Lib.hid (below_put10 HB5.out (g := pb) (by omega) (.int .u64 qs) (.int .u64 qp) (.int .i64 q0) (.int .i64 q1) (.int .i64 q2) (.int .i64 q3) (.int .i64 q4) (.int .i64 q5) (.bool q6) (.int .i64 q7))
      have HR6 := Lib.hid (HR5.out.by10 (g := pb) (by omega) (.int .u64 qs) (.int .u64 qp) (.int .i64 q0) (.int .i64 q1) (.int .i64 q2) (.int .i64 q3) (.int .i64 q4) (.int .i64 q5) (.bool q6) (.int .i64 q7))
      have HG6 := Lib.hid (HG5.out.by10 (g := pb) (by omega) (.int .u64 qs) (.int .u64 qp) (.int .i64 q0) (.int .i64 q1) (.int .i64 q2) (.int .i64 q3) (.int .i64 q4) (.int .i64 q5) (.bool q6) (.int .i64 q7))
      have HP6 := Lib.hid (HP5.out.put10 rfl (.int .u64 qs) (.int .u64 qp) (.int .i64 q0) (.int .i64 q1) (.int .i64 q2) (.int .i64 q3) (.int .i64 q4) (.int .i64 q5) (.bool q6) (.int .i64 q7))
      clear r0 fr0 r1 fr1 r2 fr2 r3 fr3 r4 fr4 r5 fr5 r6 fr6 r7 fr7 r8 fr8 r9 fr9 HB5 HR5 HG5 HP5
      generalize ((((((((((w5.setCell ⟨pb, 0, none⟩ (.int .u64 qs)).setCell ⟨pb, 1, none⟩ (.int .u64 qp)).setCell ⟨pb, 2, none⟩ (.int .i64 q0)).setCell ⟨pb, 3, none⟩ (.int .i64 q1)).setCell ⟨pb, 4, none⟩ (.int .i64 q2)).setCell ⟨pb, 5, none⟩ (.int .i64 q3)).setCell ⟨pb, 6, none⟩ (.int .i64 q4)).setCell ⟨pb, 7, none⟩ (.int .i64 q5)).setCell ⟨pb, 8, none⟩ (.bool q6)).setCell ⟨pb, 9, none⟩ (.int .i64 q7)) = w6 at *
      go_wp2
      go_roundw
      case rel => exact ⟨j + 1, b2, ⟨m0, m1, m2, m3, m4, m5, m6, m7⟩, ⟨qs, qp, ⟨q0, q1, q2, q3, q4, q5, q6, q7⟩⟩, by omega, by go_num, rfl, HB6, HR6, HG6, HP6, HS2, HRM, HFW, HFR⟩
      case measure => simp [intOf]; omega
    · have HE := Lib.hid (show res = g by
        have h9 := HS.out
        by_cases h1 : j < n
        · have h2 : b = false := by cases b; rfl; exact absurd ⟨h1, rfl⟩ hgo
          rw [h2, show n - j = (n - (j + 1)) + 1 by omega, graR, if_neg (by simp)] at h9
          exact h9
        · rw [show n - j = 0 by omega] at h9; exact h9)
      obtain ⟨g0, g1, g2, g3, g4, g5, g6, g7⟩ := g
      rw [HE.out]
      simp only [Gt.V] at HG ⊢
      have hsz := HB.out.size
      have hgl := HG.out.lt
      have hrl := HR.out.lt
      by_cases h1 : j < n
      · have h2 : b = false := by cases b; rfl; exact absurd ⟨h1, rfl⟩ hgo
        subst h2
        have hd1 : decide ((j : Int) < (n : Int)) = true := by simp; exact h1
        go_upto_region 8 with fail
        have a0 := HG.out.cell 0
        have a1 := HG.out.cell 1
        have a2 := HG.out.cell 2
        have a3 := HG.out.cell 3
        have a4 := HG.out.cell 4
        have a5 := HG.out.cell 5
        have a6 := HG.out.cell 6
        have a7 := HG.out.cell 7
        simp only [List.getElem?_toArray, List.getElem?_cons_zero, List.getElem?_cons_succ] at a0 a1 a2 a3 a4 a5 a6 a7
        have z0 := HR.out.cell 0
        have z1 := HR.out.cell 1
        have z2 := HR.out.cell 2
        have z3 := HR.out.cell 3
        have z4 := HR.out.cell 4
        have z5 := HR.out.cell 5
        have z6 := HR.out.cell 6
        have z7 := HR.out.cell 7
        simp only [List.getElem?_toArray, List.getElem?_cons_zero, List.getElem?_cons_succ] at z0 z1 z2 z3 z4 z5 z6 z7
        have fz0 := HR.out.frozen 0
        have fz1 := HR.out.frozen 1
        have fz2 := HR.out.frozen 2
        have fz3 := HR.out.frozen 3
        have fz4 := HR.out.frozen 4
        have fz5 := HR.out.frozen 5
        have fz6 := HR.out.frozen 6
        have fz7 := HR.out.frozen 7
        go_wp2
        refine bodyPost_ret (v := .agg #[.int .i64 g0, .int .i64 g1, .int .i64 g2, .int .i64 g3, .int .i64 g4, .int .i64 g5, .bool g6, .int .i64 g7]) ?_ rfl ⟨by rw [HE.out], ?_⟩
        · simp [results, Try.results19, go_sem, *]
        · have hb := HB.out
          go_grown
      · have hd1 : decide ((j : Int) < (n : Int)) = false := by simp; omega
        go_upto_region 8 with fail
        have a0 := HG.out.cell 0
        have a1 := HG.out.cell 1
        have a2 := HG.out.cell 2
        have a3 := HG.out.cell 3
        have a4 := HG.out.cell 4
        have a5 := HG.out.cell 5
        have a6 := HG.out.cell 6
        have a7 := HG.out.cell 7
        simp only [List.getElem?_toArray, List.getElem?_cons_zero, List.getElem?_cons_succ] at a0 a1 a2 a3 a4 a5 a6 a7
        have z0 := HR.out.cell 0
        have z1 := HR.out.cell 1
        have z2 := HR.out.cell 2
        have z3 := HR.out.cell 3
        have z4 := HR.out.cell 4
        have z5 := HR.out.cell 5
        have z6 := HR.out.cell 6
        have z7 := HR.out.cell 7
        simp only [List.getElem?_toArray, List.getElem?_cons_zero, List.getElem?_cons_succ] at z0 z1 z2 z3 z4 z5 z6 z7
        have fz0 := HR.out.frozen 0
        have fz1 := HR.out.frozen 1
        have fz2 := HR.out.frozen 2
        have fz3 := HR.out.frozen 3
        have fz4 := HR.out.frozen 4
        have fz5 := HR.out.frozen 5
        have fz6 := HR.out.frozen 6
        have fz7 := HR.out.frozen 7
        go_wp2
        refine bodyPost_ret (v := .agg #[.int .i64 g0, .int .i64 g1, .int .i64 g2, .int .i64 g3, .int .i64 g4, .int .i64 g5, .bool g6, .int .i64 g7]) ?_ rfl ⟨by rw [HE.out], ?_⟩
        · simp [results, Try.results19, go_sem, *]
        · have hb := HB.out
          go_grown
end Go.Proofs.Yteepimmnajnhfaa
