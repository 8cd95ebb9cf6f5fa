/- The document's Right and Make of tickets, by contract. -/
import Derived.Test.YtmlmndaflgfdkaaTo21
namespace Go.Proofs.Ytmlmndaflgfdkaa
set_option linter.unusedVariables false
set_option linter.unusedSimpArgs false
open Go.RowKit
set_option maxHeartbeats 2000000 in
theorem rrightT_any (g : Gt) (w : World) :
    Calls Try.prog 26 #[g.V] w fun e w' => e = .returned (.bool (rightG g)) ∧ Below w.heap.size w w' := by
  obtain ⟨ops, zoom, x0, y0, x1, y1, void, til⟩ := g
  simp only [Gt.V]
  cases void with
  | true =>
    go_enter Try.func26, Try.ntmps26
    go_wp2
    all_goals
      go_ret
      refine ⟨ret_bool ?_, by go_grown⟩
      rw [Bool.eq_iff_iff]
      simp [rightG, numsB] at *
      omega
  | false =>
    go_enter Try.func26, Try.ntmps26
    go_wp2_with (go_at_call 44; refine (ref_right _ _ _ _ _).mono ?_; rintro e w1 ⟨rfl, hb⟩)
    all_goals
      go_ret
      refine ⟨ret_bool ?_, by first | (go_grown; done) | exact below_trans (by go_grown) hb⟩
      rw [Bool.eq_iff_iff]
      simp [rightG, numsB] at *
      omega
theorem rrightT_lit (g : Gt) (b : Bool) (h : rightG g = b) : Hid (∀ w, Calls Try.prog 26 #[g.V] w fun e w' => e = .returned (.bool b) ∧ Below w.heap.size w w') := by
  subst h; exact fun w => rrightT_any g w
def MkP (v : Value) (L : List Tk) (k : Tk) (w : World) (e : Ending) (w' : World) : Prop := ∃ v', e = .returned (.tuple #[v', .int .i64 (putE L k)]) ∧ ((putE L k ≠ 0 ∧ v' = v ∧ Below w.heap.size w w') ∨ (putE L k = 0 ∧ FE elT w v' (L ++ [k]) w'))
set_option maxRecDepth 100000 in
set_option maxHeartbeats 8000000 in
theorem make_any (w : World) (v : Value) (L : List Tk) (fr dr : Nat) (g : Gt) (h : ERd elT w v L) (hl : L.length ≤ 1000) (hd : dr ≤ 18446744073709551615) :
    Calls Try.prog 14 #[v, .int .u64 fr, .int .u64 dr, g.V] w (MkP v L ⟨dr, fr, g⟩ w) := by
  obtain ⟨A1, c1, rfl, -, -⟩ := h.shape
  have HL := Lib.hid h
  clear h
  have HTY := Lib.hid (show Try.prog.underlying 25 = some (.slice elT.T) from Try.underlying25)
  obtain ⟨n, hn⟩ : ∃ n, n = L.length := ⟨_, rfl⟩
  have HN := Lib.hid hn
  rw [← hn] at HL hl ⊢
  clear hn
  have HFI := Lib.hid (fun W (hb : Below w.heap.size w W) => rfindT_any W _ L dr (HL.out.below hb) (by rw [← HN.out]; omega) hd)
  obtain ⟨q, hq⟩ : ∃ q, rfG L dr = q := ⟨_, rfl⟩
  obtain ⟨b, hb⟩ : ∃ b, rfB L dr = b := ⟨_, rfl⟩
  rw [hq, hb] at HFI
  have HBF := Lib.hid hb
  clear hq hb
  obtain ⟨xs, xp, ⟨h0, h1, h2, h3, h4, h5, h6, h7⟩⟩ := q
  obtain ⟨g0, g1, g2, g3, g4, g5, g6, g7⟩ := g
  simp only [Gt.V, Tk.V] at HFI ⊢
  have HG0 := Lib.hid (Blk.new w 30 #[.int .i64 g0, .int .i64 g1, .int .i64 g2, .int .i64 g3, .int .i64 g4, .int .i64 g5, .bool g6, .int .i64 g7])
  have HB0 := Lib.hid (show Below w.heap.size w (w.alloc (.cells #[.int .i64 g0, .int .i64 g1, .int .i64 g2, .int .i64 g3, .int .i64 g4, .int .i64 g5, .bool g6, .int .i64 g7] 30)) from (Below.refl _ _).alloc (Nat.le_refl _) _)
  go_enter Try.func14, Try.ntmps14
  go_upto_region 1 with fail
  generalize (w.alloc (.cells #[.int .i64 g0, .int .i64 g1, .int .i64 g2, .int .i64 g3, .int .i64 g4, .int .i64 g5, .bool g6, .int .i64 g7] 30)) = w0 at *
  go_wp2_with fail
  refine (HFI.out _ HB0.out).mono ?_
  rintro e w1 ⟨rfl, hb1⟩
  have hal : Below w1.heap.size w1 (w1.alloc (.cells #[.int .u64 xs, .int .u64 xp, .int .i64 h0, .int .i64 h1, .int .i64 h2, .int .i64 h3, .int .i64 h4, .int .i64 h5, .bool h6, .int .i64 h7] 35)) := (Below.refl _ _).alloc (Nat.le_refl _) _
  have HG2 := Lib.hid (Blk.thru0 (Blk.thru0 HG0.out hb1) hal)
  have HB2 := Lib.hid (below_trans (below_trans HB0.out hb1) hal)
  clear hb1 hal HG0 HB0 HFI
  go_upto_region 2 with fail
  generalize (w1.alloc (.cells #[.int .u64 xs, .int .u64 xp, .int .i64 h0, .int .i64 h1, .int .i64 h2, .int .i64 h3, .int .i64 h4, .int .i64 h5, .bool h6, .int .i64 h7] 35)) = w2 at *
  have q0 := HG2.out.cell 0
  have q1 := HG2.out.cell 1
  have q2 := HG2.out.cell 2
  have q3 := HG2.out.cell 3
  have q4 := HG2.out.cell 4
  have q5 := HG2.out.cell 5
  have q6 := HG2.out.cell 6
  have q7 := HG2.out.cell 7
  simp only [List.getElem?_toArray, List.getElem?_cons_zero, List.getElem?_cons_succ] at q0 q1 q2 q3 q4 q5 q6 q7
  obtain ⟨br, hbr⟩ : ∃ br, rightG ⟨g0, g1, g2, g3, g4, g5, g6, g7⟩ = br := ⟨_, rfl⟩
  have HRI := rrightT_lit ⟨g0, g1, g2, g3, g4, g5, g6, g7⟩ br hbr
  have HBR := Lib.hid hbr
  clear hbr
  go_wp2_with fail
  refine (HRI.out _).mono ?_
  rintro e w3 ⟨rfl, hb3⟩
  have HG := Lib.hid (Blk.thru0 HG2.out hb3)
  have HB := Lib.hid (below_trans HB2.out hb3)
  clear hb3 HG2 HB2 HRI q0 q1 q2 q3 q4 q5 q6 q7
  cases br with
  | false =>
    have HE := Lib.hid (show putE L ⟨dr, fr, ⟨g0, g1, g2, g3, g4, g5, g6, g7⟩⟩ = 1 by exact if_pos HBR.out)
    go_wp2
    go_ret2
    exact ⟨_, by rw [HE.out]; rfl, .inl ⟨by rw [HE.out]; decide, rfl, HB.out⟩⟩
  | true =>
    by_cases hd0 : dr = 0
    · have hd0' : ((dr : Int) == 0) = true := by simp; exact hd0
      have HF0 := Lib.hid (show frE (secs L) dr = 40 from if_pos hd0)
      clear hd0
      have HE := Lib.hid (show putE L ⟨dr, fr, ⟨g0, g1, g2, g3, g4, g5, g6, g7⟩⟩ = 40 by rw [putE, if_neg (by rw [HBR.out]; decide)]; show (if frE (secs L) dr ≠ 0 then _ else _) = _; rw [HF0.out]; rfl)
      go_wp2
      go_ret2
      exact ⟨_, by rw [HE.out]; rfl, .inl ⟨by rw [HE.out]; decide, rfl, HB.out⟩⟩
    · have hd0' : ((dr : Int) == 0) = false := by simp; exact hd0
      cases b with
      | true =>
        have HF0 := Lib.hid (show frE (secs L) dr = 20 by rw [frE, if_neg hd0, if_pos (by have h9 := HBF.out; rw [rfB] at h9; simpa using h9)])
        clear hd0
        have HE := Lib.hid (show putE L ⟨dr, fr, ⟨g0, g1, g2, g3, g4, g5, g6, g7⟩⟩ = 20 by rw [putE, if_neg (by rw [HBR.out]; decide)]; show (if frE (secs L) dr ≠ 0 then _ else _) = _; rw [HF0.out]; rfl)
        go_wp2
        go_ret2
        exact ⟨_, by rw [HE.out]; rfl, .inl ⟨by rw [HE.out]; decide, rfl, HB.out⟩⟩
      | false =>
        have HF0 := Lib.hid (show frE (secs L) dr = 0 by rw [frE, if_neg hd0, if_neg (by have h9 := HBF.out; rw [rfB] at h9; simpa using h9)])
        clear hd0
        by_cases h8 : 8 ≤ n
        · have h8' : (8 : Int) ≤ (n : Int) := by omega
          have HE := Lib.hid (show putE L ⟨dr, fr, ⟨g0, g1, g2, g3, g4, g5, g6, g7⟩⟩ = 22 by rw [putE, if_neg (by rw [HBR.out]; decide)]; show (if frE (secs L) dr ≠ 0 then _ else _) = _; rw [HF0.out, if_neg (by decide), if_pos (by rw [← HN.out]; exact h8)])
          go_wp2
          go_ret2
          exact ⟨_, by rw [HE.out]; rfl, .inl ⟨by rw [HE.out]; decide, rfl, HB.out⟩⟩
        · have h8' : ¬ (8 : Int) ≤ (n : Int) := by omega
          have HE := Lib.hid (show putE L ⟨dr, fr, ⟨g0, g1, g2, g3, g4, g5, g6, g7⟩⟩ = 0 by rw [putE, if_neg (by rw [HBR.out]; decide)]; show (if frE (secs L) dr ≠ 0 then _ else _) = _; rw [HF0.out, if_neg (by decide), if_neg (by rw [← HN.out]; exact h8)])
          go_wp2_with fail
          go_loopw [12, 13] (fun v i wr => ∃ (j : Nat) (v0 : Value), j ≤ n ∧ v = v0 ∧ i = .int .i64 j ∧ Hid (FE elT w3 v0 (L.take j) wr)) (fun _ i _ => n - (intOf i).toNat)
          case atStart => exact ⟨0, _, Nat.zero_le _, rfl, rfl, by simpa [Hid] using FE.nil_ (E := elT) w3 w3 (Below.refl _ _)⟩
          case round =>
            rename World => wr
            obtain ⟨j, v0, hj, hv, rfl, HF⟩ := hrel
            have hv' := hv.symm
            clear hv
            subst hv'
            by_cases hlt : j < n
            · have hjl : j < L.length := by rw [← HN.out]; exact hlt
              have hx : L[j]? = some L[j] := List.getElem?_eq_getElem hjl
              have HTK := Lib.hid (show L.take (j + 1) = L.take j ++ [L[j]] from List.take_succ_eq_append_getElem hjl)
              have HLE := Lib.hid (show (L.take j).length ≤ 1000000 by rw [List.length_take]; omega)
              obtain ⟨gg, oo, rfl, hgz, a0, a1, a2, a3, a4, a5, a6, a7, a8, a9⟩ := (HL.out.below (below_trans HB.out HF.out.bel)).ten hx
              generalize L[j] = x at *
              clear hx
              obtain ⟨A5, c5, rfl, -, -⟩ := HF.out.own.slice
              obtain ⟨ys, yp, ⟨k0, k1, k2, k3, k4, k5, k6, k7⟩⟩ := x
              simp only at a0 a1 a2 a3 a4 a5 a6 a7 a8 a9 HTK
              have hlt2 : (j : Int) < n := by omega
              have HFH := Lib.hid HF.out
              clear HF hgz
              generalize hTL : L.take j = TL at *
              have HTL := Lib.hid hTL
              clear hTL
              go_wp2_with ((at_builtin; refine wpList_epush elT_ok rfl (.tmp 39) (.tmp 44) _ rfl HTY.out _ TL ⟨ys, yp, ⟨k0, k1, k2, k3, k4, k5, k6, k7⟩⟩ wr.heap.size 1 rfl rfl (HFH.out.own.below ((Below.refl _ _).alloc (Nat.le_refl _) _)) (new_t wr _ ⟨ys, yp, ⟨k0, k1, k2, k3, k4, k5, k6, k7⟩⟩) HLE.out ?_; intro v2 w9 hA2; have HP2 := Lib.hid (HFH.out.push hA2); clear hA2))
              go_roundw
              case rel => exact ⟨j + 1, _, by omega, rfl, by go_num, by have h9 := HP2.out; rw [← HTK.out] at h9; exact h9⟩
              case measure => simp [intOf]; omega
            · obtain rfl : j = n := by omega
              have HFH := Lib.hid (show FE elT w3 _ L wr by have h9 := HF.out; rw [List.take_of_length_le (by rw [← HN.out]; omega)] at h9; exact h9)
              have HGW := Lib.hid (Blk.thru0 HG.out HF.out.bel)
              clear HF
              obtain ⟨A5, c5, rfl, -, -⟩ := HFH.out.own.slice
              have HLE := Lib.hid (show L.length ≤ 1000000 by rw [← HN.out]; omega)
              have q0 := HGW.out.cell 0
              have q1 := HGW.out.cell 1
              have q2 := HGW.out.cell 2
              have q3 := HGW.out.cell 3
              have q4 := HGW.out.cell 4
              have q5 := HGW.out.cell 5
              have q6 := HGW.out.cell 6
              have q7 := HGW.out.cell 7
              simp only [List.getElem?_toArray, List.getElem?_cons_zero, List.getElem?_cons_succ] at q0 q1 q2 q3 q4 q5 q6 q7
              go_wp2_with ((at_builtin; refine wpList_epush elT_ok rfl (.tmp 46) (.tmp 51) _ rfl HTY.out _ L ⟨dr, fr, ⟨g0, g1, g2, g3, g4, g5, g6, g7⟩⟩ wr.heap.size 1 rfl rfl (HFH.out.own.below ((Below.refl _ _).alloc (Nat.le_refl _) _)) (new_t wr _ ⟨dr, fr, ⟨g0, g1, g2, g3, g4, g5, g6, g7⟩⟩) HLE.out ?_; intro v2 w9 hA2; have HP2 := Lib.hid (HFH.out.push hA2); clear hA2))
              go_ret2
              exact ⟨_, by rw [HE.out]; rfl, .inr ⟨HE.out, HP2.out.own, below_trans HB.out HP2.out.bel, fun i hi => Nat.le_trans HB.out.size (HP2.out.far i hi)⟩⟩
end Go.Proofs.Ytmlmndaflgfdkaa
