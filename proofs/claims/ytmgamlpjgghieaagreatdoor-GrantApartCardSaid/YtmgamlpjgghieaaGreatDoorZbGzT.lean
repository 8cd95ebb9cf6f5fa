/- grant: runsOf, by contract. -/
import Derived.Test.YtmgamlpjgghieaaGreatDoorZbGzMM
import Derived.Deep.DeepCutAuto
namespace Go.Proofs.YtmgamlpjgghieaaGreatDoor
set_option linter.unusedVariables false
set_option linter.unusedSimpArgs false
open Go.RowKit
theorem zrun_min {P : Program} (w : World) (ts : Array TypeId) (t : TypeId) (k k' : IntKind) (x y : Int) : (Builtin.min_ ts t #[.int k x, .int k' y]).run P w = .ok (.int k (min x y)) w := by
  rw [run_min_int2]
  have : (if y < x then y else x) = min x y := by omega
  rw [this]
attribute [local go_sem high] zrun_min
set_option maxRecDepth 100000 in
set_option maxHeartbeats 16000000 in
theorem runsOf_any (w : World) (v : Value) (E : List Ed) (row : Int) (h : ERd elEd w v E) (hT : TzOk w) (hs : E.Pairwise fun a b => a.x ≤ b.x) (ho : ∀ e ∈ E, EdOk e) (hl : E.length ≤ 100000) :
    Calls Tryz.prog 88 #[v, .int .i64 row] w (RunsP w E row) := by
  obtain ⟨A1, c1, rfl, hl1, hl2, -⟩ := id h
  have HL := Lib.hid h
  have HT := Lib.hid hT
  have HOK := Lib.hid ho
  have HSR := Lib.hid hs
  have HI0 := Lib.hid (ScI.start (row := row) ho)
  clear h hT ho hs hl1 hl2
  obtain ⟨n, hn⟩ : ∃ n, n = E.length := ⟨_, rfl⟩
  rw [← hn] at HL hl ⊢
  have HN := Lib.hid hn; clear hn
  have HA1 := Lib.hid (show Below w.heap.size w ((w.alloc (.cells #[.int .i64 0, .int .i64 0, .int .i64 0, .int .i64 0, .int .i64 0, .int .i64 0, .int .i64 0, .int .i64 0, .int .i64 0, .int .i64 0, .int .i64 0, .int .i64 0, .int .i64 0, .int .i64 0, .int .i64 0, .int .i64 0, .int .i64 0, .int .u64 0] 139)).alloc (.cells #[.int .i64 0, .int .i64 0, .int .i64 0, .int .i64 0, .int .i64 0, .int .i64 0, .int .i64 0, .int .i64 0, .int .i64 0, .int .i64 0, .int .i64 0, .int .i64 0, .int .i64 0, .int .i64 0, .int .i64 0, .int .i64 0, .int .i64 0, .int .u64 0] 139)) from ((Below.refl _ _).alloc (Nat.le_refl _) _).alloc (by simp) _)
  have HST := Lib.hid (show RSt w w.heap.size (w.heap.size + 1) (.slice none 0 0) [] (cP ([] : List Ed) row true) (cP ([] : List Ed) row false) ((w.alloc (.cells #[.int .i64 0, .int .i64 0, .int .i64 0, .int .i64 0, .int .i64 0, .int .i64 0, .int .i64 0, .int .i64 0, .int .i64 0, .int .i64 0, .int .i64 0, .int .i64 0, .int .i64 0, .int .i64 0, .int .i64 0, .int .i64 0, .int .i64 0, .int .u64 0] 139)).alloc (.cells #[.int .i64 0, .int .i64 0, .int .i64 0, .int .i64 0, .int .i64 0, .int .i64 0, .int .i64 0, .int .i64 0, .int .i64 0, .int .i64 0, .int .i64 0, .int .i64 0, .int .i64 0, .int .i64 0, .int .i64 0, .int .i64 0, .int .i64 0, .int .u64 0] 139)) from by
    have e : ∀ a, cP ([] : List Ed) row a = fun _ => 0 := fun a => by funext z; rfl
    rw [e, e]
    have h2 := pile_zero (w.alloc (.cells #[.int .i64 0, .int .i64 0, .int .i64 0, .int .i64 0, .int .i64 0, .int .i64 0, .int .i64 0, .int .i64 0, .int .i64 0, .int .i64 0, .int .i64 0, .int .i64 0, .int .i64 0, .int .i64 0, .int .i64 0, .int .i64 0, .int .i64 0, .int .u64 0] 139))
    rw [World.size_alloc] at h2
    exact ⟨⟨EOwn.nil_ _, HA1.out, fun i hi => by simp [Value.ownBlock] at hi⟩, (pile_zero w).below ((Below.refl _ _).alloc (Nat.le_refl _) _), h2, by omega, by omega, by omega⟩)
  go_enter Tryz.func88, Tryz.ntmps88
  go_wp2_with fail
  generalize ((w.alloc (.cells #[.int .i64 0, .int .i64 0, .int .i64 0, .int .i64 0, .int .i64 0, .int .i64 0, .int .i64 0, .int .i64 0, .int .i64 0, .int .i64 0, .int .i64 0, .int .i64 0, .int .i64 0, .int .i64 0, .int .i64 0, .int .i64 0, .int .i64 0, .int .u64 0] 139)).alloc (.cells #[.int .i64 0, .int .i64 0, .int .i64 0, .int .i64 0, .int .i64 0, .int .i64 0, .int .i64 0, .int .i64 0, .int .i64 0, .int .i64 0, .int .i64 0, .int .i64 0, .int .i64 0, .int .i64 0, .int .i64 0, .int .i64 0, .int .i64 0, .int .u64 0] 139)) = W0 at *
  clear HA1
  obtain ⟨p, hp⟩ : ∃ p, w.heap.size = p := ⟨_, rfl⟩
  obtain ⟨q, hq⟩ : ∃ q, w.heap.size + 1 = q := ⟨_, rfl⟩
  rw [hq, hp] at HST
  have HPQ := Lib.hid (And.intro hp hq)
  (try rw [hq])
  (try rw [hp])
  clear hp hq
  go_loopw [5, 8, 14] (fun v vx i wr => ∃ (j : Nat) (v0 : Value) (x : Int) (l : List Rn), j ≤ n ∧ v = v0 ∧ vx = .int .i64 x ∧ i = .int .i64 j ∧ Hid (ScI E (E.take j) row x l ∧ RSt w p q v0 l (cP (E.take j) row true) (cP (E.take j) row false) wr)) (fun _ _ i _ => n - (intOf i).toNat)
  case atStart => exact ⟨0, _, 0, [], Nat.zero_le _, rfl, rfl, rfl, Lib.hid ⟨HI0.out, HST.out⟩⟩
  case round =>
    rename World => wr
    clear HST HI0
    obtain ⟨j, v0, xx, l, hj, hv, rfl, rfl, HS0⟩ := hrel
    have hv' := hv.symm
    clear hv
    subst hv'
    by_cases hlt : j < n
    · have hji : (j : Int) < (n : Int) := by omega
      have hkl : j < E.length := by rw [← HN.out]; exact hlt
      have hx : E[j]? = some E[j] := List.getElem?_eq_getElem hkl
      have hrx := HOK.out _ (List.getElem_mem hkl)
      have HTK := Lib.hid (List.take_succ_eq_append_getElem hkl)
      have HSP := Lib.hid (show E = E.take j ++ E[j] :: E.drop (j + 1) by rw [← List.drop_eq_getElem_cons hkl, List.take_append_drop])
      have HGO := Lib.hid (fun hr => HS0.out.1.go HSP.out HSR.out hrx hr)
      have HSK := Lib.hid (fun (hr : relE (E[j]'hkl) row = false) => HS0.out.1.skip (e := E[j]'hkl) hr)
      have HCB := Lib.hid (show ∀ a z, -100000 ≤ cP (E.take j) row a z ∧ cP (E.take j) row a z ≤ 100000 from fun a z => by
        have h9 := cP_bd row a z (E.take j) (fun e he => HOK.out e (List.mem_of_mem_take he))
        rw [List.length_take] at h9
        omega)
      have HLL := Lib.hid (show l.length ≤ 100000 by have h9 := HS0.out.1.len; rw [List.length_take] at h9; omega)
      obtain ⟨g, o, rfl, hc⟩ := (HL.out.below HS0.out.2.fe.bel).cell hx
      generalize E[j] = e9 at *
      clear hx HSP
      obtain ⟨x0, x1, x2, x3, x4, x5⟩ := e9
      have a0 : wr.cell? ⟨g, o + j * 6 + 0, none⟩ = some (.int .i64 x0) := hc 0 _ rfl
      have a1 : wr.cell? ⟨g, o + j * 6 + 1, none⟩ = some (.int .i64 x1) := hc 1 _ rfl
      have a2 : wr.cell? ⟨g, o + j * 6 + 2, none⟩ = some (.int .i64 x2) := hc 2 _ rfl
      have a3 : wr.cell? ⟨g, o + j * 6 + 3, none⟩ = some (.int .i64 x3) := hc 3 _ rfl
      have a4 : wr.cell? ⟨g, o + j * 6 + 4, none⟩ = some (.int .i64 x4) := hc 4 _ rfl
      have a5 : wr.cell? ⟨g, o + j * 6 + 5, none⟩ = some (.int .i64 x5) := hc 5 _ rfl
      simp only [Nat.add_zero] at a0
      unfold EdOk at hrx
      simp only at hrx
      obtain ⟨b0, b1, b2, b3, b4, hk, b6, b7, b8⟩ := hrx
      obtain ⟨kz, rfl⟩ := Int.eq_ofNat_of_zero_le b6
      have hkz : kz < 17 := by omega
      have HBX := Lib.hid HS0.out.1.bd
      clear hc b6 b7
      have HAL := Lib.hid (show Below wr.heap.size wr (wr.alloc (.cells #[.int .i64 x0, .int .i64 x1, .int .i64 x2, .int .i64 x3, .int .i64 (kz : Int), .int .i64 x5] 126)) from (Below.refl _ _).alloc (Nat.le_refl _) _)
      have HS := Lib.hid (HS0.out.2.below HAL.out)
      have HEB := Lib.hid (Blk.new wr 126 #[.int .i64 x0, .int .i64 x1, .int .i64 x2, .int .i64 x3, .int .i64 (kz : Int), .int .i64 x5])
      have HNB := Lib.hid (show v0.ownBlock ≠ some wr.heap.size from fun e => by have := HS0.out.2.fe.own.lt e; omega)
      have HTZ := Lib.hid (HT.out.below (HS.out.fe.bel))
      clear HAL
      have hx1 : wrap64 (x0 - 1) = x0 - 1 := by unfold wrap64; omega
      by_cases hrel : x1 ≤ row ∧ row ≤ x2
      · have HRE := Lib.hid (show relE ⟨x0, x1, x2, x3, (kz : Int), x5⟩ row = true by simpa [relE] using hrel)
        have HSI := Lib.hid (HGO.out HRE.out)
        clear HGO HSK
        have r1 : ¬ row < x1 := by omega
        have r2 : ¬ x2 < row := by omega
        clear hrel
        obtain ⟨gg, hgg⟩ : ∃ gg, grN (cP (E.take j) row true) = gg := ⟨_, rfl⟩
        obtain ⟨ll, hll⟩ : ∃ ll, leN (cP (E.take j) row false) = ll := ⟨_, rfl⟩
        have HGR := Lib.hid (show GrP (cP (E.take j) row true) gg by rw [← hgg]; exact grN_spec _)
        have HLE := Lib.hid (show LeP (cP (E.take j) row false) ll by rw [← hll]; exact leN_spec _)
        rw [hgg, hll] at HSI
        clear hgg hll
        have hgb := gr_bd HGR.out
        have hlb := le_bd HLE.out
        obtain ⟨Av, cv, rfl, -, -⟩ := HS.out.fe.own.slice
        go_wp2_with fail
        obtain ⟨ge, hge⟩ : ∃ ge, wr.heap.size = ge := ⟨_, rfl⟩
        rw [hge] at HEB HNB
        (try rw [hge])
        generalize (wr.alloc (.cells #[.int .i64 x0, .int .i64 x1, .int .i64 x2, .int .i64 x3, .int .i64 (kz : Int), .int .i64 x5] 126)) = W at *
        clear hge a0 a1 a2 a3 a4 a5 HS0
        refine (greatest_any W p _ HS.out.pa).mono ?_
        rintro e w2 ⟨g2, rfl, hg2, hw2⟩
        subst hw2
        obtain rfl := hg2.uniq HGR.out
        clear hg2
        go_wp2_with fail
        refine (least_any _ q _ HS.out.pc HTZ.out).mono ?_
        rintro e w2 ⟨l2, rfl, hl2, hw2⟩
        subst hw2
        obtain rfl := hl2.uniq HLE.out
        clear hl2
        have y0 := HEB.out.cell 0
        simp only [List.getElem?_toArray, List.getElem?_cons_zero] at y0
        obtain ⟨zm, hzm⟩ : ∃ zm, min g2 l2 = zm := ⟨_, rfl⟩
        rw [hzm] at HSI
        by_cases hc : xx < x0 ∧ 0 < zm
        · rw [if_pos hc] at HSI
          obtain ⟨h1, h2⟩ := hc
          have HFO := Lib.hid (follow_any _ _ l ⟨xx, x0 - 1, zm⟩ HS.out.fe.own (by have := HLL.out; omega) (by have := HBX.out; simp; omega))
          simp only at HFO
          go_wp2_with fail
          refine HFO.out.mono ?_
          intro e w5 hf
          obtain ⟨v5, rfl, hst5, hk5⟩ := HS.out.follow hf
          have HST5 := Lib.hid hst5
          have HEB5 := Lib.hid (hk5 _ _ _ HEB.out HNB.out)
          obtain ⟨Av5, cv5, rfl, -, -⟩ := hst5.fe.own.slice
          clear hst5 hk5 hf HFO HS HEB HNB y0 h1 h2
          generalize followN l ⟨xx, x0 - 1, zm⟩ = l5 at *
          have yb := HEB5.out
          have z3 := yb.cell 3
          have z4 := yb.cell 4
          have z5 := yb.cell 5
          have z0 := yb.cell 0
          simp only [List.getElem?_toArray, List.getElem?_cons_zero, List.getElem?_cons_succ] at z0 z3 z4 z5
          clear yb
          rcases hk with rfl | rfl
          · have HADD := Lib.hid (padd_any _ p (cP (E.take j) row true) kz x5 HST5.out.pa hkz (by have := HCB.out true kz; omega))
            go_wp2_with fail
            refine HADD.out.mono ?_
            rintro e w7 ⟨rfl, hpl, hpt⟩
            have HN7 := Lib.hid (show RSt w p q _ _ (cP (E.take (j + 1)) row true) (cP (E.take (j + 1)) row false) w7 from by
              rw [HTK.out, cP_hit4 HRE.out, cP_no4]
              exact HST5.out.addA hpl hpt)
            clear hpl hpt HADD
            go_wp2_with fail
            go_roundw
            case rel => exact ⟨j + 1, _, x0, _, by omega, rfl, rfl, by go_num, Lib.hid ⟨by rw [HTK.out]; exact HSI.out, HN7.out⟩⟩
            case measure => simp [intOf]; omega
          · have HADD := Lib.hid (padd_any _ q (cP (E.take j) row false) kz x5 HST5.out.pc hkz (by have := HCB.out false kz; omega))
            go_wp2_with fail
            refine HADD.out.mono ?_
            rintro e w7 ⟨rfl, hpl, hpt⟩
            have HN7 := Lib.hid (show RSt w p q _ _ (cP (E.take (j + 1)) row true) (cP (E.take (j + 1)) row false) w7 from by
              rw [HTK.out, cP_no5, cP_hit5 HRE.out]
              exact HST5.out.addC hpl hpt)
            clear hpl hpt HADD
            go_wp2_with fail
            go_roundw
            case rel => exact ⟨j + 1, _, x0, _, by omega, rfl, rfl, by go_num, Lib.hid ⟨by rw [HTK.out]; exact HSI.out, HN7.out⟩⟩
            case measure => simp [intOf]; omega
        · rw [if_neg hc] at HSI
          have HEB5 := HEB
          rcases (show ¬ xx < x0 ∨ xx < x0 ∧ ¬ 0 < zm from by omega) with h1 | ⟨h1, h2⟩
          all_goals
            clear hc
            have yb := HEB5.out
            have z3 := yb.cell 3
            have z4 := yb.cell 4
            have z5 := yb.cell 5
            have z0 := yb.cell 0
            simp only [List.getElem?_toArray, List.getElem?_cons_zero, List.getElem?_cons_succ] at z0 z3 z4 z5
            clear yb
            rcases hk with rfl | rfl
            · have HADD := Lib.hid (padd_any _ p (cP (E.take j) row true) kz x5 HS.out.pa hkz (by have := HCB.out true kz; omega))
              go_wp2_with fail
              refine HADD.out.mono ?_
              rintro e w7 ⟨rfl, hpl, hpt⟩
              have HN7 := Lib.hid (show RSt w p q _ _ (cP (E.take (j + 1)) row true) (cP (E.take (j + 1)) row false) w7 from by
                rw [HTK.out, cP_hit4 HRE.out, cP_no4]
                exact HS.out.addA hpl hpt)
              clear hpl hpt HADD
              go_wp2_with fail
              go_roundw
              case rel => exact ⟨j + 1, _, x0, _, by omega, rfl, rfl, by go_num, Lib.hid ⟨by rw [HTK.out]; exact HSI.out, HN7.out⟩⟩
              case measure => simp [intOf]; omega
            · have HADD := Lib.hid (padd_any _ q (cP (E.take j) row false) kz x5 HS.out.pc hkz (by have := HCB.out false kz; omega))
              go_wp2_with fail
              refine HADD.out.mono ?_
              rintro e w7 ⟨rfl, hpl, hpt⟩
              have HN7 := Lib.hid (show RSt w p q _ _ (cP (E.take (j + 1)) row true) (cP (E.take (j + 1)) row false) w7 from by
                rw [HTK.out, cP_no5, cP_hit5 HRE.out]
                exact HS.out.addC hpl hpt)
              clear hpl hpt HADD
              go_wp2_with fail
              go_roundw
              case rel => exact ⟨j + 1, _, x0, _, by omega, rfl, rfl, by go_num, Lib.hid ⟨by rw [HTK.out]; exact HSI.out, HN7.out⟩⟩
              case measure => simp [intOf]; omega
      · have HRE := Lib.hid (show relE ⟨x0, x1, x2, x3, (kz : Int), x5⟩ row = false by simpa [relE] using hrel)
        have HSI := Lib.hid (HSK.out HRE.out)
        have HN7 := Lib.hid (show RSt w p q v0 l (cP (E.take (j + 1)) row true) (cP (E.take (j + 1)) row false) _ from by
          rw [HTK.out, cP_irr true HRE.out, cP_irr false HRE.out]; exact HS.out)
        rcases (show row < x1 ∨ ¬ row < x1 ∧ x2 < row from by omega) with r1 | ⟨r1, r2⟩
        all_goals
          go_wp2_with fail
          go_roundw
          case rel => exact ⟨j + 1, _, xx, l, by omega, rfl, rfl, by go_num, Lib.hid ⟨by rw [HTK.out]; exact HSI.out, HN7.out⟩⟩
          case measure => simp [intOf]; omega
    · obtain rfl : j = n := by omega
      have hTk : E.take j = E := List.take_of_length_le (by rw [HN.out]; exact Nat.le_refl _)
      have HE := Lib.hid (show RunsP w E row (.returned v0) wr from by
        have h9 := HS0.out
        rw [hTk] at h9
        exact ⟨v0, l, rfl, h9.2.fe, h9.1.len, xx, h9.1⟩)
      clear hTk HS0
      go_wp2_with fail
      go_ret
      exact HE.out
end Go.Proofs.YtmgamlpjgghieaaGreatDoor
