/- The document's Put, Spend of members, by contract. -/
import Derived.Test.YtolbjlphpgfcpaaRoS
namespace Go.Proofs.Ytolbjlphpgfcpaa
set_option linter.unusedVariables false
set_option linter.unusedSimpArgs false
open Go.RowKit
theorem FE.up {α : Type} {E : El α} {w w1 wr : World} {v : Value} {L : List α} (h : FE E w1 v L wr) (hb : Below w.heap.size w w1) : FE E w v L wr := ⟨h.own, below_trans hb h.bel, fun i hi => Nat.le_trans hb.size (h.far i hi)⟩
theorem insM_ne (m : Mb) (L : List Mb) : (insM m L).length = L.length + 1 := insM_len m L
set_option maxRecDepth 100000 in
set_option maxHeartbeats 8000000 in
theorem refput_any (w : World) (v : Value) (L : List Mb) (m : Mb) (h : ERd elM w v L) (hl : L.length ≤ 10000) :
    Calls Try.prog 22 #[v, m.V] w fun e w' => ∃ v', e = .returned v' ∧ FE elM w v' (puM L m) w' := by
  obtain ⟨A1, c1, rfl, -, -⟩ := h.shape
  have HL := Lib.hid h
  clear h
  have HTY := Lib.hid (show Try.prog.underlying 25 = some (.slice elM.T) from Try.underlying25)
  have HPU := Lib.hid (show puM L m = insM m (woM L m.user) from rfl)
  have HWL := Lib.hid (woM_le L m.user)
  have HWO := Lib.hid (fun w v h => refwithout_any w v L m.user h (by omega))
  obtain ⟨m0, m1, m2, m3, m4, m5⟩ := m
  simp only [Mb.V] at HWO HWL HPU
  have HX0 := Lib.hid (Blk.new w 34 #[.int .i64 m0, .int .i64 m1, .int .i64 m2, .int .i64 m3, .int .i64 m4, .int .u64 m5])
  have HB0 := Lib.hid (show Below w.heap.size w (w.alloc (.cells #[.int .i64 m0, .int .i64 m1, .int .i64 m2, .int .i64 m3, .int .i64 m4, .int .u64 m5] 34)) from (Below.refl _ _).alloc (Nat.le_refl _) _)
  go_enter Try.func22, Try.ntmps22
  go_wp2_with fail
  refine (HWO.out _ _ (HL.out.below HB0.out)).mono ?_
  rintro e w1 ⟨wv, rfl, hF⟩
  have HX1 := Lib.hid (Blk.thru0 HX0.out hF.bel)
  have HB1 := Lib.hid (below_trans HB0.out hF.bel)
  have HW1 := Lib.hid (ERd.of_own elM_ok hF.own)
  clear hF HX0 HB0 HWO
  obtain ⟨xb, hxb⟩ : ∃ xb, w.heap.size = xb := ⟨_, rfl⟩
  have HXB := Lib.hid hxb
  rw [hxb] at HX1 ⊢
  clear hxb
  obtain ⟨W, hW⟩ : ∃ W, woM L m0 = W := ⟨_, rfl⟩
  rw [hW] at HW1 HPU HWL
  clear hW
  obtain ⟨A2, c2, rfl, -, -⟩ := HW1.out.shape
  obtain ⟨n, hn⟩ : ∃ n, n = W.length := ⟨_, rfl⟩
  rw [← hn] at HW1 HWL ⊢
  have HN := Lib.hid hn; clear hn
  have hn10 : n ≤ 10000 := by have := HWL.out; omega
  go_wp2_with fail
  go_loopw [5, 6, 7] (fun o d i wr => ∃ (k : Nat) (v0 : Value) (db : Bool) (out : List Mb), k ≤ n ∧ o = v0 ∧ d = .bool db ∧ i = .int .i64 k ∧ Hid (FE elM w1 v0 out wr) ∧ Hid (out ++ (if db = true then W.drop k else insM ⟨m0, m1, m2, m3, m4, m5⟩ (W.drop k)) = insM ⟨m0, m1, m2, m3, m4, m5⟩ W) ∧ Hid (out.length ≤ 2 * k)) (fun _ _ i _ => n - (intOf i).toNat)
  case atStart => exact ⟨0, _, false, [], Nat.zero_le _, rfl, rfl, rfl, FE.nil_ _ _ (Below.refl _ _), by simp [Hid], by simp [Hid]⟩
  case round =>
    rename World => wr
    obtain ⟨k, v0, db, out, hk, hv, rfl, rfl, HF, HE, HLN⟩ := hrel
    have hv' := hv.symm
    clear hv
    subst hv'
    have HX2 := Lib.hid (Blk.thru0 HX1.out HF.out.bel)
    have c0 := HX2.out.cell 0
    have c1' := HX2.out.cell 1
    have c2' := HX2.out.cell 2
    have c3 := HX2.out.cell 3
    have c4 := HX2.out.cell 4
    have c5 := HX2.out.cell 5
    simp only [List.getElem?_toArray, List.getElem?_cons_zero, List.getElem?_cons_succ] at c0 c1' c2' c3 c4 c5
    by_cases hlt : k < n
    · have hkl : k < W.length := by rw [← HN.out]; exact hlt
      have hx : W[k]? = some W[k] := List.getElem?_eq_getElem hkl
      have HD := Lib.hid (show W.drop k = W[k] :: W.drop (k + 1) from List.drop_eq_getElem_cons hkl)
      obtain ⟨g, o, rfl, hg, a0, a1, a2, a3, a4, a5⟩ := (HW1.out.below HF.out.bel).sixm hx
      have HX := Lib.hid hx
      generalize W[k] = x at *
      clear hx hg
      obtain ⟨x0, x1, x2, x3, x4, x5⟩ := x
      simp only at a0 a1 a2 a3 a4 a5 HD
      have hlt2 : (k : Int) < n := by omega
      have HLL := Lib.hid (show out.length ≤ 1000000 by have := HLN.out; omega)
      obtain ⟨A5, c5', e5, -, -⟩ := HF.out.own.slice
      subst e5
      cases db with
      | true =>
        have HE2 := Lib.hid (show (out ++ [(⟨x0, x1, x2, x3, x4, x5⟩ : Mb)]) ++ (if true = true then W.drop (k + 1) else insM ⟨m0, m1, m2, m3, m4, m5⟩ (W.drop (k + 1))) = insM ⟨m0, m1, m2, m3, m4, m5⟩ W by have h9 := HE.out; rw [if_pos rfl, HD.out] at h9; rw [if_pos rfl, ← h9]; simp)
        have HL2 := Lib.hid (show (out ++ [(⟨x0, x1, x2, x3, x4, x5⟩ : Mb)]).length ≤ 2 * (k + 1) by have := HLN.out; simp; omega)
        clear HE HD HLN
        go_upto_region 7 with fail
        go_quiet (fail)
        go_wp2_with ((at_builtin; refine wpList_epush elM_ok rfl (.tmp 34) (.tmp 39) _ rfl HTY.out _ out ⟨x0, x1, x2, x3, x4, x5⟩ _ 1 rfl rfl ((HF.out.below (below_drawn (Below.refl _ _) _)).own.below ((Below.refl _ _).alloc (Nat.le_refl _) _)) (new_m _ _ ⟨x0, x1, x2, x3, x4, x5⟩) HLL.out ?_; intro v2 w3 hA2; have HP2 := Lib.hid (FE.push (HF.out.below (below_drawn (Below.refl _ _) _)) hA2); clear hA2))
        go_roundw
        case rel => exact ⟨k + 1, _, true, _, by omega, rfl, rfl, by go_num, HP2, HE2, HL2⟩
        case measure => simp [intOf]; omega
      | false =>
        have HE1 := Lib.hid (show out ++ insM ⟨m0, m1, m2, m3, m4, m5⟩ (⟨x0, x1, x2, x3, x4, x5⟩ :: W.drop (k + 1)) = insM ⟨m0, m1, m2, m3, m4, m5⟩ W by have h9 := HE.out; rw [if_neg (by decide), HD.out] at h9; exact h9)
        clear HE HD
        by_cases hc : m0 < x0
        · have hd : decide (m0 < x0) = true := by simpa using hc
          have HE2 := Lib.hid (show ((out ++ [(⟨m0, m1, m2, m3, m4, m5⟩ : Mb)]) ++ [(⟨x0, x1, x2, x3, x4, x5⟩ : Mb)]) ++ (if true = true then W.drop (k + 1) else insM ⟨m0, m1, m2, m3, m4, m5⟩ (W.drop (k + 1))) = insM ⟨m0, m1, m2, m3, m4, m5⟩ W by have h9 := HE1.out; rw [insM, if_pos hc] at h9; rw [if_pos rfl, ← h9]; simp)
          have HL2 := Lib.hid (show ((out ++ [(⟨m0, m1, m2, m3, m4, m5⟩ : Mb)]) ++ [(⟨x0, x1, x2, x3, x4, x5⟩ : Mb)]).length ≤ 2 * (k + 1) by have := HLN.out; simp; omega)
          have HLL2 := Lib.hid (show (out ++ [(⟨m0, m1, m2, m3, m4, m5⟩ : Mb)]).length ≤ 1000000 by have := HLN.out; simp; omega)
          clear HE1 HLN
          go_upto_region 7 with fail
          go_quiet (fail)
          go_wp2_with (first | (at_builtin; refine wpList_epush elM_ok rfl (.tmp 30) (.tmp 32) _ rfl HTY.out _ out ⟨m0, m1, m2, m3, m4, m5⟩ _ 1 rfl rfl ((HF.out.below (below_drawn (Below.refl _ _) _)).own.below ((Below.refl _ _).alloc (Nat.le_refl _) _)) (new_m _ _ ⟨m0, m1, m2, m3, m4, m5⟩) HLL.out ?_; intro v1 w2 hA1; have HP1 := Lib.hid (FE.push (HF.out.below (below_drawn (Below.refl _ _) _)) hA1); clear hA1; obtain ⟨g9, o9, e9, hg9, b0, b1, b2, b3, b4, b5⟩ := (HW1.out.below HP1.out.bel).sixm HX.out; simp only [Option.some.injEq, Addr.mk.injEq, and_true] at e9; obtain ⟨rfl, rfl⟩ := e9; clear hg9) | (at_builtin; refine wpList_epush elM_ok rfl (.tmp 34) (.tmp 39) _ rfl HTY.out _ (out ++ [(⟨m0, m1, m2, m3, m4, m5⟩ : Mb)]) ⟨x0, x1, x2, x3, x4, x5⟩ _ 1 rfl rfl (HP1.out.own.below ((Below.refl _ _).alloc (Nat.le_refl _) _)) (new_m _ _ ⟨x0, x1, x2, x3, x4, x5⟩) HLL2.out ?_; intro v2 w3 hA2; have HP2 := Lib.hid (FE.push HP1.out hA2); clear hA2))
          go_roundw
          case rel => exact ⟨k + 1, _, true, _, by omega, rfl, rfl, by go_num, HP2, HE2, HL2⟩
          case measure => simp [intOf]; omega
        · have hd : decide (m0 < x0) = false := by simpa using hc
          have HE2 := Lib.hid (show (out ++ [(⟨x0, x1, x2, x3, x4, x5⟩ : Mb)]) ++ (if false = true then W.drop (k + 1) else insM ⟨m0, m1, m2, m3, m4, m5⟩ (W.drop (k + 1))) = insM ⟨m0, m1, m2, m3, m4, m5⟩ W by have h9 := HE1.out; rw [insM, if_neg hc] at h9; rw [if_neg (by decide), ← h9]; simp)
          have HL2 := Lib.hid (show (out ++ [(⟨x0, x1, x2, x3, x4, x5⟩ : Mb)]).length ≤ 2 * (k + 1) by have := HLN.out; simp; omega)
          clear HE1 HLN hc
          go_upto_region 7 with fail
          go_quiet (fail)
          go_wp2_with (at_builtin; refine wpList_epush elM_ok rfl (.tmp 34) (.tmp 39) _ rfl HTY.out _ out ⟨x0, x1, x2, x3, x4, x5⟩ _ 1 rfl rfl ((HF.out.below (below_drawn (Below.refl _ _) _)).own.below ((Below.refl _ _).alloc (Nat.le_refl _) _)) (new_m _ _ ⟨x0, x1, x2, x3, x4, x5⟩) HLL.out ?_; intro v2 w3 hA2; have HP2 := Lib.hid (FE.push (HF.out.below (below_drawn (Below.refl _ _) _)) hA2); clear hA2)
          go_roundw
          case rel => exact ⟨k + 1, _, false, _, by omega, rfl, rfl, by go_num, HP2, HE2, HL2⟩
          case measure => simp [intOf]; omega
    · obtain rfl : k = n := by omega
      have HD := Lib.hid (show W.drop k = [] by rw [HN.out]; exact List.drop_length)
      have HLL := Lib.hid (show out.length ≤ 1000000 by have := HLN.out; omega)
      obtain ⟨A5, c5', e5, -, -⟩ := HF.out.own.slice
      subst e5
      cases db with
      | true =>
        have HZ := Lib.hid (show FE elM w _ (puM L ⟨m0, m1, m2, m3, m4, m5⟩) wr by have h9 := HE.out; rw [if_pos rfl, HD.out, List.append_nil] at h9; rw [HPU.out, ← h9]; exact HF.out.up HB1.out)
        clear HE HF
        go_wp2
        go_ret
        exact ⟨_, rfl, HZ.out⟩
      | false =>
        have HE2 := Lib.hid (show out ++ [(⟨m0, m1, m2, m3, m4, m5⟩ : Mb)] = puM L ⟨m0, m1, m2, m3, m4, m5⟩ by have h9 := HE.out; rw [if_neg (by decide), HD.out] at h9; rw [HPU.out, ← h9]; rfl)
        clear HE
        go_wp2_with (at_builtin; refine wpList_epush elM_ok rfl (.tmp 43) (.tmp 45) _ rfl HTY.out _ out ⟨m0, m1, m2, m3, m4, m5⟩ _ 1 rfl rfl (HF.out.own.below ((Below.refl _ _).alloc (Nat.le_refl _) _)) (new_m _ _ ⟨m0, m1, m2, m3, m4, m5⟩) HLL.out ?_; intro v1 w2 hA1; have HP1 := Lib.hid ((FE.push HF.out hA1).up HB1.out); clear hA1)
        go_ret
        exact ⟨_, rfl, by have h9 := HP1.out; rw [HE2.out] at h9; exact h9⟩
end Go.Proofs.Ytolbjlphpgfcpaa
