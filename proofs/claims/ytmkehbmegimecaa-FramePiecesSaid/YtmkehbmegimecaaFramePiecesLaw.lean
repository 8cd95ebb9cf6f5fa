/- FramePieces: (P5.4) it does not matter in which pieces bytes come in, if frames are taken as soon as they are there. Conditions: none. -/
import Derived.Test.YtmkehbmegimecaaPieces
import Derived.Deep.DeepCutAuto
namespace Go.Proofs.Ytmkehbmegimecaa.framePieces
set_option linter.unusedVariables false
set_option linter.unusedSimpArgs false
open Go.ChangeShapes Go.WideShapes Go.ChangeAt Go.RowKit
open Go.ChangeMaps (open_string shut_string)
theorem quiet_sm {P : Program} {f : FuncId} {args : Array Value} {w : World} {q n : Nat} {b : Bool} (h : Calls P f args (w.drewN (q + n)) fun e w' => e = .returned (.bool b) ∧ ∃ m, w' = (w.drewN (q + n)).drewN m) : Calls P f args (w.drewN (q + n)) fun e w'' => e = .returned (.bool b) ∧ ∃ m, w'' = w.drewN (q + m) :=
  h.mono fun _ _ ⟨he, m, hm⟩ => ⟨he, n + m, by rw [hm, World.drewN_drewN, Nat.add_assoc]⟩
set_option maxRecDepth 100000 in
set_option maxHeartbeats 16000000 in
theorem walk (a0 : Option Addr) (len0 cap0 : Nat) (zs0 : List Int) (a1 : Option Addr) (len1 cap1 : Nat) (zs1 : List Int) (w : World) (h0 : IsRow .u8 w a0 len0 cap0 zs0) (h1 : IsRow .i64 w a1 len1 cap1 zs1) : Calls Try.prog 4 #[.slice a0 len0 cap0, .slice a1 len1 cap1] w fun e w' => e = .returned (.bool true) ∧ Below w.heap.size w w' := by
  obtain ⟨hcap, hcapm⟩ := row_le h0
  obtain ⟨hcap1, hcapm1⟩ := row_le h1
  obtain ⟨hl9, l0, hrb⟩ := h0.rb
  unfold maxLen at hcapm hcapm1
  by_cases hbig : 3000 < len0
  · have hbi : (3000 : Int) < (len0 : Int) := by omega
    clear h0 h1
    go_enter Try.func4, Try.ntmps4
    go_wp2_with fail
    refine (known_any _).mono ?_
    rintro e w9 ⟨rfl, hb9⟩
    go_wp2
    go_ret
    exact ⟨rfl, hb9⟩
  · by_cases hbig2 : 60 < len1
    · have hbi : ¬ (3000 : Int) < (len0 : Int) := by omega
      have hbi2 : (60 : Int) < (len1 : Int) := by omega
      clear h0 h1
      go_enter Try.func4, Try.ntmps4
      go_wp2_with fail
      refine (known_any _).mono ?_
      rintro e w9 ⟨rfl, hb9⟩
      go_wp2
      go_ret
      exact ⟨rfl, hb9⟩
    · have hbi : ¬ (3000 : Int) < (len0 : Int) := by omega
      have hbi2 : ¬ (60 : Int) < (len1 : Int) := by omega
      have HL := Lib.hid hrb; have HC := Lib.hid h1
      have hln := hrb.len
      have hl3 : l0.length ≤ 3000 := by omega
      have HLN := Lib.hid hln
      clear h0 h1 hrb hln
      go_enter Try.func4, Try.ntmps4
      go_wp2_with fail
      refine (new_yes 4096 (by omega) (by omega) w).mono ?_
      rintro e w1 ⟨rfl, hw1⟩
      have HST := Lib.hid (show St w l0 0 0 (.slice none 0 0) w1 from by
        refine ⟨[], [], none, 0, [], 0, POwn.nil_ _, Means.nil_ _, by simp [strm], by simp [nkind], by rw [← hw1]; exact Blk.new _ _ _, Wt.nil_ _, fun h => by simp at h, by omega, by rw [← hw1]; go_grown, fun j hj => by simp [Value.ownBlock] at hj, fun t ht => by simp at ht, fun j hj => by simp at hj, fun t ht => by simp at ht, by simp, by simp⟩)
      clear hw1
      go_wp2
      go_loopw [7, 8, 9] (fun v at_ i wr => ∃ (k t : Nat) (v0 : Value), k ≤ len1 + 1 ∧ i = .int .i64 k ∧ at_ = .int .i64 t ∧ v = v0 ∧ t ≤ len0 ∧ (len1 < k → len0 ≤ t) ∧ Hid (St w l0 t (k * 4096) v0 wr)) (fun _ _ i _ => len1 + 2 - (intOf i).toNat)
      case atStart => exact ⟨0, 0, _, by omega, rfl, rfl, rfl, by omega, by omega, by simpa using HST⟩
      case round =>
        clear HST
        obtain ⟨k, t, v0, hk, rfl, rfl, hv0, ht0, htl, HST⟩ := hrel
        have hv1 := hv0.symm; clear hv0; subst hv1
        by_cases hlt : k ≤ len1
        · have hki : (k : Int) ≤ (len1 : Int) := by omega
          have HLL := HLN.out
          have htc0 : (t : Int) ≤ (cap0 : Int) := by omega
          go_upto_region 12 with fail
          go_cut [62] (fun s62 wx => ∃ bb : Bool, s62 = .bool bb ∧ wx = wr ∧ (bb = true → k < len1 ∧ ∃ xb xo z, a1 = some ⟨xb, xo, none⟩ ∧ w.cell? ⟨xb, xo + k, none⟩ = some (.int .i64 z) ∧ (t : Int) ≤ z ∧ z ≤ (len0 : Int)))
          case first =>
            by_cases hk1 : k < len1
            · have hk1i : (k : Int) < (len1 : Int) := by omega
              obtain ⟨xb, xo, z, rfl, hz, hzw⟩ := row_at HC.out hk1
              have hzc := cell_later HST.out.under hz
              by_cases hza : (t : Int) ≤ z
              · by_cases hzb : z ≤ (len0 : Int)
                · go_wp2_with fail
                  go_meet
                  exact ⟨true, rfl, rfl, fun _ => ⟨hk1, xb, xo, z, rfl, hz, hza, hzb⟩⟩
                · go_wp2_with fail
                  go_meet
                  exact ⟨false, rfl, rfl, fun h => by cases h⟩
              · go_wp2_with fail
                go_meet
                exact ⟨false, rfl, rfl, fun h => by cases h⟩
            · have hk1i : ¬ (k : Int) < (len1 : Int) := by omega
              go_wp2_with fail
              go_meet
              exact ⟨false, rfl, rfl, fun h => by cases h⟩
          case rest =>
            obtain ⟨bb, rfl, rfl, hbb⟩ := hcut
            have HBB := Lib.hid hbb; clear hbb
            go_upto_if 62 with fail
            go_cut [10] (fun s10 wx => ∃ tz : Nat, s10 = .int .i64 tz ∧ wx = wc ∧ t ≤ tz ∧ tz ≤ len0 ∧ (len1 ≤ k → tz = len0))
            case first =>
              cases bb with
              | true =>
                obtain ⟨hk1, xb, xo, z, rfl, hz, hza, hzb⟩ := HBB.out rfl
                have hk1i : (k : Int) < (len1 : Int) := by omega
                have hzc := cell_later HST.out.under hz
                obtain ⟨tz, rfl⟩ := Int.eq_ofNat_of_zero_le (show 0 ≤ z by omega)
                go_wp2_with fail
                go_meet
                exact ⟨tz, rfl, rfl, by omega, by omega, fun h => by omega⟩
              | false =>
                go_wp2_with fail
                go_meet
                exact ⟨len0, rfl, rfl, by omega, by omega, fun _ => rfl⟩
            case rest =>
              obtain ⟨tz, rfl, hwc, htt, hto, hlast⟩ := hcut
              subst hwc
              have HLAST := Lib.hid hlast
              clear hlast HBB
              have htc : (tz : Int) ≤ (cap0 : Int) := by omega
              have htc2 : (t : Int) ≤ (tz : Int) := by omega
              go_upto_region 14 with fail
              go_cut [73] (fun s73 wx => s73 = .bool false ∧ Hid (StF w l0 tz (k * 4096) v0 wx))
              case first =>
                have HFEED := Lib.hid (HST.out.feed («to» := tz) (c := cap0 - t) (B := if cap0 = t then a0 else a0.map (·.add t)) (RB.take (by have := HL.out.cut (k := t) ht0 hcap; exact this) (by omega)) (by omega) (by omega) (by omega) hl3)
                by_cases hct : cap0 = t
                · rw [if_pos hct] at HFEED
                  have hcti : (cap0 : Int) = (t : Int) := by omega
                  have HH := Lib.hid hct
                  have hE : t = cap0 := hct.symm
                  subst hE
                  rw [Nat.sub_self] at HFEED
                  clear hct hcti
                  go_wp2_with fail
                  refine HFEED.out.mono ?_
                  rintro e w2 ⟨rfl, hsf⟩
                  have HSF := Lib.hid hsf; clear hsf
                  go_wp2_with fail
                  go_meet
                  exact ⟨rfl, HSF⟩
                · rw [if_neg hct] at HFEED
                  have hcti : ¬ (cap0 : Int) = (t : Int) := by omega
                  go_wp2_with fail
                  refine HFEED.out.mono ?_
                  rintro e w2 ⟨rfl, hsf⟩
                  have HSF := Lib.hid hsf; clear hsf
                  go_wp2_with fail
                  go_meet
                  exact ⟨rfl, HSF⟩
              case rest =>
                obtain ⟨rfl, HSF⟩ := hcut
                have HD := Lib.hid (HSF.out.drain hl3 (by omega) ((len0 : Int) + 1) (by omega) (by omega))
                clear HSF
                go_wp2_with fail
                refine HD.out.mono ?_
                rintro e w3 ⟨vm, Lm, L, rfl, hin⟩
                have HIN := Lib.hid hin; clear hin
                have hpm : POwn w3 vm Lm := by obtain ⟨D, A1, cap1, l1, ov1, g1, g2, _⟩ := HIN.out; exact g2
                obtain ⟨Am, cm, rfl, hcm1, hcm2, hAm⟩ := hpm.slice
                have hlm : Lm.length ≤ 4096 := by obtain ⟨D, A1, cap1, l1, ov1, _, _, _, _, _, _, _, _, _, _, _, _, _, _, _, h, _⟩ := HIN.out; exact h
                have HAM := Lib.hid hAm
                clear hpm hAm HD
                go_wp2
                go_loopw [7, 12] (fun v i wr => ∃ (j : Nat) (v1 : Value), j ≤ Lm.length ∧ i = .int .i64 j ∧ v = v1 ∧ Hid (InSt w l0 tz (k * 4096) (.slice Am Lm.length cm) Lm L j v1 wr)) (fun _ i _ => Lm.length - (intOf i).toNat)
                case atStart => exact ⟨0, _, Nat.zero_le _, rfl, rfl, HIN⟩
                case round =>
                  clear HIN
                  obtain ⟨j, v1, hj, rfl, rfl, hin⟩ := hrel
                  obtain ⟨D, A1, cap1, l1, ov1, g1, g2, g3, g4, g5, g6, g7, g8, g9, g10, g11, g12, g13, g14, g15, g16, g17, g18⟩ := hin.out
                  obtain ⟨A0, c0, rfl, hc1, hc2, hA0⟩ := g1.slice
                  by_cases hlt : j < Lm.length
                  · have hji : (j : Int) < (Lm.length : Int) := by omega
                    obtain ⟨gm, rfl⟩ := HAM.out (by omega)
                    obtain ⟨m0, m1⟩ := g2.cell hlt
                    have HG1 := Lib.hid g1
                    have HPU := Lib.hid (fun X v' w4 hX ha => InSt.push (X := X) (v' := v') (w4 := w4) hin.out hX hlt ha)
                    have hLL : (L ++ Lm.take j).length ≤ 1000000 := by rw [List.length_append, List.length_take]; omega
                    generalize L ++ Lm.take j = LL at *
                    generalize pat Lm j = pt at *
                    clear g1 g2 g3 g4 g5 g6 g7 g8 g9 g10 g11 g12 g13 g14 g15 g16 g17 g18 hin
                    go_wp2_with (at_builtin; refine wpList_pushP rfl (.tmp 86) (.tmp 91) _ rfl Try.underlying45 (.slice A0 LL.length c0) LL pt wr.heap.size 1 rfl rfl (HG1.out.below ((Below.refl _ _).alloc (Nat.le_refl _) _)) (new_cell' _ _ _ 0 rfl) (new_cell' _ _ _ 1 rfl) hLL ?_; rintro v4 w4 ha4; have HNW := Lib.hid (HPU.out _ _ _ ((Below.refl _ _).alloc (Nat.le_refl _) _) ha4); clear ha4)
                    go_roundw
                    case rel => exact ⟨j + 1, v4, by omega, by go_num, rfl, HNW⟩
                    case measure => simp [intOf]; omega
                  · obtain rfl : j = Lm.length := by omega
                    have HDN := Lib.hid hin.out.done
                    generalize (L ++ Lm.take Lm.length).length = LN at *
                    clear g1 g2 g3 g4 g5 g6 g7 g8 g9 g10 g11 g12 g13 g14 g15 g16 g17 g18 hin
                    go_wp2
                    go_roundw
                    case rel => exact ⟨k + 1, tz, _, by omega, by go_num, by first | rfl | go_num, rfl, by omega, fun h => by have := HLAST.out (by omega); omega, Lib.hid (by have := HDN.out; rw [show k * 4096 + 4096 = (k + 1) * 4096 by omega] at this; exact this)⟩
                    case measure => simp [intOf]; omega
        · have htl2 : t = len0 := by omega
          subst htl2
          have HW := Lib.hid (show ∃ L, POwn wr v0 L ∧ Means wr L (parts l0) from St.whole (m := k * 4096) (by have h9 := HST.out; rw [← HLN.out] at h9; exact h9))
          have HUN := Lib.hid HST.out.under
          have HSP := Lib.hid (split_any a0 t cap0 l0 wr (HL.out.later HST.out.under) hcap (by omega))
          obtain ⟨Lg, hgo, hgm⟩ := HW.out
          obtain ⟨Ag, cg, rfl, hcg1, hcg2, hAg⟩ := hgo.slice
          have HGO := Lib.hid hgo; have HGM := Lib.hid hgm; have HAG := Lib.hid hAg
          clear hgo hgm hAg HW HST
          go_wp2_with fail
          refine HSP.out.mono ?_
          rintro e w2 ⟨vw, Lw, rfl, hwo, hwm, hbw⟩
          obtain ⟨Aw, cw, rfl, hcw1, hcw2, hAw⟩ := hwo.slice
          have hlen : Lg.length = Lw.length := by rw [HGM.out.1, hwm.1]
          have HGO2 := Lib.hid (HGO.out.below hbw); have HGM2 := Lib.hid (HGM.out.below hbw)
          have HWO := Lib.hid hwo; have HWM := Lib.hid hwm; have HAW := Lib.hid hAw
          have HB2 := Lib.hid (below_trans HUN.out hbw)
          have hne : ((Lg.length : Int) != (Lw.length : Int)) = false := by simp [hlen]
          have HLEN := Lib.hid hlen
          clear hwo hwm hbw hAw hlen HSP
          have hcgm : Lg.length ≤ 9223372036854775807 := by unfold maxLen at hcg2; omega
          have hcwm : Lw.length ≤ 9223372036854775807 := by unfold maxLen at hcw2; omega
          go_wp2
          go_loopw [14] (fun i wr2 => ∃ j q : Nat, j ≤ Lg.length ∧ i = .int .i64 j ∧ wr2 = w2.drewN q) (fun i _ => Lg.length - (intOf i).toNat)
          case atStart => exact ⟨0, 0, Nat.zero_le _, rfl, rfl⟩
          case round =>
            obtain ⟨j, qq, hj, rfl, rfl⟩ := hrel
            by_cases hlt2 : j < Lg.length
            · have hlw : j < Lw.length := by rw [← HLEN.out]; exact hlt2
              have hji : (j : Int) < (Lg.length : Int) := by omega
              have hji2 : (j : Int) < (Lw.length : Int) := by omega
              obtain ⟨gg, rfl⟩ := HAG.out (by omega)
              obtain ⟨gw, rfl⟩ := HAW.out (by omega)
              obtain ⟨a0', a1'⟩ := HGO2.out.cell hlt2
              obtain ⟨b0', b1'⟩ := HWO.out.cell hlw
              have hjp : j < (parts l0).length := by rw [← HGM2.out.1]; exact hlt2
              have eg : Lg[j]? = some (pat Lg j) := by simp [pat, List.getD_eq_getElem?_getD, List.getElem?_eq_getElem hlt2]
              have ew : Lw[j]? = some (pat Lw j) := by simp [pat, List.getD_eq_getElem?_getD, List.getElem?_eq_getElem hlw]
              obtain ⟨rg, kg, pl⟩ := HGM2.out.2 j _ _ eg (List.getElem?_eq_getElem hjp)
              obtain ⟨rw_, kw, _⟩ := HWM.out.2 j _ _ ew (List.getElem?_eq_getElem hjp)
              rw [kg] at a1'
              rw [kw] at b1'
              generalize (parts l0)[j] = P at *
              generalize pat Lg j = pg at *
              generalize pat Lw j = pw at *
              have HRG := Lib.hid rg; have HRW := Lib.hid rw_
              have hpg := rg.len
              have hpw := rw_.len
              have HSM := Lib.hid (fun q => (by have h := same_any pg.1 pw.1 pg.2.1 pw.2.1 pg.2.2.1 pw.2.2.1 P.1 P.1 (w2.drewN q) (RB.drawn HRG.out q) (RB.drawn HRW.out q) (by simp only [maxLen]; omega) (by simp only [maxLen]; omega); simp only [decide_true, eq_self_iff_true] at h; exact h))
              clear rg rw_ kg kw eg ew hpg hpw
              go_wp2_with fail
              go_quiet ((go_at_call 14; exact quiet_sm (HSM.out _)))
              go_wp2
              go_roundw
              case rel => exact ⟨j + 1, _, by omega, by go_num, rfl⟩
              case measure => simp [intOf]; omega
            · obtain rfl : j = Lg.length := by omega
              have HB3 := Lib.hid (below_drawn HB2.out qq)
              go_wp2_with fail
              refine (known_any _).mono ?_
              rintro e w9 ⟨rfl, hb9⟩
              go_wp2
              go_ret
              exact ⟨rfl, below_trans HB3.out hb9⟩

theorem own : ownKnob Try.prog.godebug = none := by kernel_rfl
theorem laidOut : laidOutB Try.prog = true := by kernel_rfl
set_option maxRecDepth 100000 in
theorem lifted (os : Os) (started : os.Started) (H : Type) (enc : TypeId × Value → H) :
    ReturnsInHanded {} Try.checked os 4 .any (Rows.framePiecesSpec.pre6 enc Try.prog Try.f4 Rows.framePiecesRow.domain false) (Rows.framePiecesSpec.post enc Try.prog Try.f4 false true false false) := by
  refine returnsInHanded_of_change (C := Try.checked) own started (by kernel_rfl) Try.func4
    (ChangeSpec.witness6 (enc := enc) (C := Try.checked) false ⟨#[], #[.slice none 0 0, .slice none 0 0], []⟩ 8 (by kernel_rfl) (by kernel_rfl) (by kernel_rfl) (by kernel_rfl)) ?_
  intro W base args ds gs before hval0 hW hcnd _
  have hval : ∀ (j : Nat) t v, Try.f4.params[j]? = some t → args[j]? = some v → Value.okWide Try.prog W .any base t v := hval0
  have hW' := hW
  obtain ⟨p, q, hA0, hV, rfl, hfz, hnd⟩ := hW
  have hA : DataW.TrodAll enc Try.prog W 0 (fun _ => true) true Try.f4.params.toList args.toList ds p := hA0
  rw [Try.params4] at hA hval
  obtain ⟨v0, vs0, d0, ds0, p0, q0, hargs, rfl, rfl, h0, r0⟩ := trodAll_cons hA
  obtain ⟨v1, vs1, d1, ds1, p1, q1, rfl, rfl, rfl, h1, r1⟩ := trodAll_cons r0
  obtain ⟨rfl, rfl, rfl⟩ := trodAll_nil r1
  obtain rfl : args = #[v0, v1] := by cases args; simp_all
  obtain ⟨rfl, rfl⟩ := trodVars_none hV
  have k0 := h0
  have lt0 : ∀ x ∈ p0, x.block < W.heap.size := by obtain ⟨m, hm⟩ := k0; exact DataW.trod_lt m _ _ _ hm
  obtain ⟨a0, len0, cap0, rfl⟩ := okWide_slice Try.underlying28 (hval 0 28 v0 rfl rfl)
  obtain ⟨z0, w0⟩ : ∃ zs, IsRow .u8 W a0 len0 cap0 zs := by
    obtain ⟨fuel, hf⟩ := h0
    rcases open_ints Try.underlying28 Try.underlying5 (by kernel_rfl) hf with ⟨hcs, _⟩ | ⟨x, l, c, zs, hcs, _, hl, hm, hz, _, hcell, hwz⟩
    · simp [Value.cells] at hcs
      obtain ⟨rfl, rfl, rfl⟩ := hcs
      exact ⟨[], .inl ⟨rfl, rfl, rfl, rfl⟩⟩
    · simp [Value.cells] at hcs
      obtain ⟨rfl, rfl, rfl⟩ := hcs
      exact ⟨zs, .inr ⟨_, rfl, hl, hm, by simpa using hz, hcell, hwz⟩⟩
  have k1 := h1
  have lt1 : ∀ x ∈ p1, x.block < W.heap.size := by obtain ⟨m, hm⟩ := k1; exact DataW.trod_lt m _ _ _ hm
  obtain ⟨a1, len1, cap1, rfl⟩ := okWide_slice Try.underlying44 (hval 1 44 v1 rfl rfl)
  obtain ⟨z1, w1⟩ : ∃ zs, IsRow .i64 W a1 len1 cap1 zs := by
    obtain ⟨fuel, hf⟩ := h1
    rcases open_ints Try.underlying44 Try.underlying3 (by kernel_rfl) hf with ⟨hcs, _⟩ | ⟨x, l, c, zs, hcs, _, hl, hm, hz, _, hcell, hwz⟩
    · simp [Value.cells] at hcs
      obtain ⟨rfl, rfl, rfl⟩ := hcs
      exact ⟨[], .inl ⟨rfl, rfl, rfl, rfl⟩⟩
    · simp [Value.cells] at hcs
      obtain ⟨rfl, rfl, rfl⟩ := hcs
      exact ⟨zs, .inr ⟨_, rfl, hl, hm, by simpa using hz, hcell, hwz⟩⟩
  clear hA0 hval0
  refine (walk a0 len0 cap0 z0 a1 len1 cap1 z1 W w0 w1).mono fun e W' ⟨he, bel⟩ => ?_
  subst he
  exact ⟨_, rfl, _, _, _, [], _, [], hW', trodAll_mk1 (shut_bool Try.underlying4 _), (trodAll_cons_mk (Below.trod laidOut (by kernel_rfl) (of_decide_eq_true (by kernel_rfl)) k0 bel lt0) (trodAll_cons_mk (Below.trod laidOut (by kernel_rfl) (of_decide_eq_true (by kernel_rfl)) k1 bel lt1) trodAll_mk0)), rfl, bel.frame _, fun h => by cases h⟩
theorem over : Rows.framePiecesRow.holds Try.pinned (OpenSpec.ofChange Rows.framePiecesSpec) :=
  OpenClaim.holds_of_wide 4 Try.f4 rfl rfl rfl rfl rfl rfl rfl ⟨rfl, rfl, rfl, rfl, rfl⟩ rfl rfl rfl rfl rfl (by kernel_rfl) Try.func4 (by kernel_rfl)
    (of_decide_eq_true (by kernel_rfl)) (by unfold Func.isWrapper; first | (rw [if_pos (by decide +kernel)]; kernel_rfl) | (rw [if_neg (by decide +kernel)]; exact ⟨rfl, rfl⟩))
    (fun os started H enc _ => lifted os started H enc)
/-- The statement. -/
theorem proved : Rows.FramePiecesSaid := over
#print axioms proved
end Go.Proofs.Ytmkehbmegimecaa.framePieces
