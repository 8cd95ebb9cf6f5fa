/- LexPlaces, the walk. -/
import Derived.Test.YtplkcbbbcflngaaDoorLrPlace
import Derived.Test.YtplkcbbbcflngaaDoorLr7
import Derived.Test.YtplkcbbbcflngaaDoorLr5
import Derived.Deep.RegionHeld3
namespace Go.Proofs.YtplkcbbbcflngaaDoor
set_option linter.unusedVariables false
set_option linter.unusedSimpArgs false
open Go.RowKit
theorem nq_posV (a b c d : Int) (h : ¬ (a = c ∧ b = d)) (w : World) : (Op.equalIn 10000 25 (.agg #[.int .i64 a, .int .i64 b]) (.agg #[.int .i64 c, .int .i64 d])).run Tryd.prog w = .ok false w := by
  have u3 := Tryd.underlying3
  have a3 := Tryd.isAgg3
  have z3 := Tryd.sizeOf3
  have hS : Tryd.prog.underlying 25 = some (.struct (Tryd.prog.fieldsOf 25)) := by kernel_rfl
  have hp : Tryd.prog.stoodInHeld 25 = false := by kernel_rfl
  rw [show (10000 : Nat) = 9999 + 1 from rfl, run_equalIn_agg w 9999 25 _ _ hS hp]
  simp only [Program.fieldsOf, Tryd.underlying25]
  by_cases h1 : a = c
  · have h2 : (b == d) = false := beq_eq_false_iff_ne.2 (fun e => h ⟨h1, e⟩)
    subst h1
    go_simp
  · have h2 : (a == c) = false := beq_eq_false_iff_ne.2 h1
    go_simp
theorem below_of_drew {w w' : World} (h : Below w.drew.heap.size w.drew w') : Below w.heap.size w w' := ⟨h.os, h.tape, h.output, h.size, h.block⟩
attribute [local go_sem] ne_posV
set_option maxRecDepth 100000 in
set_option maxHeartbeats 4000000 in
theorem lexPlaces_walk (l : Bs) (w : World) (hV : Vs w) (hl : l.length ≤ 140737488355328) : Calls Tryd.prog 6 #[.string (bs l)] w fun e w' => e = .returned (.bool true) ∧ Below w.heap.size w w' := by
  have HV := Lib.hid hV
  have HT := Lib.hid (tokens_any l w hV (by omega))
  have HFW := Lib.hid (toks_few l)
  have HFN := Lib.hid (fun f h => @fl_ne l f h)
  have HST := Lib.hid (toks_st l)
  have HPL := Lib.hid (fun W at0 h => place_any (bs l) at0 W (by rw [bs_size]; exact hl) (by rw [bs_size]; exact h))
  have hbl : (bs l).data.toList = l := by simp [bs]
  rw [hbl] at HPL
  clear hbl
  unfold TokensP at HT
  clear hV
  generalize toks l = R at *
  go_enter Tryd.func6, Tryd.ntmps6
  go_wp2_with fail
  refine HT.out.mono ?_
  rintro e w1 ⟨v1, rfl, hown1, hb1, hf1⟩
  obtain ⟨A1, c1, rfl, hle1, hm1⟩ := hown1.slice
  have ha1 := fault_below w1 #[.int .i64 (flE R.2), .int .i64 (flP R.2).1, .int .i64 (flP R.2).2]
  have HB1 := Lib.hid (below_trans hb1 ha1)
  have HOW1 := Lib.hid (hown1.below ha1)
  have HF1 := Lib.hid (Blk.new w1 27 #[.int .i64 (flE R.2), .int .i64 (flP R.2).1, .int .i64 (flP R.2).2])
  have HV1 := Lib.hid (HV.out.below HB1.out)
  clear hown1 hb1 hf1 ha1 hle1 hm1 HT
  go_upto_region 2 with fail
  generalize hq1 : w1.heap.size = q1 at *
  generalize (w1.alloc (.cells #[.int .i64 (flE R.2), .int .i64 (flP R.2).1, .int .i64 (flP R.2).2] 27)) = W1 at *
  have f0 : W1.cell? ⟨q1, 0, none⟩ = some (.int .i64 (flE R.2)) := HF1.out.cell 0
  obtain ⟨L, f⟩ := R
  simp only at *
  cases f with
  | some fl =>
    have hfe : (flE (some fl) == 0) = false := beq_eq_false_iff_ne.2 (HFN.out fl rfl)
    clear HFN HST HOW1 HF1 HFW HPL
    generalize flE (some fl) = fe at *
    have hne : (fe != 0) = true := by simp [bne, hfe]
    go_wp2_with fail
    refine (known_any _ HV1.out).mono ?_
    rintro e w6 ⟨rfl, hb6⟩
    have HB6 := Lib.hid (below_trans HB1.out hb6)
    clear hb6
    go_wp2
    go_ret
    exact ⟨by simp, HB6.out⟩
  | none =>
    have hfe : (flE none : Int) = 0 := rfl
    rw [hfe] at f0
    have HS0 := Lib.hid (HST.out rfl)
    have hb0 := HB1.out
    clear HFN HF1 hfe HST
    go_upto_region 6 with fail
    go_loopw [5, 6] (fun a i wr => ∃ (k j : Nat), k ≤ l.length ∧ j ≤ L.length ∧ a = .int .i64 k ∧ i = .int .i64 j ∧ Hid (St l k (L.drop j)) ∧ Hid (Below w.heap.size w wr ∧ EOwn elT wr (.slice A1 L.length c1) L)) (fun _ i _ => L.length - (intOf i).toNat)
    case atStart => exact ⟨0, 0, by omega, by omega, rfl, rfl, HS0, Lib.hid ⟨HB1.out, HOW1.out⟩⟩
    case round =>
      rename_i wr
      obtain ⟨k, j, hk, hj, rfl, rfl, HS, HR⟩ := hrel
      by_cases hlt : j < L.length
      · have hji : (j : Int) < (L.length : Int) := by omega
        have hj0 : (0 : Int) ≤ (j : Int) := by omega
        obtain ⟨x, hx⟩ : ∃ x, L[j]? = some x := ⟨L[j], List.getElem?_eq_getElem hlt⟩
        obtain ⟨o, ho1, ho2, ho3, ho4, ho5, ho6⟩ := HS.out.next hx
        have HX := Lib.hid hx
        have HTX := Lib.hid ho4
        have HPX := Lib.hid ho5
        have HS6 := Lib.hid ho6
        clear hx ho4 ho5 ho6
        go_upto_region 8 with fail
        go_loopw [5] (fun a wr2 => ∃ (t : Nat), k ≤ t ∧ t ≤ o ∧ a = .int .i64 t ∧ Hid (Below w.heap.size w wr2 ∧ EOwn elT wr2 (.slice A1 L.length c1) L)) (fun a _ => o - (intOf a).toNat)
        case atStart => exact ⟨k, Nat.le_refl _, ho1, rfl, HR⟩
        case round =>
          rename World => wr2
          clear HR
          obtain ⟨t, ht1, ht2, rfl, HR⟩ := hrel
          obtain ⟨_, g, rfl, hc⟩ := EOwn.cell elT_ok HR.out.2 HX.out
          have cx1 : wr2.cell? ⟨g, j * 5 + 1, none⟩ = some (.string (bs x.t)) := by simpa [elT] using hc 1 _ rfl
          have cx3 : wr2.cell? ⟨g, j * 5 + 3, none⟩ = some (.int .i64 x.p.1) := by simpa [elT] using hc 3 _ rfl
          have cx4 : wr2.cell? ⟨g, j * 5 + 4, none⟩ = some (.int .i64 x.p.2) := by simpa [elT] using hc 4 _ rfl
          clear hc
          have hts : (t : Int) < ((bs l).size : Int) := by rw [bs_size]; omega
          have HPP := Lib.hid (fun W => HPL.out W t (by omega))
          by_cases hto : t < o
          · have HNE := pl_inj l hto (by omega)
            rw [← HPX.out] at HNE
            generalize advs (1, 1) (l.take t) = p at *
            generalize x.p = q at *
            have hnq := nq_posV p.1 p.2 q.1 q.2 (fun h => HNE (Prod.ext h.1 h.2))
            clear HNE
            go_wp2_with fail
            go_region_held3 (fun w' => w'.cell? ⟨g, j * 5 + 3, none⟩ = some (.int .i64 q.1) ∧ w'.cell? ⟨g, j * 5 + 4, none⟩ = some (.int .i64 q.2)) (first | (refine ⟨?_, ?_⟩ <;> first | (exact cell_later (by assumption) (by assumption))) | (go_split_ands; refine ⟨?_, ?_⟩ <;> first | (exact cell_later (by assumption) (by assumption)) | go_keep))
              ((go_at_call 12; refine (HPP.out _).mono ?_; rintro e w9 ⟨rfl, hb9⟩; have HQ := Lib.hid (And.intro (below_trans HR.out.1 (by first | exact hb9 | exact below_of_drew hb9)) (HR.out.2.below (by first | exact hb9 | exact below_of_drew hb9)))))
            all_goals
              go_split_ands
              go_wp2_with fail
              go_roundw
              case rel => exact ⟨t + 1, by omega, by omega, by go_num, HQ⟩
              case measure => simp [intOf]; omega
          · obtain rfl : t = o := by omega
            rw [← HPX.out] at HPP
            clear HPX
            generalize x.p = q at *
            go_wp2_with fail
            go_region_held3 (fun w' => w'.cell? ⟨g, j * 5 + 3, none⟩ = some (.int .i64 q.1) ∧ w'.cell? ⟨g, j * 5 + 4, none⟩ = some (.int .i64 q.2)) (first | (refine ⟨?_, ?_⟩ <;> first | (exact cell_later (by assumption) (by assumption))) | (go_split_ands; refine ⟨?_, ?_⟩ <;> first | (exact cell_later (by assumption) (by assumption)) | go_keep))
              ((go_at_call 12; refine (HPP.out _).mono ?_; rintro e w9 ⟨rfl, hb9⟩; have HQ := Lib.hid (And.intro (below_trans HR.out.1 (by first | exact hb9 | exact below_of_drew hb9)) (HR.out.2.below (by first | exact hb9 | exact below_of_drew hb9)))))
            all_goals
              go_split_ands
              obtain ⟨_, g', e', hd⟩ := EOwn.cell elT_ok HQ.out.2 HX.out
              cases e'
              have d1 : w9.cell? ⟨g, j * 5 + 1, none⟩ = some (.string (bs x.t)) := by simpa [elT] using hd 1 _ rfl
              clear hd
              go_upto_region 11 with fail
              have hz : ((bs l).size : Int) = (l.length : Int) := by rw [bs_size]
              have hzx : ((bs x.t).size : Int) = (x.t.length : Int) := by rw [bs_size]
              have hn0 : ((x.t.length : Int) == 0) = false := beq_eq_false_iff_ne.2 (by omega)
              have hsb : IntKind.i64.wrap ((l.length : Int) - (t : Int)) = (l.length : Int) - (t : Int) := IntWalk.i64_in _ (by omega)
              have hgt : ¬ ((l.length : Int) - (t : Int) < (x.t.length : Int)) := by omega
              have hgd : decide ((l.length : Int) - (t : Int) < (x.t.length : Int)) = false := decide_eq_false hgt
              have had : IntKind.i64.wrap ((t : Int) + (x.t.length : Int)) = (t : Int) + (x.t.length : Int) := IntWalk.i64_in _ (by omega)
              have hcut : (bs l).extract t (t + x.t.length) = bs x.t := by rw [bs_cut, HTX.out]
              have hcut2 : (bs l).extract t ((t : Int) + (x.t.length : Int)).toNat = bs x.t := by rw [← hcut]; congr 1
              have e3 : ((bs x.t).toList == (bs x.t).toList) = true := by simp
              go_quiet (fail)
              have hfw := HFW.out
              have hbr := Below.refl w9.heap.size w9
              have hdr : Below w9.heap.size w9 (w9.drewN nq) := ⟨hbr.os, hbr.tape, hbr.output, hbr.size, hbr.block⟩
              have HQ2 := Lib.hid (And.intro (below_trans HQ.out.1 hdr) (HQ.out.2.below hdr))
              clear hbr hdr
              go_wp2_with fail
              go_roundw
              case rel => exact ⟨t + x.t.length, j + 1, by omega, by omega, by go_num, by go_num, HS6, HQ2⟩
              case measure => simp [intOf]; omega
      · obtain rfl : j = L.length := by omega
        have HV9 := Lib.hid (HV.out.below HR.out.1)
        go_wp2_with fail
        refine (known_any _ HV9.out).mono ?_
        rintro e w6 ⟨rfl, hb6⟩
        have HB6 := Lib.hid (below_trans HR.out.1 hb6)
        clear hb6
        go_wp2
        go_ret
        exact ⟨by simp, HB6.out⟩
end Go.Proofs.YtplkcbbbcflngaaDoor
