/- Texts: RulesTurnedWalk. -/
import Derived.Test.YtkpmeelbjldcoaaGreatDoorZbRuW1
import Derived.Test.YtkpmeelbjldcoaaGreatDoorZbPoV
import Derived.Deep.RegionHeld3
namespace Go.Proofs.YtkpmeelbjldcoaaGreatDoor
set_option linter.unusedVariables false
set_option linter.unusedSimpArgs false
open Go.RowKit
theorem cell_drew {w : World} {p : Addr} {v : Value} (h : w.cell? p = some v) : w.drew.cell? p = some v := h
/-- A row of rules that is made. -/
def RuSt (W0 : World) (M : List (Rc × RV)) (v : Value) (wr : World) : Prop := EOwn elRu wr v M ∧ (∀ i, v.ownBlock = some i → W0.heap.size ≤ i) ∧ Below W0.heap.size W0 wr
set_option maxRecDepth 100000 in
set_option maxHeartbeats 16000000 in
theorem rulesTurned_walk (w : World) (v : Value) (acc : List (Rc × RV)) (at0 ro ti la x y : Int) (hk : ∀ W, Vs W → Hs W → Calls Tryz.prog 9 #[] W fun e w' => e = .returned (.bool true) ∧ Below W.heap.size W w') (hV : Vs w) (hs : Hs w) (h : RRd w v acc) :
    Calls Tryz.prog 6 #[v, .int .i64 at0, wV ro ti la x y] w fun e w' => e = .returned (.bool true) ∧ Below w.heap.size w w' := by
  have HKW := Lib.hid (show ∀ W, Below w.heap.size w W → Calls Tryz.prog 9 #[] W fun e w' => e = .returned (.bool true) ∧ Below W.heap.size W w' from fun W hb => hk W (hV.below hb) (hs.low hb))
  obtain ⟨A1, c1, rfl, -, -, -⟩ := id h.1
  have HA := Lib.hid (show Below w.heap.size w (w.alloc (.cells #[.int .i64 ro, .int .i64 ti, .int .i64 la, .int .i64 x, .int .i64 y] 47)) from (Below.refl _ _).alloc (Nat.le_refl _) _)
  have HW := Lib.hid (Blk.new w 47 #[.int .i64 ro, .int .i64 ti, .int .i64 la, .int .i64 x, .int .i64 y])
  have H1 := Lib.hid (h.below HA.out)
  clear h hV hs hk
  simp only [wV]
  go_enter Tryz.func6, Tryz.ntmps6
  go_upto_region 1 with fail
  generalize (w.alloc (.cells #[.int .i64 ro, .int .i64 ti, .int .i64 la, .int .i64 x, .int .i64 y] 47)) = W0 at *
  by_cases hgo : (100 : Int) < (acc.length : Int) ∨ at0 < 0 ∨ (acc.length : Int) < at0
  · have HK := Lib.hid (HKW.out W0 HA.out)
    have hfin : ∀ w', Below W0.heap.size W0 w' → Below w.heap.size w w' := fun w' hb => HA.out.trans (hb.mono HA.out.size)
    have HFI := Lib.hid hfin
    clear hfin HKW
    rcases hgo with h | h | h
    · go_wp2_with fail
      refine HK.out.mono ?_
      rintro e w2 ⟨rfl, hb⟩
      have HB := Lib.hid (HFI.out _ hb)
      clear hb
      go_wp2_with fail
      go_ret
      exact ⟨rfl, HB.out⟩
    · by_cases h0 : (100 : Int) < (acc.length : Int)
      · go_wp2_with fail
        refine HK.out.mono ?_
        rintro e w2 ⟨rfl, hb⟩
        have HB := Lib.hid (HFI.out _ hb)
        clear hb
        go_wp2_with fail
        go_ret
        exact ⟨rfl, HB.out⟩
      · go_wp2_with fail
        refine HK.out.mono ?_
        rintro e w2 ⟨rfl, hb⟩
        have HB := Lib.hid (HFI.out _ hb)
        clear hb
        go_wp2_with fail
        go_ret
        exact ⟨rfl, HB.out⟩
    · by_cases h0 : (100 : Int) < (acc.length : Int)
      · go_wp2_with fail
        refine HK.out.mono ?_
        rintro e w2 ⟨rfl, hb⟩
        have HB := Lib.hid (HFI.out _ hb)
        clear hb
        go_wp2_with fail
        go_ret
        exact ⟨rfl, HB.out⟩
      · have h1 : ¬ at0 < 0 := by omega
        go_wp2_with fail
        refine HK.out.mono ?_
        rintro e w2 ⟨rfl, hb⟩
        have HB := Lib.hid (HFI.out _ hb)
        clear hb
        go_wp2_with fail
        go_ret
        exact ⟨rfl, HB.out⟩
  · have g1 : ¬ (100 : Int) < (acc.length : Int) := fun h => hgo (Or.inl h)
    have g2 : ¬ at0 < 0 := fun h => hgo (Or.inr (Or.inl h))
    have g3 : ¬ (acc.length : Int) < at0 := fun h => hgo (Or.inr (Or.inr h))
    clear hgo
    obtain ⟨t, rfl⟩ : ∃ t : Nat, at0 = (t : Int) := ⟨at0.toNat, by omega⟩
    have htn : t ≤ acc.length := by omega
    have hn : acc.length ≤ 100 := by omega
    go_wp2_with fail
    clear g1 g2 g3
    go_loopw [7, 8] (fun m i wr => ∃ (p : Nat) (M : List (Rc × RV)) (v0 : Value), t ≤ p ∧ p ≤ acc.length ∧ m = v0 ∧ i = .int .i64 ((p : Int) - 1) ∧ Hid (M = (acc.drop p).reverse) ∧ Hid (RuSt W0 M v0 wr)) (fun _ i _ => (intOf i + 1).toNat)
    case atStart => exact ⟨acc.length, [], _, htn, Nat.le_refl _, rfl, rfl, Lib.hid (by simp), Lib.hid ⟨EOwn.nil_ _, fun i hi => by simp [Value.ownBlock] at hi, Below.refl _ _⟩⟩
    case round =>
      rename_i wr
      obtain ⟨p, M, v0, hp1, hp2, rfl, rfl, HM, HS⟩ := hrel
      by_cases hlp : t < p
      · obtain ⟨q, rfl⟩ : ∃ q, p = q + 1 := ⟨p - 1, by omega⟩
        have hlt : q < acc.length := by omega
        have eq1 : ((q + 1 : Nat) : Int) - 1 = (q : Int) := by omega
        rw [eq1]
        clear eq1
        have htq : (t : Int) ≤ (q : Int) := by omega
        have hqn : (q : Int) < (acc.length : Int) := by omega
        have HAC := Lib.hid (show M.length ≤ 1000000 by rw [HM.out]; simp; omega)
        have HMM := Lib.hid (show (acc.drop q).reverse = M ++ [acc[q]] by rw [HM.out, List.drop_eq_getElem_cons hlt, List.reverse_cons])
        have hx : acc[q]? = some acc[q] := List.getElem?_eq_getElem hlt
        obtain ⟨g1, o1, rfl, hc1⟩ := (H1.out.1.below HS.out.2.2).cell hx
        have HME := Lib.hid (List.getElem_mem hlt)
        generalize acc[q] = xx at *
        obtain ⟨r, xA, xn, xc⟩ := xx
        have a0 : wr.cell? ⟨g1, o1 + q * 7, none⟩ = some (.int .i64 r.k) := hc1 0 _ rfl
        have a1 : wr.cell? ⟨g1, o1 + q * 7 + 1, none⟩ = some (.int .i64 r.roles) := hc1 1 _ rfl
        have a2 : wr.cell? ⟨g1, o1 + q * 7 + 2, none⟩ = some (.int .i64 r.lo) := hc1 2 _ rfl
        have a3 : wr.cell? ⟨g1, o1 + q * 7 + 3, none⟩ = some (.int .i64 r.hi) := hc1 3 _ rfl
        have a4 : wr.cell? ⟨g1, o1 + q * 7 + 4, none⟩ = some (.int .i64 r.labels) := hc1 4 _ rfl
        have a5 : wr.cell? ⟨g1, o1 + q * 7 + 5, none⟩ = some (.slice xA xn xc) := hc1 5 _ rfl
        have a6 : wr.cell? ⟨g1, o1 + q * 7 + 6, none⟩ = some (.int .i64 r.zoom) := hc1 6 _ rfl
        have HOW := Lib.hid HS.out.1
        clear hc1 hx
        go_wp2_with ((at_builtin; refine wpList_epush elRu_ok rfl _ _ 24 rfl (by kernel_rfl) _ M (r, (⟨xA, xn, xc⟩ : RV)) wr.heap.size 1 rfl rfl (HOW.out.alloc _) (fun j u hu => new_cell wr _ _ j (by simpa [elRu, rucells, RV.v] using hu)) HAC.out ?_; intro v' w4 hA))
        have hAL : Below wr.heap.size wr (wr.alloc (.cells #[.int .i64 r.k, .int .i64 r.roles, .int .i64 r.lo, .int .i64 r.hi, .int .i64 r.labels, .slice xA xn xc, .int .i64 r.zoom] 50)) := (Below.refl _ _).alloc (Nat.le_refl _) _
        have hsz : W0.heap.size ≤ (wr.alloc (.cells #[.int .i64 r.k, .int .i64 r.roles, .int .i64 r.lo, .int .i64 r.hi, .int .i64 r.labels, .slice xA xn xc, .int .i64 r.zoom] 50)).heap.size := by have := HS.out.2.2.size; have := hAL.size; omega
        have hBL := But.of_appended hA hsz HS.out.2.1
        have HN := Lib.hid (show RuSt W0 (M ++ [(r, (⟨xA, xn, xc⟩ : RV))]) v' w4 from ⟨hA.own, hA.far hsz HS.out.2.1, (HS.out.2.2.trans (hAL.mono HS.out.2.2.size)).trans hBL⟩)
        clear hA hAL hsz hBL HS HOW a0 a1 a2 a3 a4 a5 a6
        go_wp2_with fail
        go_roundw
        case rel => exact ⟨q, _, _, by omega, by omega, rfl, by go_num, Lib.hid HMM.out.symm, HN⟩
        case measure => first | (simp [intOf]; done) | (simp [intOf]; omega)
      · obtain rfl : p = t := by omega
        have htq : ¬ (p : Int) ≤ (p : Int) - 1 := by omega
        have HMT := Lib.hid (show M = (acc.drop p).reverse from HM.out)
        clear HM
        go_wp2_with fail
        go_loopw [7, 9] (fun m i wr => ∃ (j : Nat) (N : List (Rc × RV)) (v0 : Value), j ≤ p ∧ m = v0 ∧ i = .int .i64 j ∧ Hid (N = M ++ acc.take j) ∧ Hid (RuSt W0 N v0 wr)) (fun _ i _ => p - (intOf i).toNat)
        case atStart => exact ⟨0, M, _, by omega, rfl, rfl, Lib.hid (by simp), HS⟩
        case round =>
          rename_i wr
          clear HS htq
          obtain ⟨j, N, v0, hj, rfl, rfl, HN0, HS⟩ := hrel
          by_cases hjp : j < p
          · have hlt : j < acc.length := by omega
            have hjq : (j : Int) < (p : Int) := by omega
            have hqn : (j : Int) < (acc.length : Int) := by omega
            have hML : M.length ≤ 100 := by rw [HMT.out]; simp; omega
            have HAC := Lib.hid (show N.length ≤ 1000000 by rw [HN0.out]; simp; omega)
            have HMM := Lib.hid (show M ++ acc.take (j + 1) = N ++ [acc[j]] by rw [HN0.out, ← List.take_append_getElem hlt, List.append_assoc])
            have hx : acc[j]? = some acc[j] := List.getElem?_eq_getElem hlt
            obtain ⟨g1, o1, rfl, hc1⟩ := (H1.out.1.below HS.out.2.2).cell hx
            have HME := Lib.hid (List.getElem_mem hlt)
            generalize acc[j] = xx at *
            obtain ⟨r, xA, xn, xc⟩ := xx
            have a0 : wr.cell? ⟨g1, o1 + j * 7, none⟩ = some (.int .i64 r.k) := hc1 0 _ rfl
            have a1 : wr.cell? ⟨g1, o1 + j * 7 + 1, none⟩ = some (.int .i64 r.roles) := hc1 1 _ rfl
            have a2 : wr.cell? ⟨g1, o1 + j * 7 + 2, none⟩ = some (.int .i64 r.lo) := hc1 2 _ rfl
            have a3 : wr.cell? ⟨g1, o1 + j * 7 + 3, none⟩ = some (.int .i64 r.hi) := hc1 3 _ rfl
            have a4 : wr.cell? ⟨g1, o1 + j * 7 + 4, none⟩ = some (.int .i64 r.labels) := hc1 4 _ rfl
            have a5 : wr.cell? ⟨g1, o1 + j * 7 + 5, none⟩ = some (.slice xA xn xc) := hc1 5 _ rfl
            have a6 : wr.cell? ⟨g1, o1 + j * 7 + 6, none⟩ = some (.int .i64 r.zoom) := hc1 6 _ rfl
            have HOW := Lib.hid HS.out.1
            clear hc1 hx
            go_wp2_with ((at_builtin; refine wpList_epush elRu_ok rfl _ _ 24 rfl (by kernel_rfl) _ N (r, (⟨xA, xn, xc⟩ : RV)) wr.heap.size 1 rfl rfl (HOW.out.alloc _) (fun j u hu => new_cell wr _ _ j (by simpa [elRu, rucells, RV.v] using hu)) HAC.out ?_; intro v' w4 hA))
            have hAL : Below wr.heap.size wr (wr.alloc (.cells #[.int .i64 r.k, .int .i64 r.roles, .int .i64 r.lo, .int .i64 r.hi, .int .i64 r.labels, .slice xA xn xc, .int .i64 r.zoom] 50)) := (Below.refl _ _).alloc (Nat.le_refl _) _
            have hsz : W0.heap.size ≤ (wr.alloc (.cells #[.int .i64 r.k, .int .i64 r.roles, .int .i64 r.lo, .int .i64 r.hi, .int .i64 r.labels, .slice xA xn xc, .int .i64 r.zoom] 50)).heap.size := by have := HS.out.2.2.size; have := hAL.size; omega
            have hBL := But.of_appended hA hsz HS.out.2.1
            have HN := Lib.hid (show RuSt W0 (N ++ [(r, (⟨xA, xn, xc⟩ : RV))]) v' w4 from ⟨hA.own, hA.far hsz HS.out.2.1, (HS.out.2.2.trans (hAL.mono HS.out.2.2.size)).trans hBL⟩)
            clear hA hAL hsz hBL HS HOW a0 a1 a2 a3 a4 a5 a6
            go_wp2_with fail
            go_roundw
            case rel => exact ⟨j + 1, _, _, by omega, rfl, by go_num, Lib.hid HMM.out.symm, HN⟩
            case measure => simp [intOf]; omega
          · obtain rfl : j = p := by omega
            have HPM := Lib.hid (show N.Perm acc by
              rw [HN0.out, HMT.out]
              refine ((List.reverse_perm _).append_right _).trans ?_
              refine List.perm_append_comm.trans ?_
              rw [List.take_append_drop])
            obtain ⟨A3, c3, rfl, _, _⟩ := HS.out.1.slice
            have HRW := Lib.hid (show RRd wr (.slice A3 N.length c3) N from ⟨ERd.of_own elRu_ok HS.out.1, fun x hx => (H1.out.2 x (HPM.out.mem_iff.1 hx)).below HS.out.2.2⟩)
            have HW3 := Lib.hid (Blk.thru0 HW.out HS.out.2.2)
            have HR1 := Lib.hid (H1.out.below HS.out.2.2)
            have HB3 := Lib.hid (HA.out.trans (HS.out.2.2.mono HA.out.size))
            have HZ1 := Lib.hid (fun W (hb : Below wr.heap.size wr W) => lzoom_any W _ acc ro ti la x y (HR1.out.below hb))
            have HZ2 := Lib.hid (fun W (hb : Below wr.heap.size wr W) => lzoom_any W _ N ro ti la x y (HRW.out.below hb))
            have HC1 := Lib.hid (fun W (hb : Below wr.heap.size wr W) => cloaks_any W _ acc ro (HR1.out.below hb))
            have HC2 := Lib.hid (fun W (hb : Below wr.heap.size wr W) => cloaks_any W _ N ro (HRW.out.below hb))
            have HKN := Lib.hid (fun W (hb : Below wr.heap.size wr W) => HKW.out W (HB3.out.trans (hb.mono HB3.out.size)))
            rw [zoom_perm HPM.out] at HZ2
            rw [cloaks_perm HPM.out] at HC2
            simp only [wV] at HZ1 HZ2
            generalize zoomN acc ro ti la x y = z at *
            have hzz : (z == z) = true := by simp
            have HDR := Lib.hid (show Below wr.heap.size wr wr.drew from below_drew1 (Below.refl _ _))
            have q0 : wr.cell? ⟨w.heap.size, 0, none⟩ = some (.int .i64 ro) := HW3.out.cell 0
            have q1 : wr.cell? ⟨w.heap.size, 1, none⟩ = some (.int .i64 ti) := HW3.out.cell 1
            have q2 : wr.cell? ⟨w.heap.size, 2, none⟩ = some (.int .i64 la) := HW3.out.cell 2
            have q3 : wr.cell? ⟨w.heap.size, 3, none⟩ = some (.int .i64 x) := HW3.out.cell 3
            have q4 : wr.cell? ⟨w.heap.size, 4, none⟩ = some (.int .i64 y) := HW3.out.cell 4
            have HQ := Lib.hid (show ∀ W, Below wr.heap.size wr W → W.cell? ⟨w.heap.size, 0, none⟩ = some (.int .i64 ro) ∧ W.cell? ⟨w.heap.size, 1, none⟩ = some (.int .i64 ti) ∧ W.cell? ⟨w.heap.size, 2, none⟩ = some (.int .i64 la) ∧ W.cell? ⟨w.heap.size, 3, none⟩ = some (.int .i64 x) ∧ W.cell? ⟨w.heap.size, 4, none⟩ = some (.int .i64 y) from fun W hb => ⟨(Blk.thru0 HW3.out hb).cell 0, (Blk.thru0 HW3.out hb).cell 1, (Blk.thru0 HW3.out hb).cell 2, (Blk.thru0 HW3.out hb).cell 3, (Blk.thru0 HW3.out hb).cell 4⟩)
            clear HS HRW HR1 HPM HKW HMT HN0
            generalize cloaksB acc ro = bb at *
            cases bb with
            | false =>
              go_upto_region 12 with fail
              go_region_held3 (fun w' => w'.cell? ⟨w.heap.size, 0, none⟩ = some (.int .i64 ro) ∧ w'.cell? ⟨w.heap.size, 1, none⟩ = some (.int .i64 ti) ∧ w'.cell? ⟨w.heap.size, 2, none⟩ = some (.int .i64 la) ∧ w'.cell? ⟨w.heap.size, 3, none⟩ = some (.int .i64 x) ∧ w'.cell? ⟨w.heap.size, 4, none⟩ = some (.int .i64 y)) (first | (refine ⟨?_, ?_, ?_, ?_, ?_⟩ <;> first | assumption | exact cell_drew (by assumption)) | (go_split_ands; refine ⟨?_, ?_, ?_, ?_, ?_⟩ <;> first | assumption | exact cell_drew (by assumption))) (first | (go_at_call 23; with_reducible refine Calls.mono (HZ1.out _ ?_) ?_; (first | exact B8.out | exact below_drew1 B8.out | exact HDR.out | exact Below.refl _ _); rintro e w8 ⟨rfl, hb8⟩; have K1 : Below wr.heap.size wr w8 := (by first | exact B8.out.trans (hb8.mono B8.out.size) | exact (below_drew1 B8.out).trans (hb8.mono B8.out.size) | exact HDR.out.trans (hb8.mono HDR.out.size) | exact hb8); have B8 := Lib.hid K1; obtain ⟨q0, q1, q2, q3, q4⟩ := HQ.out _ K1; clear hb8 K1) | (go_at_call 23; with_reducible refine Calls.mono (HZ2.out _ ?_) ?_; (first | exact B8.out | exact below_drew1 B8.out | exact HDR.out | exact Below.refl _ _); rintro e w8 ⟨rfl, hb8⟩; have K1 : Below wr.heap.size wr w8 := (by first | exact B8.out.trans (hb8.mono B8.out.size) | exact (below_drew1 B8.out).trans (hb8.mono B8.out.size) | exact HDR.out.trans (hb8.mono HDR.out.size) | exact hb8); have B8 := Lib.hid K1; obtain ⟨q0, q1, q2, q3, q4⟩ := HQ.out _ K1; clear hb8 K1) | (go_at_call 21; with_reducible refine Calls.mono (HC1.out _ ?_) ?_; (first | exact B8.out | exact below_drew1 B8.out | exact HDR.out | exact Below.refl _ _); rintro e w8 ⟨rfl, hb8⟩; have K1 : Below wr.heap.size wr w8 := (by first | exact B8.out.trans (hb8.mono B8.out.size) | exact (below_drew1 B8.out).trans (hb8.mono B8.out.size) | exact HDR.out.trans (hb8.mono HDR.out.size) | exact hb8); have B8 := Lib.hid K1; obtain ⟨q0, q1, q2, q3, q4⟩ := HQ.out _ K1; clear hb8 K1) | (go_at_call 21; with_reducible refine Calls.mono (HC2.out _ ?_) ?_; (first | exact B8.out | exact below_drew1 B8.out | exact HDR.out | exact Below.refl _ _); rintro e w8 ⟨rfl, hb8⟩; have K1 : Below wr.heap.size wr w8 := (by first | exact B8.out.trans (hb8.mono B8.out.size) | exact (below_drew1 B8.out).trans (hb8.mono B8.out.size) | exact HDR.out.trans (hb8.mono HDR.out.size) | exact hb8); have B8 := Lib.hid K1; obtain ⟨q0, q1, q2, q3, q4⟩ := HQ.out _ K1; clear hb8 K1) | (go_at_call 9; with_reducible refine Calls.mono (HKN.out _ ?_) ?_; (first | exact B8.out | exact below_drew1 B8.out | exact HDR.out | exact Below.refl _ _); rintro e w8 ⟨rfl, hb8⟩; have K1 : Below wr.heap.size wr w8 := (by first | exact B8.out.trans (hb8.mono B8.out.size) | exact (below_drew1 B8.out).trans (hb8.mono B8.out.size) | exact HDR.out.trans (hb8.mono HDR.out.size) | exact hb8); have B8 := Lib.hid K1; obtain ⟨q0, q1, q2, q3, q4⟩ := HQ.out _ K1; clear hb8 K1))
              all_goals
                go_wp2_with fail
                go_ret
                exact ⟨rfl, HB3.out.trans (B8.out.mono HB3.out.size)⟩
            | true =>
              go_upto_region 12 with fail
              go_region_held3 (fun w' => w'.cell? ⟨w.heap.size, 0, none⟩ = some (.int .i64 ro) ∧ w'.cell? ⟨w.heap.size, 1, none⟩ = some (.int .i64 ti) ∧ w'.cell? ⟨w.heap.size, 2, none⟩ = some (.int .i64 la) ∧ w'.cell? ⟨w.heap.size, 3, none⟩ = some (.int .i64 x) ∧ w'.cell? ⟨w.heap.size, 4, none⟩ = some (.int .i64 y)) (first | (refine ⟨?_, ?_, ?_, ?_, ?_⟩ <;> first | assumption | exact cell_drew (by assumption)) | (go_split_ands; refine ⟨?_, ?_, ?_, ?_, ?_⟩ <;> first | assumption | exact cell_drew (by assumption))) (first | (go_at_call 23; with_reducible refine Calls.mono (HZ1.out _ ?_) ?_; (first | exact B8.out | exact below_drew1 B8.out | exact HDR.out | exact Below.refl _ _); rintro e w8 ⟨rfl, hb8⟩; have K1 : Below wr.heap.size wr w8 := (by first | exact B8.out.trans (hb8.mono B8.out.size) | exact (below_drew1 B8.out).trans (hb8.mono B8.out.size) | exact HDR.out.trans (hb8.mono HDR.out.size) | exact hb8); have B8 := Lib.hid K1; obtain ⟨q0, q1, q2, q3, q4⟩ := HQ.out _ K1; clear hb8 K1) | (go_at_call 23; with_reducible refine Calls.mono (HZ2.out _ ?_) ?_; (first | exact B8.out | exact below_drew1 B8.out | exact HDR.out | exact Below.refl _ _); rintro e w8 ⟨rfl, hb8⟩; have K1 : Below wr.heap.size wr w8 := (by first | exact B8.out.trans (hb8.mono B8.out.size) | exact (below_drew1 B8.out).trans (hb8.mono B8.out.size) | exact HDR.out.trans (hb8.mono HDR.out.size) | exact hb8); have B8 := Lib.hid K1; obtain ⟨q0, q1, q2, q3, q4⟩ := HQ.out _ K1; clear hb8 K1) | (go_at_call 21; with_reducible refine Calls.mono (HC1.out _ ?_) ?_; (first | exact B8.out | exact below_drew1 B8.out | exact HDR.out | exact Below.refl _ _); rintro e w8 ⟨rfl, hb8⟩; have K1 : Below wr.heap.size wr w8 := (by first | exact B8.out.trans (hb8.mono B8.out.size) | exact (below_drew1 B8.out).trans (hb8.mono B8.out.size) | exact HDR.out.trans (hb8.mono HDR.out.size) | exact hb8); have B8 := Lib.hid K1; obtain ⟨q0, q1, q2, q3, q4⟩ := HQ.out _ K1; clear hb8 K1) | (go_at_call 21; with_reducible refine Calls.mono (HC2.out _ ?_) ?_; (first | exact B8.out | exact below_drew1 B8.out | exact HDR.out | exact Below.refl _ _); rintro e w8 ⟨rfl, hb8⟩; have K1 : Below wr.heap.size wr w8 := (by first | exact B8.out.trans (hb8.mono B8.out.size) | exact (below_drew1 B8.out).trans (hb8.mono B8.out.size) | exact HDR.out.trans (hb8.mono HDR.out.size) | exact hb8); have B8 := Lib.hid K1; obtain ⟨q0, q1, q2, q3, q4⟩ := HQ.out _ K1; clear hb8 K1) | (go_at_call 9; with_reducible refine Calls.mono (HKN.out _ ?_) ?_; (first | exact B8.out | exact below_drew1 B8.out | exact HDR.out | exact Below.refl _ _); rintro e w8 ⟨rfl, hb8⟩; have K1 : Below wr.heap.size wr w8 := (by first | exact B8.out.trans (hb8.mono B8.out.size) | exact (below_drew1 B8.out).trans (hb8.mono B8.out.size) | exact HDR.out.trans (hb8.mono HDR.out.size) | exact hb8); have B8 := Lib.hid K1; obtain ⟨q0, q1, q2, q3, q4⟩ := HQ.out _ K1; clear hb8 K1))
              all_goals
                go_wp2_with fail
                go_ret
                exact ⟨rfl, HB3.out.trans (B8.out.mono HB3.out.size)⟩
end Go.Proofs.YtkpmeelbjldcoaaGreatDoor
