/- grant: Of of a table, by contract (the patches' own contract is a premise). -/
import Derived.Test.YtmgamlpjgghieaaGreatDoorZbHzDM
namespace Go.Proofs.YtmgamlpjgghieaaGreatDoor
set_option linter.unusedVariables false
set_option linter.unusedSimpArgs false
open Go.RowKit Go.Maps
attribute [local go_sem high] zrun_min
def of1 (r : Bx) (s : Int × Int) (p : Pa) : Int × Int := if meetOk (paBx p) r = true then (IntKind.u64.wrap (s.1 - areaX (meetB (paBx p) r)), min s.2 p.z) else s
def ofS (L : List Pa) (r : Bx) : Int × Int := L.foldl (of1 r) (areaX r, 16)
def ofN (L : List Pa) (r : Bx) : Int := if bxR r = true then (if 0 < (ofS L r).1 then 0 else (ofS L r).2) else 0
theorem ofS_snoc (L : List Pa) (p : Pa) (r : Bx) : ofS (L ++ [p]) r = of1 r (ofS L r) p := by unfold ofS; rw [List.foldl_append]; rfl
/-- What Of tells. -/
def OfP (PN : List Rc → List Pa) (B : Nat) (t m : Nat) (rv : Value) (acc : List (Rc × RV)) (n : Nat) (ro ti la : Int) (r : Bx) (w : World) (e : Ending) (w' : World) : Prop :=
  ∃ n' H', e = .returned (.int .i64 (ofN (PN ((acc.filter fun x => forB x.1 ro ti la).map (·.1))) r)) ∧ n' ≤ n + 1 ∧ TabAt PN B w' t m rv acc n' H' 0 ∧ But m w w'
set_option maxRecDepth 100000 in
set_option maxHeartbeats 8000000 in
theorem tof_any {PN : List Rc → List Pa} {B : Nat} {w : World} {t m : Nat} {rv : Value} {acc : List (Rc × RV)} {n : Nat} {H : Lit → Option Value} (h : TabAt PN B w t m rv acc n H 0) (hl : acc.length ≤ 32) (hn : n + 1 < maxLen) (hB : B ≤ w.heap.size) (ro ti la : Int) (i1 : I64 ro) (i2 : I64 ti) (i3 : I64 la) (hP0 : PN [] = [])
    (HPA : ∀ W v, ButTM t m w W → RRd W v (acc.filter fun x => forB x.1 ro ti la) → Calls Tryz.prog 59 #[v] W fun e w' => ∃ v2, e = .returned v2 ∧ EOwn elPa w' v2 (PN ((acc.filter fun x => forB x.1 ro ti la).map (·.1))) ∧ (∀ i, v2.ownBlock = some i → W.heap.size ≤ i) ∧ Below W.heap.size W w') (r : Bx) :
    Calls Tryz.prog 24 #[ptr t, .int .i64 ro, .int .i64 ti, .int .i64 la, .agg #[.int .i64 r.x0, .int .i64 r.y0, .int .i64 r.x1, .int .i64 r.y1]] w (OfP PN B t m rv acc n ro ti la r w) := by
  obtain ⟨a, b, c, d⟩ := r
  have HA := Lib.hid (show Below w.heap.size w (w.alloc (.cells #[.int .i64 a, .int .i64 b, .int .i64 c, .int .i64 d] 46)) from (Below.refl _ _).alloc (Nat.le_refl _) _)
  have HK := Lib.hid (Blk.new w 46 #[.int .i64 a, .int .i64 b, .int .i64 c, .int .i64 d])
  have HT := Lib.hid h
  have HRK := Lib.hid (fun (W : World) (hW : Below w.heap.size w W) => reck_any (h.below hW) hl hn (Nat.le_trans hB hW.size) ro ti la i1 i2 i3 hP0 (fun V v k1 k2 => HPA V v ⟨k1.os.trans hW.os, k1.tape.trans hW.tape, k1.output.trans hW.output, Nat.le_trans hW.size k1.size, fun i hi g1 g2 => (k1.block i (by have := hW.size; omega) g1 g2).trans (hW.block i hi)⟩ k2))
  have HG := Lib.hid fun W => right_any a b c d W
  have HTM := Lib.hid (show m < w.heap.size from h.map.lt)
  clear h hl hn hB i1 i2 i3 hP0 HPA
  go_enter Tryz.func24, Tryz.ntmps24
  go_upto_region 1 with fail
  generalize (w.alloc (.cells #[.int .i64 a, .int .i64 b, .int .i64 c, .int .i64 d] 46)) = W at *
  obtain ⟨kb, hkb⟩ : ∃ kb, w.heap.size = kb := ⟨_, rfl⟩
  rw [hkb] at HK
  have HKM := Lib.hid (show kb ≠ m from by have := HTM.out; omega)
  (try rw [hkb])
  clear hkb
  have k0 := HK.out.cell 0
  have k1 := HK.out.cell 1
  have k2 := HK.out.cell 2
  have k3 := HK.out.cell 3
  simp only [List.getElem?_toArray, List.getElem?_cons_zero, List.getElem?_cons_succ] at k0 k1 k2 k3
  cases hr : rightB a b c d with
  | false =>
    rw [hr] at HG
    have HRR := Lib.hid (show bxR ⟨a, b, c, d⟩ = false from hr)
    clear hr
    go_wp2_with fail
    refine (HG.out _).mono ?_
    rintro e w1 ⟨rfl, hb⟩
    have HB := Lib.hid (HA.out.trans (hb.mono HA.out.size))
    clear hb
    go_wp2_with fail
    go_ret
    refine ⟨n, H, ?_, by omega, HT.out.below HB.out, But.of_below HB.out⟩
    unfold ofN
    rw [HRR.out]
    rfl
  | true =>
    rw [hr] at HG
    have HRR := Lib.hid (show bxR ⟨a, b, c, d⟩ = true from hr)
    have HAR := Lib.hid fun W => area_yes a b c d hr W
    have hg := gtr_u64
    have HS0 := Lib.hid (show ofS [] ⟨a, b, c, d⟩ = ((c - a + 1) * (d - b + 1), 16) from rfl)
    clear hr
    generalize (c - a + 1) * (d - b + 1) = ar at *
    go_wp2_with fail
    refine (HG.out _).mono ?_
    rintro e w1 ⟨rfl, hb⟩
    have HB := Lib.hid (HA.out.trans (hb.mono HA.out.size))
    have HK1 := Lib.hid (Blk.thru0 HK.out hb)
    clear hb k0 k1 k2 k3
    have k0 := HK1.out.cell 0
    have k1 := HK1.out.cell 1
    have k2 := HK1.out.cell 2
    have k3 := HK1.out.cell 3
    simp only [List.getElem?_toArray, List.getElem?_cons_zero, List.getElem?_cons_succ] at k0 k1 k2 k3
    go_wp2_with fail
    refine (HAR.out _).mono ?_
    rintro e w2 ⟨rfl, hb⟩
    have HB2 := Lib.hid (HB.out.trans (hb.mono HB.out.size))
    have HK2 := Lib.hid (Blk.thru0 HK1.out hb)
    clear hb k0 k1 k2 k3 HK1 HB HK HA
    go_wp2_with fail
    refine (HRK.out _ HB2.out).mono ?_
    intro e w3 hq
    unfold ReckP at hq
    obtain ⟨v3, n', H', rfl, hn', hT3, hO3, -, hb3⟩ := hq
    have HK3 := Lib.hid (show Blk w3 kb 46 #[.int .i64 a, .int .i64 b, .int .i64 c, .int .i64 d] from (hb3.block kb HK2.out.lt HKM.out).trans HK2.out)
    have HEND := Lib.hid (fun (wr : World) (hb : Below w3.heap.size w3 wr) => And.intro hn' (And.intro (hT3.below hb) (((But.of_below HB2.out).trans hb3).lowP (hb.mono ((But.of_below HB2.out).trans hb3).size))))
    have HO := Lib.hid hO3
    obtain ⟨A3, c3, rfl, -, -⟩ := hO3.slice
    clear hT3 hO3 hb3 hn' HK2 HB2 HRK HT
    obtain ⟨L, hL⟩ : ∃ L, PN ((acc.filter fun x => forB x.1 ro ti la).map (·.1)) = L := ⟨_, rfl⟩
    rw [hL] at HO
    (try rw [hL])
    have HLL := Lib.hid hL
    clear hL
    obtain ⟨ln, hln⟩ : ∃ ln, ln = L.length := ⟨_, rfl⟩
    rw [← hln] at HO
    have HLN := Lib.hid hln
    (try rw [← hln])
    clear hln
    have HBE := Lib.hid (ERd.of_own elPa_ok HO.out)
    have HB3 := Lib.hid (Below.refl w3.heap.size w3)
    go_wp2_with fail
    go_loopw [11, 12, 28] (fun av zv i wr => ∃ (j : Nat), j ≤ ln ∧ av = .int .u64 (ofS (L.take j) ⟨a, b, c, d⟩).1 ∧ zv = .int .i64 (ofS (L.take j) ⟨a, b, c, d⟩).2 ∧ i = .int .i64 j ∧ Hid (Below w3.heap.size w3 wr)) (fun _ _ i _ => ln - (intOf i).toNat)
    case atStart => exact ⟨0, Nat.zero_le _, by rw [List.take_zero, HS0.out], by rw [List.take_zero, HS0.out], rfl, HB3⟩
    case round =>
      rename World => wr
      clear HB3
      obtain ⟨j, hj, rfl, rfl, rfl, HB⟩ := hrel
      by_cases hlt : j < ln
      · have hji : (j : Int) < (ln : Int) := by omega
        have hlb : (ln : Int) ≤ 9223372036854775807 := by
          have := HO.out.slice
          obtain ⟨_, _, h9, h8, h7⟩ := this
          simp only [Value.slice.injEq] at h9
          unfold maxLen at h7
          omega
        have hkl : j < L.length := by rw [← HLN.out]; exact hlt
        have hx : L[j]? = some L[j] := List.getElem?_eq_getElem hkl
        have HTK := Lib.hid (show ofS (L.take (j + 1)) ⟨a, b, c, d⟩ = of1 ⟨a, b, c, d⟩ (ofS (L.take j) ⟨a, b, c, d⟩) L[j] by rw [List.take_succ_eq_append_getElem hkl, ofS_snoc])
        obtain ⟨g, o, rfl, -, a0, a1, a2, a3, a4⟩ := (HBE.out.below HB.out).pa5 hx
        generalize L[j] = p at *
        clear hx
        obtain ⟨p0, p1, p2, p3, p4⟩ := p
        simp only at a0 a1 a2 a3 a4
        have HQ := Lib.hid (Blk.thru0 HK3.out HB.out)
        have HAL := Lib.hid (show Below wr.heap.size wr (wr.alloc (.cells #[.int .i64 p0, .int .i64 p1, .int .i64 p2, .int .i64 p3, .int .i64 p4] 48)) from (Below.refl _ _).alloc (Nat.le_refl _) _)
        have HQ1 := Lib.hid (HQ.out.thru0 HAL.out)
        have HP1 := Lib.hid (Blk.new wr 48 #[.int .i64 p0, .int .i64 p1, .int .i64 p2, .int .i64 p3, .int .i64 p4])
        have HB1 := Lib.hid (HB.out.trans (HAL.out.mono HB.out.size))
        go_upto_region 7 with fail
        clear a0 a1 a2 a3 a4 HQ HAL HB
        generalize (wr.alloc (.cells #[.int .i64 p0, .int .i64 p1, .int .i64 p2, .int .i64 p3, .int .i64 p4] 48)) = W1 at *
        generalize wr.heap.size = tr at *
        have k0 := HQ1.out.cell 0
        have k1 := HQ1.out.cell 1
        have k2 := HQ1.out.cell 2
        have k3 := HQ1.out.cell 3
        have p0c := HP1.out.cell 0
        have p1c := HP1.out.cell 1
        have p2c := HP1.out.cell 2
        have p3c := HP1.out.cell 3
        simp only [List.getElem?_toArray, List.getElem?_cons_zero, List.getElem?_cons_succ] at k0 k1 k2 k3 p0c p1c p2c p3c
        have HM := Lib.hid (meetG_any ⟨p0, p1, p2, p3⟩ ⟨a, b, c, d⟩ W1)
        generalize ofS (L.take j) ⟨a, b, c, d⟩ = s at *
        obtain ⟨s1, s2⟩ := s
        simp only
        have HTQ := Lib.hid (show ofS (L.take (j + 1)) ⟨a, b, c, d⟩ = if meetOk ⟨p0, p1, p2, p3⟩ ⟨a, b, c, d⟩ = true then (IntKind.u64.wrap (s1 - areaX (meetB ⟨p0, p1, p2, p3⟩ ⟨a, b, c, d⟩)), min s2 p4) else (s1, s2) from HTK.out)
        cases hok : meetOk ⟨p0, p1, p2, p3⟩ ⟨a, b, c, d⟩ with
        | false =>
          rw [hok] at HM HTQ
          have HTZ := Lib.hid (show ofS (L.take (j + 1)) ⟨a, b, c, d⟩ = (s1, s2) from HTQ.out)
          clear hok HTQ HTK
          go_wp2_with fail
          refine HM.out.mono ?_
          rintro e w4 ⟨rfl, hb4⟩
          have HB4 := Lib.hid (HB1.out.trans (hb4.mono HB1.out.size))
          have HB5 := Lib.hid (fun (ob : Obj) => (HB4.out.alloc HB4.out.size ob))
          clear hb4 HM k0 k1 k2 k3 p0c p1c p2c p3c
          go_wp2_with fail
          go_roundw
          case rel => exact ⟨j + 1, by omega, by rw [HTZ.out], by rw [HTZ.out], by go_num, Lib.hid (HB5.out _)⟩
          case measure => simp [intOf]; omega
        | true =>
          rw [hok] at HM HTQ
          have hrm : bxR (meetB ⟨p0, p1, p2, p3⟩ ⟨a, b, c, d⟩) = true := by
            unfold meetOk at hok
            simp only [Bool.and_eq_true] at hok
            exact hok.2.2
          have hmv : meetV ⟨p0, p1, p2, p3⟩ ⟨a, b, c, d⟩ = meetB ⟨p0, p1, p2, p3⟩ ⟨a, b, c, d⟩ := by unfold meetV; rw [if_pos hok]
          rw [hmv] at HM
          have HTZ := Lib.hid (show ofS (L.take (j + 1)) ⟨a, b, c, d⟩ = (IntKind.u64.wrap (s1 - areaX (meetB ⟨p0, p1, p2, p3⟩ ⟨a, b, c, d⟩)), min s2 p4) from HTQ.out)
          clear hok HTQ HTK hmv
          generalize meetB ⟨p0, p1, p2, p3⟩ ⟨a, b, c, d⟩ = q at *
          obtain ⟨q0, q1, q2, q3⟩ := q
          have HAQ := Lib.hid fun W => area_yes q0 q1 q2 q3 hrm W
          clear hrm
          unfold areaX at HTZ
          simp only at HTZ HM
          generalize (q2 - q0 + 1) * (q3 - q1 + 1) = aq at *
          go_wp2_with fail
          refine HM.out.mono ?_
          rintro e w4 ⟨rfl, hb4⟩
          have HB4 := Lib.hid (HB1.out.trans (hb4.mono HB1.out.size))
          have HP4 := Lib.hid (HP1.out.thru0 hb4)
          have hal : Below w4.heap.size w4 (w4.alloc (.cells #[.int .i64 q0, .int .i64 q1, .int .i64 q2, .int .i64 q3] 46)) := (Below.refl _ _).alloc (Nat.le_refl _) _
          have HB5 := Lib.hid (HB4.out.trans (hal.mono HB4.out.size))
          have HP5 := Lib.hid (HP4.out.thru0 hal)
          have HN5 := Lib.hid (Blk.new w4 46 #[.int .i64 q0, .int .i64 q1, .int .i64 q2, .int .i64 q3])
          clear hb4 hal HM HP4 HB4 k0 k1 k2 k3 p0c p1c p2c p3c
          go_upto_region 8 with fail
          generalize (w4.alloc (.cells #[.int .i64 q0, .int .i64 q1, .int .i64 q2, .int .i64 q3] 46)) = w5 at *
          generalize w4.heap.size = rq at *
          have k0 := HN5.out.cell 0
          have k1 := HN5.out.cell 1
          have k2 := HN5.out.cell 2
          have k3 := HN5.out.cell 3
          simp only [List.getElem?_toArray, List.getElem?_cons_zero, List.getElem?_cons_succ] at k0 k1 k2 k3
          go_wp2_with fail
          refine (HAQ.out _).mono ?_
          rintro e w6 ⟨rfl, hb6⟩
          have HB6 := Lib.hid (HB5.out.trans (hb6.mono HB5.out.size))
          have p4c := (HP5.out.thru0 hb6).cell 4
          simp only [List.getElem?_toArray, List.getElem?_cons_zero, List.getElem?_cons_succ] at p4c
          clear hb6 k0 k1 k2 k3
          go_wp2_with fail
          go_roundw
          case rel => exact ⟨j + 1, by omega, by rw [HTZ.out], by rw [HTZ.out], by go_num, HB6⟩
          case measure => simp [intOf]; omega
      · obtain rfl : j = ln := by omega
        have hTk : L.take j = L := List.take_of_length_le (by rw [HLN.out]; exact Nat.le_refl _)
        rw [hTk]
        have HFN := Lib.hid (show ofN L ⟨a, b, c, d⟩ = if 0 < (ofS L ⟨a, b, c, d⟩).1 then 0 else (ofS L ⟨a, b, c, d⟩).2 from by unfold ofN; rw [HRR.out]; rfl)
        have HE2 := Lib.hid (HEND.out wr HB.out)
        clear hTk HEND HB
        generalize ofS L ⟨a, b, c, d⟩ = s at *
        obtain ⟨s1, s2⟩ := s
        simp only at HFN ⊢
        by_cases hs : 0 < s1
        · rw [if_pos hs] at HFN
          go_wp2_with fail
          go_ret
          exact ⟨n', H', by rw [HLL.out, HFN.out]; rfl, HE2.out.1, HE2.out.2.1, HE2.out.2.2⟩
        · rw [if_neg hs] at HFN
          go_wp2_with fail
          go_ret
          exact ⟨n', H', by rw [HLL.out, HFN.out]; rfl, HE2.out.1, HE2.out.2.1, HE2.out.2.2⟩
end Go.Proofs.YtmgamlpjgghieaaGreatDoor
