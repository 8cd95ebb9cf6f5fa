/- policy: the document's Same of declarations by contract; two texts with a line's end between, the pure side. -/
import Derived.Test.YtileecbccmfpdaaGreatDoorPoK
import Derived.Test.YtileecbccmfpdaaGreatDoorLrPlace
import Derived.Test.YtileecbccmfpdaaGreatDoorLr8
namespace Go.Proofs.YtileecbccmfpdaaGreatDoor
section
set_option linter.unusedVariables false
set_option linter.unusedSimpArgs false
open Go.RowKit
abbrev whV (a : Wh) : Value := .agg #[.bool a.any, .string (bs a.nm), .int .i64 a.n, .int .i64 a.p.1, .int .i64 a.p.2]
def SameW (at0 : Bool) (a b : Wh) : Prop := a.any = b.any ∧ a.nm = b.nm ∧ a.n = b.n ∧ (at0 = true → a.p = b.p)
def SameD (at0 : Bool) (d e : Dc) : Prop := d.k = e.k ∧ d.nm = e.nm ∧ d.n = e.n ∧ d.bx = e.bx ∧ SameW at0 d.role e.role ∧ d.lo = e.lo ∧ d.hi = e.hi ∧ SameW at0 d.label e.label ∧ SameW at0 d.wh e.wh ∧ d.zoom = e.zoom ∧ (at0 = true → d.p = e.p)
theorem nq_pos (a b : Int) (w : World) : (Op.equalIn 10000 25 (.agg #[.int .i64 a, .int .i64 b]) (.agg #[.int .i64 a, .int .i64 b])).run Tryz.prog w = .ok true w := ne_posV a b w
attribute [local go_sem] nq_pos
set_option maxRecDepth 100000 in
set_option maxHeartbeats 2000000 in
theorem rwho_any (a b : Wh) (at0 : Bool) (h : SameW at0 a b) (w : World) :
    Calls Tryz.prog 26 #[whV a, whV b, .bool at0] w fun e w' => e = .returned (.bool true) ∧ Below w.heap.size w w' := by
  obtain ⟨h1, h2, h3, h4⟩ := h
  obtain ⟨a1, a2, a3, a4⟩ := a
  obtain ⟨b1, b2, b3, b4⟩ := b
  simp only at h1 h2 h3 h4
  subst h1; subst h2; subst h3
  have e3 : ((bs a2).toList == (bs a2).toList) = true := by simp
  have HB : Hid (∀ x y : Array Value, Below w.heap.size w ((w.alloc (.cells x 42)).alloc (.cells y 42))) := Lib.hid fun x y => ((Below.refl _ _).alloc (Nat.le_refl _) _).alloc (by simp) _
  cases at0 with
  | false =>
    clear h4
    go_enter Tryz.func26, Tryz.ntmps26
    go_wp2_with fail
    go_ret
    exact ⟨by simp, HB.out _ _⟩
  | true =>
    obtain rfl := h4 rfl
    clear h4
    go_enter Tryz.func26, Tryz.ntmps26
    go_wp2_with fail
    go_ret
    exact ⟨by simp, HB.out _ _⟩
set_option maxRecDepth 100000 in
set_option maxHeartbeats 2000000 in
theorem rrects_any (w : World) (v1 v2 : Value) (L : List Bx) (h1 : ERd elR w v1 L) (h2 : ERd elR w v2 L) :
    Calls Tryz.prog 25 #[v1, v2] w fun e w' => e = .returned (.bool true) ∧ Below w.heap.size w w' := by
  obtain ⟨A1, c1, rfl, hl1, hl2, -⟩ := id h1
  obtain ⟨A2, c2, rfl, -, -, -⟩ := id h2
  have hl : L.length ≤ 9223372036854775807 := by unfold maxLen at hl2; omega
  clear hl1 hl2
  have H1 := Lib.hid h1
  have H2 := Lib.hid h2
  have HL := Lib.hid hl
  have HB0 := Lib.hid (Below.refl w.heap.size w)
  clear h1 h2 hl
  go_enter Tryz.func25, Tryz.ntmps25
  have hnn : ((L.length : Int) != (L.length : Int)) = false := by simp
  go_wp2_with fail
  go_loopw [5] (fun i wr => ∃ k : Nat, k ≤ L.length ∧ i = .int .i64 k ∧ Hid (Below w.heap.size w wr)) (fun i _ => L.length - (intOf i).toNat)
  case atStart => exact ⟨0, by omega, rfl, HB0⟩
  case round =>
    clear HB0
    obtain ⟨k, hk, rfl, HB⟩ := hrel
    by_cases hlt : k < L.length
    · have hki : (k : Int) < (L.length : Int) := by omega
      have hkb : (k : Int) < 9223372036854775807 := by have := HL.out; omega
      have hk0 : (0 : Int) ≤ (k : Int) := by omega
      have hx : L[k]? = some L[k] := List.getElem?_eq_getElem hlt
      obtain ⟨g1, o1, rfl, hc1⟩ := (H1.out.below HB.out).cell hx
      obtain ⟨g2, o2, rfl, hc2⟩ := (H2.out.below HB.out).cell hx
      generalize L[k] = x at *
      have a0 : wr.cell? ⟨g1, o1 + k * 4, none⟩ = some (.int .i64 x.x0) := hc1 0 _ rfl
      have a1 : wr.cell? ⟨g1, o1 + k * 4 + 1, none⟩ = some (.int .i64 x.y0) := hc1 1 _ rfl
      have a2 : wr.cell? ⟨g1, o1 + k * 4 + 2, none⟩ = some (.int .i64 x.x1) := hc1 2 _ rfl
      have a3 : wr.cell? ⟨g1, o1 + k * 4 + 3, none⟩ = some (.int .i64 x.y1) := hc1 3 _ rfl
      have b0 : wr.cell? ⟨g2, o2 + k * 4, none⟩ = some (.int .i64 x.x0) := hc2 0 _ rfl
      have b1 : wr.cell? ⟨g2, o2 + k * 4 + 1, none⟩ = some (.int .i64 x.y0) := hc2 1 _ rfl
      have b2 : wr.cell? ⟨g2, o2 + k * 4 + 2, none⟩ = some (.int .i64 x.x1) := hc2 2 _ rfl
      have b3 : wr.cell? ⟨g2, o2 + k * 4 + 3, none⟩ = some (.int .i64 x.y1) := hc2 3 _ rfl
      clear hc1 hc2 hx
      go_wp2_with fail
      go_quiet (fail)
      go_wp2_with fail
      refine ⟨⟨k + 1, by omega, by go_num, Lib.hid ⟨HB.out.os, HB.out.tape, HB.out.output, HB.out.size, HB.out.block⟩⟩, by simp [intOf]; omega⟩
    · obtain rfl : k = L.length := by omega
      go_wp2_with fail
      go_ret
      exact ⟨rfl, HB.out⟩
attribute [local go_sem ↓] to_ld44
attribute [local go_sem] run_ld24o
set_option maxRecDepth 100000 in
set_option maxHeartbeats 16000000 in
theorem rsameD_any (w : World) (v1 v2 : Value) (acc1 acc2 : List (Dc × RV)) (at0 : Bool) (h1 : DRd w v1 acc1) (h2 : DRd w v2 acc2) (hl : acc1.length ≤ 1000000) (he : acc1.length = acc2.length)
    (hs : ∀ (i : Nat) (x y : Dc × RV), acc1[i]? = some x → acc2[i]? = some y → SameD at0 x.1 y.1) :
    Calls Tryz.prog 12 #[v1, v2, .bool at0] w fun e w' => e = .returned (.bool true) ∧ Below w.heap.size w w' := by
  obtain ⟨A1, c1, rfl, -, -, -⟩ := id h1.1
  obtain ⟨A2, c2, rfl, -, -, -⟩ := id h2.1
  have H1 := Lib.hid h1
  have H2 := Lib.hid h2
  have HL := Lib.hid hl
  have HS := Lib.hid hs
  have HEQ := Lib.hid he
  have HB0 := Lib.hid (Below.refl w.heap.size w)
  have hnn : ((acc1.length : Int) != (acc2.length : Int)) = false := by rw [he]; simp
  clear h1 h2 hl hs he
  go_enter Tryz.func12, Tryz.ntmps12
  go_wp2_with fail
  go_loopw [7] (fun i wr => ∃ k : Nat, k ≤ acc1.length ∧ i = .int .i64 k ∧ Hid (Below w.heap.size w wr)) (fun i _ => acc1.length - (intOf i).toNat)
  case atStart => exact ⟨0, by omega, rfl, HB0⟩
  case round =>
    clear HB0
    obtain ⟨k, hk, rfl, HB⟩ := hrel
    by_cases hlt : k < acc1.length
    · have hki : (k : Int) < (acc1.length : Int) := by omega
      have hkj : (k : Int) < (acc2.length : Int) := by have := HEQ.out; omega
      have hkb : (k : Int) < 1000000 := by have := HL.out; omega
      have hlt2 : k < acc2.length := by have := HEQ.out; omega
      have hx : acc1[k]? = some acc1[k] := List.getElem?_eq_getElem hlt
      have hy : acc2[k]? = some acc2[k] := List.getElem?_eq_getElem hlt2
      obtain ⟨g, o, rfl, hc⟩ := (H1.out.1.below HB.out).cell hx
      obtain ⟨g2, o2, rfl, hc2⟩ := (H2.out.1.below HB.out).cell hy
      have HXY := Lib.hid (HS.out k _ _ hx hy)
      have HXB := Lib.hid ((H1.out.2 _ (List.getElem_mem hlt)).below HB.out)
      have HYB := Lib.hid ((H2.out.2 _ (List.getElem_mem hlt2)).below HB.out)
      generalize acc1[k] = x at *
      generalize acc2[k] = y at *
      obtain ⟨d, xv⟩ := x
      obtain ⟨d2, yv⟩ := y
      have HRG := Lib.hid (show wr.rangeAt g (o + k * 24) (dcells d xv.v) from fun j u hu => hc j u hu)
      have HRH := Lib.hid (show wr.rangeAt g2 (o2 + k * 24) (dcells d2 yv.v) from fun j u hu => hc2 j u hu)
      have q1 : Rd24o wr g (o + k * 24) := ⟨_, rfl, HRG.out⟩
      obtain ⟨VX, hVX⟩ : ∃ VX, Value.agg (dcells d xv.v).toArray = VX := ⟨_, rfl⟩
      obtain ⟨VY, hVY⟩ : ∃ VY, Value.agg (dcells d2 yv.v).toArray = VY := ⟨_, rfl⟩
      have HVX := Lib.hid hVX
      have HVY := Lib.hid hVY
      have q2 : ld24o wr g (o + k * 24) = VX := (ld24o_of rfl HRG.out).trans hVX
      have HTH := Lib.hid ((Blk.new wr 44 #[.int .i64 0, .string ⟨#[]⟩, .int .i64 0, .slice none 0 0, .bool false, .string ⟨#[]⟩, .int .i64 0, .int .i64 0, .int .i64 0, .int .i64 0, .int .i64 0, .bool false, .string ⟨#[]⟩, .int .i64 0, .int .i64 0, .int .i64 0, .bool false, .string ⟨#[]⟩, .int .i64 0, .int .i64 0, .int .i64 0, .int .i64 0, .int .i64 0, .int .i64 0]).there (n := 24) (by decide))
      have HIN := Lib.hid (show (Tryz.prog.info? 44).map (·.size) = some (dcells d xv.v).toArray.size by kernel_rfl)
      have HON := Lib.hid (dcells_one d (bv := xv.v) rfl)
      clear hc hc2 hx hy hVX hVY
      have HCP := Lib.hid (copy_at wr d xv.v)
      go_upto_region 7 with ((refine wpList_store_mid rfl 44 _ _ rfl wr.heap.size 0 (dcells d xv.v).toArray rfl HVX.out.symm HTH.out HIN.out HON.out ?_))
      clear HTH q1 q2 HIN HON
      generalize hp1 : wr.heap.size = p1 at *
      generalize ((wr.alloc (.cells #[.int .i64 0, .string ⟨#[]⟩, .int .i64 0, .slice none 0 0, .bool false, .string ⟨#[]⟩, .int .i64 0, .int .i64 0, .int .i64 0, .int .i64 0, .int .i64 0, .bool false, .string ⟨#[]⟩, .int .i64 0, .int .i64 0, .int .i64 0, .bool false, .string ⟨#[]⟩, .int .i64 0, .int .i64 0, .int .i64 0, .int .i64 0, .int .i64 0, .int .i64 0] 44)).setCells p1 0 (dcells d xv.v).toArray.toList) = W1 at *
      rw [← hp1] at HCP
      have HRH1 := Lib.hid (range_below HRH.out HCP.out.2)
      have HB1 := Lib.hid (HB.out.trans (HCP.out.2.mono HB.out.size))
      have HXB1 := Lib.hid (HXB.out.below HCP.out.2)
      have HYB1 := Lib.hid (HYB.out.below HCP.out.2)
      rw [hp1] at HCP
      have q1 : Rd24o W1 g2 (o2 + k * 24) := ⟨_, rfl, HRH1.out⟩
      have q2 : ld24o W1 g2 (o2 + k * 24) = VY := (ld24o_of rfl HRH1.out).trans HVY.out
      have HTH := Lib.hid ((Blk.new W1 44 #[.int .i64 0, .string ⟨#[]⟩, .int .i64 0, .slice none 0 0, .bool false, .string ⟨#[]⟩, .int .i64 0, .int .i64 0, .int .i64 0, .int .i64 0, .int .i64 0, .bool false, .string ⟨#[]⟩, .int .i64 0, .int .i64 0, .int .i64 0, .bool false, .string ⟨#[]⟩, .int .i64 0, .int .i64 0, .int .i64 0, .int .i64 0, .int .i64 0, .int .i64 0]).there (n := 24) (by decide))
      have HIN := Lib.hid (show (Tryz.prog.info? 44).map (·.size) = some (dcells d2 yv.v).toArray.size by kernel_rfl)
      have HON := Lib.hid (dcells_one d2 (bv := yv.v) rfl)
      have HCQ := Lib.hid (copy_at W1 d2 yv.v)
      go_upto_region 8 with ((refine wpList_store_mid rfl 44 _ _ rfl W1.heap.size 0 (dcells d2 yv.v).toArray rfl HVY.out.symm HTH.out HIN.out HON.out ?_))
      clear HTH q1 q2 HIN HON
      have HKA := Lib.hid (Blk.thru0 HCP.out.1 HCQ.out.2)
      generalize hp2 : W1.heap.size = p2 at *
      generalize ((W1.alloc (.cells #[.int .i64 0, .string ⟨#[]⟩, .int .i64 0, .slice none 0 0, .bool false, .string ⟨#[]⟩, .int .i64 0, .int .i64 0, .int .i64 0, .int .i64 0, .int .i64 0, .bool false, .string ⟨#[]⟩, .int .i64 0, .int .i64 0, .int .i64 0, .bool false, .string ⟨#[]⟩, .int .i64 0, .int .i64 0, .int .i64 0, .int .i64 0, .int .i64 0, .int .i64 0] 44)).setCells p2 0 (dcells d2 yv.v).toArray.toList) = W2 at *
      rw [← hp2] at HCQ
      have HB2 := Lib.hid (HB1.out.trans (HCQ.out.2.mono HB1.out.size))
      have HXB2 := Lib.hid (HXB1.out.below HCQ.out.2)
      have HYB2 := Lib.hid (HYB1.out.below HCQ.out.2)
      rw [hp2] at HCQ
      have HKB := Lib.hid HCQ.out.1
      clear HCP HCQ HRG HRH HRH1 HVX HVY HXB HYB HXB1 HYB1 HB1 HB
      obtain ⟨dk, dnm, dn, dbx, drole, dlo, dhi, dlabel, dwh, dzoom, dp⟩ := d
      obtain ⟨ek, enm, en, ebx, erole, elo, ehi, elabel, ewh, ezoom, ep⟩ := d2
      obtain ⟨e1, e2, e3, e4, s1, e5, e6, s2, s3, e7, e8⟩ := HXY.out
      simp only at e1 e2 e3 e4 s1 e5 e6 s2 s3 e7 e8
      subst e1; subst e2; subst e3; subst e4; subst e5; subst e6; subst e7
      have HS1 := Lib.hid (fun W => rwho_any drole erole at0 s1 W)
      have HS2 := Lib.hid (fun W => rwho_any dlabel elabel at0 s2 W)
      have HS3 := Lib.hid (fun W => rwho_any dwh ewh at0 s3 W)
      have HPP := Lib.hid e8
      have f3 : ((bs dnm).toList == (bs dnm).toList) = true := by simp
      have f3n : ((bs dnm).toList != (bs dnm).toList) = false := by simp
      have n1 : (dk != dk) = false := by simp
      have n2 : (dn != dn) = false := by simp
      have n3 : (dlo != dlo) = false := by simp
      have n4 : (dhi != dhi) = false := by simp
      have n5 : (dzoom != dzoom) = false := by simp
      clear s1 s2 s3 e8 HXY hp1 hp2 hnn
      have HRR := Lib.hid (rrects_any W2 xv.v yv.v dbx HXB2.out HYB2.out)
      obtain ⟨xA, xn, xc⟩ := xv
      obtain ⟨yA, yn, yc⟩ := yv
      simp only [DAt, dcells, RV.v] at HKA HKB HRR HXB2 HYB2
      have a0 := HKA.out.cell 0
      have a1 := HKA.out.cell 1
      have a2 := HKA.out.cell 2
      have a3 := HKA.out.cell 3
      simp only [List.getElem?_toArray, List.getElem?_cons_zero, List.getElem?_cons_succ] at a0 a1 a2 a3
      have b0 := HKB.out.cell 0
      have b1 := HKB.out.cell 1
      have b2 := HKB.out.cell 2
      have b3 := HKB.out.cell 3
      simp only [List.getElem?_toArray, List.getElem?_cons_zero, List.getElem?_cons_succ] at b0 b1 b2 b3
      go_wp2_with fail
      refine HRR.out.mono ?_
      rintro e W3 ⟨rfl, hb⟩
      have KA := Lib.hid (Blk.thru0 HKA.out hb)
      have KB := Lib.hid (Blk.thru0 HKB.out hb)
      have HB3 := Lib.hid (HB2.out.trans (hb.mono HB2.out.size))
      clear hb HKA HKB HRR a0 b0 a1 b1 a2 b2 a3 b3 HXB2 HYB2
      have a4 := KA.out.cell 4
      have a5 := KA.out.cell 5
      have a6 := KA.out.cell 6
      have a7 := KA.out.cell 7
      have a8 := KA.out.cell 8
      simp only [List.getElem?_toArray, List.getElem?_cons_zero, List.getElem?_cons_succ] at a4 a5 a6 a7 a8
      have b4 := KB.out.cell 4
      have b5 := KB.out.cell 5
      have b6 := KB.out.cell 6
      have b7 := KB.out.cell 7
      have b8 := KB.out.cell 8
      simp only [List.getElem?_toArray, List.getElem?_cons_zero, List.getElem?_cons_succ] at b4 b5 b6 b7 b8
      go_wp2_with fail
      refine (HS1.out _).mono ?_
      rintro e W4 ⟨rfl, hb⟩
      have HKA := Lib.hid (Blk.thru0 KA.out hb)
      have HKB := Lib.hid (Blk.thru0 KB.out hb)
      have HB4 := Lib.hid (HB3.out.trans (hb.mono HB3.out.size))
      clear hb KA KB a4 b4 a5 b5 a6 b6 a7 b7 a8 b8
      have a9 := HKA.out.cell 9
      have a10 := HKA.out.cell 10
      have a11 := HKA.out.cell 11
      have a12 := HKA.out.cell 12
      have a13 := HKA.out.cell 13
      have a14 := HKA.out.cell 14
      have a15 := HKA.out.cell 15
      simp only [List.getElem?_toArray, List.getElem?_cons_zero, List.getElem?_cons_succ] at a9 a10 a11 a12 a13 a14 a15
      have b9 := HKB.out.cell 9
      have b10 := HKB.out.cell 10
      have b11 := HKB.out.cell 11
      have b12 := HKB.out.cell 12
      have b13 := HKB.out.cell 13
      have b14 := HKB.out.cell 14
      have b15 := HKB.out.cell 15
      simp only [List.getElem?_toArray, List.getElem?_cons_zero, List.getElem?_cons_succ] at b9 b10 b11 b12 b13 b14 b15
      go_wp2_with fail
      refine (HS2.out _).mono ?_
      rintro e W5 ⟨rfl, hb⟩
      have KA := Lib.hid (Blk.thru0 HKA.out hb)
      have KB := Lib.hid (Blk.thru0 HKB.out hb)
      have HB5 := Lib.hid (HB4.out.trans (hb.mono HB4.out.size))
      clear hb HKA HKB a9 b9 a10 b10 a11 b11 a12 b12 a13 b13 a14 b14 a15 b15
      have a16 := KA.out.cell 16
      have a17 := KA.out.cell 17
      have a18 := KA.out.cell 18
      have a19 := KA.out.cell 19
      have a20 := KA.out.cell 20
      simp only [List.getElem?_toArray, List.getElem?_cons_zero, List.getElem?_cons_succ] at a16 a17 a18 a19 a20
      have b16 := KB.out.cell 16
      have b17 := KB.out.cell 17
      have b18 := KB.out.cell 18
      have b19 := KB.out.cell 19
      have b20 := KB.out.cell 20
      simp only [List.getElem?_toArray, List.getElem?_cons_zero, List.getElem?_cons_succ] at b16 b17 b18 b19 b20
      go_wp2_with fail
      refine (HS3.out _).mono ?_
      rintro e W6 ⟨rfl, hb⟩
      have HKA := Lib.hid (Blk.thru0 KA.out hb)
      have HKB := Lib.hid (Blk.thru0 KB.out hb)
      have HB6 := Lib.hid (HB5.out.trans (hb.mono HB5.out.size))
      clear hb KA KB a16 b16 a17 b17 a18 b18 a19 b19 a20 b20
      have a21 := HKA.out.cell 21
      have a22 := HKA.out.cell 22
      have a23 := HKA.out.cell 23
      simp only [List.getElem?_toArray, List.getElem?_cons_zero, List.getElem?_cons_succ] at a21 a22 a23
      have b21 := HKB.out.cell 21
      have b22 := HKB.out.cell 22
      have b23 := HKB.out.cell 23
      simp only [List.getElem?_toArray, List.getElem?_cons_zero, List.getElem?_cons_succ] at b21 b22 b23
      cases at0 with
      | false =>
        go_wp2_with fail
        go_roundw
        case rel => exact ⟨k + 1, by omega, by go_num, HB6⟩
        case measure => simp [intOf]; omega
      | true =>
        obtain rfl := HPP.out rfl
        clear HPP
        go_wp2_with fail
        go_roundw
        case rel => exact ⟨k + 1, by omega, by go_num, HB6⟩
        case measure => simp [intOf]; omega
    · obtain rfl : k = acc1.length := by omega
      go_wp2_with fail
      go_ret
      exact ⟨rfl, HB.out⟩
end
section
set_option linter.unusedVariables false
set_option linter.unusedSimpArgs false
open Go.RowKit
theorem skp_snoc : ∀ (l : Bs) (b : Bool) (p : Pl) (r : Bs), skp b (l ++ 10 :: r) p = if (skp b l p).1 = [] then skp false r (adv (skp b l p).2 10) else ((skp b l p).1 ++ 10 :: r, (skp b l p).2) := by
  intro l
  induction l with
  | nil =>
    intro b p r
    rw [List.nil_append]
    have h : (b || isBl 10 || (10 : UInt8).toNat == 35) = true := by
      have : isBl 10 = true := by decide
      simp [this]
    have h2 : ((b || (10 : UInt8).toNat == 35) && !((10 : UInt8).toNat == 10)) = false := by simp
    have e : skp b (10 :: r) p = skp false r (adv p 10) := by rw [skp, if_pos h, h2]
    rw [e]
    simp [skp]
  | cons c l ih =>
    intro b p r
    rw [List.cons_append, skp]
    by_cases h : (b || isBl c || c.toNat == 35) = true
    · rw [if_pos h, ih, skp, if_pos h]
    · rw [if_neg h, skp, if_neg h]
      simp
theorem take_snoc {f : UInt8 → Bool} (hf : f 10 = false) (l r : Bs) : (l ++ 10 :: r).takeWhile f = l.takeWhile f := by
  induction l with
  | nil => rw [List.nil_append, List.takeWhile_cons_of_neg (by simp [hf])]; rfl
  | cons c l ih =>
    rw [List.cons_append]
    by_cases h : f c = true
    · rw [List.takeWhile_cons_of_pos h, List.takeWhile_cons_of_pos h, ih]
    · rw [List.takeWhile_cons_of_neg h, List.takeWhile_cons_of_neg h]
theorem mkF_snoc {l : Bs} (r : Bs) (h : (mkF l).isSome = true) : mkF (l ++ 10 :: r) = mkF l := by
  cases l with
  | nil => exact absurd h (by decide)
  | cons c t =>
    rw [List.cons_append, mk_eval, mk_eval]
    rw [mk_eval] at h
    cases t with
    | nil =>
      split
      · rfl
      · split
        · rfl
        · split
          · rfl
          · rename_i h1 h2 h3
            rw [if_neg h1, if_neg h2, if_neg h3] at h
            simp at h
    | cons d t => simp
theorem lex_snoc {l : Bs} (r : Bs) (hl : l ≠ []) (he : tkE l = 0) : tkE (l ++ 10 :: r) = 0 ∧ tkA (l ++ 10 :: r) = tkA l ∧ tkK (l ++ 10 :: r) = tkK l ∧ tkT (l ++ 10 :: r) = tkT l ∧ tkN (l ++ 10 :: r) = tkN l := by
  have hon : ∀ f : UInt8 → Bool, on f (l ++ 10 :: r) = on f l := fun f => by
    cases l with
    | nil => exact absurd rfl hl
    | cons c t => rfl
  have hn : ofNm 10 = false := by decide
  have hd : isDg 10 = false := by decide
  by_cases h1 : on isLet l = true
  · have h2 : on isLet (l ++ 10 :: r) = true := by rw [hon]; exact h1
    have hA : tkA (l ++ 10 :: r) = tkA l := by rw [tkA, if_pos h2, tkA, if_pos h1, take_snoc hn]
    refine ⟨?_, hA, ?_, ?_, ?_⟩
    · rw [tkE, if_pos h2, hA]; rw [tkE, if_pos h1] at he; exact he
    · rw [tkK, if_pos h2, hA, tkK, if_pos h1]
    · rw [tkT, if_pos h2, hA, tkT, if_pos h1]
    · rw [tkN, if_pos h2, tkN, if_pos h1]
  · have h2 : ¬ on isLet (l ++ 10 :: r) = true := by rw [hon]; exact h1
    by_cases h1d : on isDg l = true
    · have h2d : on isDg (l ++ 10 :: r) = true := by rw [hon]; exact h1d
      have hA : tkA (l ++ 10 :: r) = tkA l := by rw [tkA, if_neg h2, if_pos h2d, tkA, if_neg h1, if_pos h1d, take_snoc hd]
      refine ⟨?_, hA, ?_, ?_, ?_⟩
      · rw [tkE, if_neg h2, if_pos h2d, hA]; rw [tkE, if_neg h1, if_pos h1d] at he; exact he
      · rw [tkK, if_neg h2, if_pos h2d, hA, tkK, if_neg h1, if_pos h1d]
      · rw [tkT, if_neg h2, if_pos h2d, hA, tkT, if_neg h1, if_pos h1d]
      · rw [tkN, if_neg h2, if_pos h2d, hA, tkN, if_neg h1, if_pos h1d]
    · have h2d : ¬ on isDg (l ++ 10 :: r) = true := by rw [hon]; exact h1d
      have eE : mkE l = 0 := by rw [tkE, if_neg h1, if_neg h1d] at he; exact he
      have hs : (mkF l).isSome = true := by
        unfold mkE at eE
        split at eE
        · assumption
        · cases eE
      have hF := mkF_snoc r hs
      have hX : mkTx (l ++ 10 :: r) = mkTx l := by rw [mkTx, hF, mkTx]
      refine ⟨?_, ?_, ?_, ?_, ?_⟩
      · rw [tkE, if_neg h2, if_neg h2d, mkE, hF, if_pos hs]
      · rw [tkA, if_neg h2, if_neg h2d, tkA, if_neg h1, if_neg h1d, hX]
      · rw [tkK, if_neg h2, if_neg h2d, tkK, if_neg h1, if_neg h1d, mkKd, hF, mkKd]
      · rw [tkT, if_neg h2, if_neg h2d, tkT, if_neg h1, if_neg h1d, hX]
      · rw [tkN, if_neg h2, if_neg h2d, tkN, if_neg h1, if_neg h1d]
abbrev tzs (n : Nat) (q : Bs × Pl) : List Tk × Fl := tz n q.1 q.2
theorem tz_snoc (r : Bs) : ∀ (N : Nat) (l : Bs) (p : Pl) (n m : Nat), l.length ≤ N → l.length < n → (l ++ 10 :: r).length < m → (tzs n (skp false l p)).2 = none →
    ∃ q, tzs m (skp false (l ++ 10 :: r) p) = app (tzs n (skp false l p)).1 (tzs m (skp false r q)) := by
  intro N
  induction N with
  | zero =>
    intro l p n m h1 h2 h3 h4
    obtain rfl : l = [] := List.eq_nil_of_length_eq_zero (by omega)
    refine ⟨adv p 10, ?_⟩
    rw [skp_snoc]
    simp only [skp, if_true, tzs, tz_nil]
    rw [app_nil _ (tz_shape _ _ _)]
  | succ N ih =>
    intro l p n m h1 h2 h3 h4
    rw [skp_snoc]
    have hsl := skp_len false l p
    by_cases hc : (skp false l p).1 = []
    · refine ⟨adv (skp false l p).2 10, ?_⟩
      rw [if_pos hc]
      have e : tzs n (skp false l p) = ([], none) := by unfold tzs; rw [hc, tz_nil]
      rw [e, app_nil _ (tz_shape _ _ _)]
    · rw [if_neg hc]
      unfold tzs at h4 ⊢
      generalize skp false l p = Q at *
      obtain ⟨l1, p1⟩ := Q
      simp only at *
      by_cases he : tkE l1 = 0
      · obtain ⟨n', rfl⟩ : ∃ n', n = n' + 1 := ⟨n - 1, by omega⟩
        obtain ⟨m', rfl⟩ : ∃ m', m = m' + 1 := ⟨m - 1, by omega⟩
        have hA := tkA_pos he hc
        obtain ⟨k1, k2, k3, k4, k5⟩ := lex_snoc r hc he
        have hne : l1 ++ 10 :: r ≠ [] := by simp
        rw [tz_ok hc he] at h4 ⊢
        rw [tz_ok hne k1, k2, k3, k4, k5]
        have hdrop : (l1 ++ 10 :: r).drop (tkA l1).length = l1.drop (tkA l1).length ++ 10 :: r := by
          rw [List.drop_append_of_le_length hA.2]
        rw [hdrop]
        have hlen := List.length_drop (i := (tkA l1).length) (l := l1)
        simp only [List.length_append, List.length_cons] at h3
        have h4' : (tzs n' (skp false (l1.drop (tkA l1).length) (advs p1 (tkA l1)))).2 = none := by
          unfold tzs
          cases hx : (tz n' (skp false (l1.drop (tkA l1).length) (advs p1 (tkA l1))).1 (skp false (l1.drop (tkA l1).length) (advs p1 (tkA l1))).2).2 with
          | none => rfl
          | some f => rw [app, hx] at h4; cases h4
        obtain ⟨q, hq⟩ := ih (l1.drop (tkA l1).length) (advs p1 (tkA l1)) n' m' (by omega) (by omega) (by simp only [List.length_append, List.length_cons]; omega) h4'
        refine ⟨q, ?_⟩
        unfold tzs at hq h4'
        rw [hq, app_app]
        have e1 : (app [⟨tkK l1, tkT l1, tkN l1, p1⟩] (tz n' (skp false (l1.drop (tkA l1).length) (advs p1 (tkA l1))).1 (skp false (l1.drop (tkA l1).length) (advs p1 (tkA l1))).2)).1 = [⟨tkK l1, tkT l1, tkN l1, p1⟩] ++ (tz n' (skp false (l1.drop (tkA l1).length) (advs p1 (tkA l1))).1 (skp false (l1.drop (tkA l1).length) (advs p1 (tkA l1))).2).1 := by
          rw [app, h4']
        rw [e1]
        have hrl := skp_len false r q
        rw [tz_more m' (m' + 1) _ _ (by omega) (by omega)]
      · rw [tz_err hc (by omega) he] at h4
        cases h4
theorem tz_place (n : Nat) : ∀ (l : Bs) (p q : Pl), (tz n l p).2.isNone = (tz n l q).2.isNone ∧ (tz n l p).1.map ktn = (tz n l q).1.map ktn := by
  induction n with
  | zero => intro l p q; exact ⟨rfl, rfl⟩
  | succ n ih =>
    intro l p q
    by_cases hl : l = []
    · subst hl; rw [tz_nil, tz_nil]; exact ⟨rfl, rfl⟩
    · by_cases he : tkE l = 0
      · rw [tz_ok hl he, tz_ok hl he]
        have h1 := skp_place false (l.drop (tkA l).length) (advs p (tkA l)) (advs q (tkA l))
        obtain ⟨i1, i2⟩ := ih (skp false (l.drop (tkA l).length) (advs p (tkA l))).1 (skp false (l.drop (tkA l).length) (advs p (tkA l))).2 (skp false (l.drop (tkA l).length) (advs q (tkA l))).2
        rw [h1] at i1 i2 ⊢
        generalize tz n (skp false (l.drop (tkA l).length) (advs q (tkA l))).1 (skp false (l.drop (tkA l).length) (advs p (tkA l))).2 = X at *
        generalize tz n (skp false (l.drop (tkA l).length) (advs q (tkA l))).1 (skp false (l.drop (tkA l).length) (advs q (tkA l))).2 = Y at *
        obtain ⟨X1, X2⟩ := X
        obtain ⟨Y1, Y2⟩ := Y
        cases X2 <;> cases Y2 <;> simp [app] at i1 i2 ⊢
        exact ⟨rfl, i2⟩
      · rw [tz_err hl (by omega) he, tz_err hl (by omega) he]; exact ⟨rfl, rfl⟩
/-- Two texts' tokens. -/
theorem toks_join (s t : Bs) (h1 : (toks s).2 = none) (h2 : (toks t).2 = none) (hl : (s ++ 10 :: t).length ≤ 512) :
    (toks (s ++ 10 :: t)).2 = none ∧ ∃ B, (toks (s ++ 10 :: t)).1 = (toks s).1 ++ B ∧ B.map ktn = (toks t).1.map ktn := by
  have hl' := hl
  simp only [List.length_append, List.length_cons] at hl'
  have e1 : toks s = tzs (s.length + 1) (skp false s (1, 1)) := by rw [toks, if_neg (by omega)]
  have e2 : toks t = tzs (t.length + 1) (skp false t (1, 1)) := by rw [toks, if_neg (by omega)]
  have e3 : toks (s ++ 10 :: t) = tzs ((s ++ 10 :: t).length + 1) (skp false (s ++ 10 :: t) (1, 1)) := by rw [toks, if_neg (by omega)]
  rw [e1] at h1
  obtain ⟨q, hq⟩ := tz_snoc t s.length s (1, 1) (s.length + 1) ((s ++ 10 :: t).length + 1) (Nat.le_refl _) (by omega) (by omega) h1
  rw [e3, hq, e1]
  rw [e2] at h2
  obtain ⟨i1, i2⟩ := tz_place (t.length + 1) (skp false t (1, 1)).1 (skp false t (1, 1)).2 (skp false t q).2
  have hp := skp_place false t (1, 1) q
  have hsk := skp_len false t q
  have hm : tzs ((s ++ 10 :: t).length + 1) (skp false t q) = tz (t.length + 1) (skp false t (1, 1)).1 (skp false t q).2 := by
    unfold tzs
    rw [hp]
    exact tz_more _ _ _ _ (by simp only [List.length_append, List.length_cons]; omega) (by omega)
  rw [hm]
  have h2' : (tz (t.length + 1) (skp false t (1, 1)).1 (skp false t (1, 1)).2).2 = none := h2
  rw [h2'] at i1
  have hn : (tz (t.length + 1) (skp false t (1, 1)).1 (skp false t q).2).2 = none := by
    cases hx : (tz (t.length + 1) (skp false t (1, 1)).1 (skp false t q).2).2 with
    | none => rfl
    | some f => rw [hx] at i1; simp at i1
  refine ⟨by rw [app, hn], _, by rw [app, hn], ?_⟩
  rw [e2]
  exact i2.symm
end
section
set_option linter.unusedVariables false
set_option linter.unusedSimpArgs false
open Go.RowKit
def TkS (at0 : Bool) (x y : Tk) : Prop := x.k = y.k ∧ x.t = y.t ∧ x.n = y.n ∧ (at0 = true → x.p = y.p)
def LS (at0 : Bool) : List Tk → List Tk → Prop
  | [], [] => True
  | x :: L, y :: M => TkS at0 x y ∧ LS at0 L M
  | _, _ => False
theorem LS.cons {at0 : Bool} {x : Tk} {L M : List Tk} (h : LS at0 (x :: L) M) : ∃ y M', M = y :: M' ∧ TkS at0 x y ∧ LS at0 L M' := by
  cases M with
  | nil => exact h.elim
  | cons y M' => exact ⟨y, M', rfl, h.1, h.2⟩
theorem LS.nil {at0 : Bool} {M : List Tk} (h : LS at0 [] M) : M = [] := by
  cases M with
  | nil => rfl
  | cons y M' => exact h.elim
theorem LS.refl (at0 : Bool) : ∀ L : List Tk, LS at0 L L
  | [] => trivial
  | x :: L => ⟨⟨rfl, rfl, rfl, fun _ => rfl⟩, LS.refl at0 L⟩
theorem LS.of_map : ∀ {L M : List Tk}, L.map ktn = M.map ktn → LS false L M
  | [], [], _ => trivial
  | [], y :: M, h => by simp at h
  | x :: L, [], h => by simp at h
  | x :: L, y :: M, h => by
    simp only [List.map_cons, List.cons.injEq, ktn, Prod.mk.injEq] at h
    exact ⟨⟨h.1.1, h.1.2.1, h.1.2.2, fun h => by cases h⟩, LS.of_map h.2⟩
theorem SameW.refl (at0 : Bool) (a : Wh) : SameW at0 a a := ⟨rfl, rfl, rfl, fun _ => rfl⟩
theorem SameW.symm {at0 : Bool} {a b : Wh} (h : SameW at0 a b) : SameW at0 b a := ⟨h.1.symm, h.2.1.symm, h.2.2.1.symm, fun e => (h.2.2.2 e).symm⟩
theorem SameD.symm {at0 : Bool} {a b : Dc} (h : SameD at0 a b) : SameD at0 b a := by
  obtain ⟨h1, h2, h3, h4, h5, h6, h7, h8, h9, h10, h11⟩ := h
  exact ⟨h1.symm, h2.symm, h3.symm, h4.symm, h5.symm, h6.symm, h7.symm, h8.symm, h9.symm, h10.symm, fun e => (h11 e).symm⟩
structure Res (at0 : Bool) (f : PM) (L : List Tk) (d : Dc) (M : List Tk) (e : Dc) (B : List Tk) : Prop where
  ok : (f (M ++ B, e)).1 = true
  rest : ∃ R, (f (M ++ B, e)).2.1 = R ++ B ∧ LS at0 (f (L, d)).2.1 R
  dc : SameD at0 (f (L, d)).2.2 (f (M ++ B, e)).2.2
def GoodM (at0 : Bool) (f : PM) : Prop := ∀ L M d e B, LS at0 L M → SameD at0 d e → (f (L, d)).1 = true → (f (L, d)).2.1 ≠ [] → Res at0 f L d M e B
def StrongM (at0 : Bool) (f : PM) : Prop := ∀ L M d e B, LS at0 L M → SameD at0 d e → (f (L, d)).1 = true → Res at0 f L d M e B
def NilF (f : PM) : Prop := ∀ d, (f ([], d)).1 = false
theorem StrongM.good {at0 : Bool} {f : PM} (h : StrongM at0 f) : GoodM at0 f := fun L M d e B h1 h2 h3 _ => h L M d e B h1 h2 h3
theorem andM_nil {f g : PM} (h : NilF f) : NilF (andM f g) := fun d => by
  unfold andM
  rw [if_neg (by rw [h d]; decide)]
theorem andM_res {at0 : Bool} {f g : PM} {L M : List Tk} {d e : Dc} {B : List Tk} (hf : GoodM at0 f) (hn : NilF g) (hL : LS at0 L M) (hd : SameD at0 d e) (h : (andM f g (L, d)).1 = true)
    (hg : ∀ R d2, LS at0 (f (L, d)).2.1 R → SameD at0 (f (L, d)).2.2 d2 → (g (f (L, d)).2).1 = true → Res at0 g (f (L, d)).2.1 (f (L, d)).2.2 R d2 B) : Res at0 (andM f g) L d M e B := by
  by_cases h1 : (f (L, d)).1 = true
  · have eL : andM f g (L, d) = g (f (L, d)).2 := by unfold andM; rw [if_pos h1]
    rw [eL] at h
    have hne : (f (L, d)).2.1 ≠ [] := by
      intro e0
      have h2 := hn (f (L, d)).2.2
      have e3 : (f (L, d)).2 = ([], (f (L, d)).2.2) := Prod.ext e0 rfl
      rw [e3, h2] at h
      cases h
    obtain ⟨k1, ⟨R, k2, k3⟩, k4⟩ := hf L M d e B hL hd h1 hne
    obtain ⟨g1, ⟨R2, g2, g3⟩, g4⟩ := hg R _ k3 k4 h
    have eM : andM f g (M ++ B, e) = g (R ++ B, (f (M ++ B, e)).2.2) := by
      unfold andM
      rw [if_pos k1]
      exact congrArg g (Prod.ext k2 rfl)
    exact ⟨by rw [eM]; exact g1, ⟨R2, by rw [eM]; exact g2, by rw [eL]; exact g3⟩, by rw [eM, eL]; exact g4⟩
  · unfold andM at h
    rw [if_neg h1] at h
    cases h
theorem andM_strong {at0 : Bool} {f g : PM} (hf : GoodM at0 f) (hg : StrongM at0 g) (hn : NilF g) : StrongM at0 (andM f g) :=
  fun L M d e B hL hd h => andM_res hf hn hL hd h fun R d2 k3 k4 hk => hg _ _ _ _ B k3 k4 hk
theorem andM_good {at0 : Bool} {f g : PM} (hf : GoodM at0 f) (hg : GoodM at0 g) (hn : NilF g) : GoodM at0 (andM f g) :=
  fun L M d e B hL hd h hne => andM_res hf hn hL hd h fun R d2 k3 k4 hk => hg _ _ _ _ B k3 k4 hk (by
    intro e0
    apply hne
    have h1 : (f (L, d)).1 = true := by
      by_cases h1 : (f (L, d)).1 = true
      · exact h1
      · unfold andM at h; rw [if_neg h1] at h; cases h
    unfold andM
    rw [if_pos h1]
    exact e0)
theorem takesM_nil (s : Bs) : NilF (takesM s) := fun _ => rfl
theorem takesM_strong (at0 : Bool) (s : Bs) : StrongM at0 (takesM s) := by
  intro L M d e B hL hd h
  cases L with
  | nil => cases h
  | cons x L =>
    obtain ⟨y, M', rfl, hxy, hM⟩ := hL.cons
    have hx : x.t = s := of_decide_eq_true h
    have hy : y.t = s := hxy.2.1 ▸ hx
    exact ⟨decide_eq_true hy, ⟨M', by simp [takesM, takesL, takesB, hy], by simpa [takesM, takesL, takesB, hx] using hM⟩, hd⟩
theorem afterM_nil (s : Bs) (g : PM) : NilF (afterM s g) := andM_nil (takesM_nil s)
theorem afterM_strong {at0 : Bool} (s : Bs) {g : PM} (hg : StrongM at0 g) (hn : NilF g) : StrongM at0 (afterM s g) := andM_strong (takesM_strong at0 s).good hg hn
theorem afterM_good {at0 : Bool} (s : Bs) {g : PM} (hg : GoodM at0 g) (hn : NilF g) : GoodM at0 (afterM s g) := andM_good (takesM_strong at0 s).good hg hn
theorem nameM_nil (set : Bs → Dc → Dc) : NilF (nameM set) := fun _ => rfl
theorem nameM_strong (at0 : Bool) (set : Bs → Dc → Dc) (hs : ∀ s d e, SameD at0 d e → SameD at0 (set s d) (set s e)) : StrongM at0 (nameM set) := by
  intro L M d e B hL hd h
  cases L with
  | nil => cases h
  | cons x L =>
    obtain ⟨y, M', rfl, hxy, hM⟩ := hL.cons
    have hx : x.k = 1 := of_decide_eq_true h
    have hy : y.k = 1 := hxy.1 ▸ hx
    refine ⟨decide_eq_true hy, ⟨M', by simp [nameM, kindL, kindB, hy], by simpa [nameM, kindL, kindB, hx] using hM⟩, ?_⟩
    have := hs x.t d e hd
    simpa [nameM, kindT, hx, hy, hxy.2.1] using this
theorem numM_nil (set : Int → Dc → Dc) : NilF (numM set) := fun _ => rfl
theorem numM_strong (at0 : Bool) (set : Int → Dc → Dc) (hs : ∀ s d e, SameD at0 d e → SameD at0 (set s d) (set s e)) : StrongM at0 (numM set) := by
  intro L M d e B hL hd h
  cases L with
  | nil => cases h
  | cons x L =>
    obtain ⟨y, M', rfl, hxy, hM⟩ := hL.cons
    have hx : x.k = 3 := of_decide_eq_true h
    have hy : y.k = 3 := hxy.1 ▸ hx
    refine ⟨decide_eq_true hy, ⟨M', by simp [numM, kindL, kindB, hy], by simpa [numM, kindL, kindB, hx] using hM⟩, ?_⟩
    have := hs x.n d e hd
    simpa [numM, kindT, hx, hy, hxy.2.2.1] using this
theorem nmM_strong (at0 : Bool) : StrongM at0 nmM := nameM_strong at0 _ fun s d e h => ⟨h.1, rfl, h.2.2⟩
theorem valM_strong (at0 : Bool) : StrongM at0 valM := numM_strong at0 _ fun s d e h => ⟨h.1, h.2.1, rfl, h.2.2.2⟩
theorem zoomM_strong (at0 : Bool) : StrongM at0 zoomM := numM_strong at0 _ fun s d e h => by
  obtain ⟨h1, h2, h3, h4, h5, h6, h7, h8, h9, h10, h11⟩ := h
  exact ⟨h1, h2, h3, h4, h5, h6, h7, h8, h9, rfl, h11⟩
/-- A who, read of the first token alone. -/
theorem whoW_strong {at0 : Bool} {L M : List Tk} {a b : Wh} (B : List Tk) (hL : LS at0 L M) (hw : SameW at0 a b) (h : (whoW L a).1 = true) :
    (whoW (M ++ B) b).1 = true ∧ (∃ R, (whoW (M ++ B) b).2.1 = R ++ B ∧ LS at0 (whoW L a).2.1 R) ∧ SameW at0 (whoW L a).2.2 (whoW (M ++ B) b).2.2 := by
  cases L with
  | nil => simp [whoW, takesB, kindB] at h
  | cons x L =>
    obtain ⟨y, M', rfl, ⟨k1, k2, k3, k4⟩, hM⟩ := hL.cons
    obtain ⟨w1, w2, w3, w4⟩ := hw
    simp only [List.cons_append]
    simp only [whoW, takesB, kindB, kindL, kindT, pPlace, List.tail_cons, decide_eq_true_eq] at h ⊢
    rw [← k1, ← k2]
    by_cases h1 : x.t = wAny
    · simp only [h1, if_true] at h ⊢
      exact ⟨trivial, ⟨M', rfl, hM⟩, rfl, w2, w3, k4⟩
    · simp only [if_neg h1] at h ⊢
      by_cases h2 : x.k = 1
      · simp only [h2, if_true] at h ⊢
        exact ⟨trivial, ⟨M', rfl, hM⟩, rfl, k2, w3, k4⟩
      · simp only [if_neg h2] at h ⊢
        have h3 : x.k = 3 := by simpa using h
        simp only [h3, if_true, decide_true]
        exact ⟨trivial, ⟨M', rfl, hM⟩, rfl, rfl, k3, k4⟩
theorem whereW_strong {at0 : Bool} {L M : List Tk} {a b : Wh} (B : List Tk) (hL : LS at0 L M) (hw : SameW at0 a b) (h : (whereW L a).1 = true) :
    (whereW (M ++ B) b).1 = true ∧ (∃ R, (whereW (M ++ B) b).2.1 = R ++ B ∧ LS at0 (whereW L a).2.1 R) ∧ SameW at0 (whereW L a).2.2 (whereW (M ++ B) b).2.2 := by
  cases L with
  | nil => simp [whereW, takesB, kindB] at h
  | cons x L =>
    obtain ⟨y, M', rfl, ⟨k1, k2, k3, k4⟩, hM⟩ := hL.cons
    obtain ⟨w1, w2, w3, w4⟩ := hw
    simp only [List.cons_append]
    simp only [whereW, takesB, kindB, kindL, kindT, pPlace, List.tail_cons, decide_eq_true_eq] at h ⊢
    rw [← k1, ← k2]
    by_cases h1 : x.t = wAll
    · simp only [h1, if_true] at h ⊢
      exact ⟨trivial, ⟨M', rfl, hM⟩, rfl, w2, w3, k4⟩
    · simp only [if_neg h1] at h ⊢
      have h3 : x.k = 1 := by simpa using h
      simp only [h3, if_true, decide_true]
      exact ⟨trivial, ⟨M', rfl, hM⟩, rfl, k2, w3, k4⟩
theorem roleM_nil : NilF roleM := fun d => by simp [roleM, whoW, takesB, kindB]
theorem labelM_nil : NilF labelM := fun d => by simp [labelM, whoW, takesB, kindB]
theorem whereM_nil : NilF whereM := fun d => by simp [whereM, whereW, takesB, kindB]
theorem roleM_strong (at0 : Bool) : StrongM at0 roleM := by
  intro L M d e B hL hd h
  obtain ⟨h1, h2, h3, h4, h5, h6, h7, h8, h9, h10, h11⟩ := hd
  obtain ⟨r1, r2, r3⟩ := whoW_strong B hL h5 h
  exact ⟨r1, r2, h1, h2, h3, h4, r3, h6, h7, h8, h9, h10, h11⟩
theorem labelM_strong (at0 : Bool) : StrongM at0 labelM := by
  intro L M d e B hL hd h
  obtain ⟨h1, h2, h3, h4, h5, h6, h7, h8, h9, h10, h11⟩ := hd
  obtain ⟨r1, r2, r3⟩ := whoW_strong B hL h8 h
  exact ⟨r1, r2, h1, h2, h3, h4, h5, h6, h7, r3, h9, h10, h11⟩
theorem whereM_strong (at0 : Bool) : StrongM at0 whereM := by
  intro L M d e B hL hd h
  obtain ⟨h1, h2, h3, h4, h5, h6, h7, h8, h9, h10, h11⟩ := hd
  obtain ⟨r1, r2, r3⟩ := whereW_strong B hL h9 h
  exact ⟨r1, r2, h1, h2, h3, h4, h5, h6, h7, h8, r3, h10, h11⟩
theorem tiersM_nil : NilF tiersM := fun d => by simp [tiersM, takesB, kindB]
theorem tiersM_good (at0 : Bool) : GoodM at0 tiersM := by
  intro L M d e B hL hd h hne
  obtain ⟨h1, h2, h3, h4, h5, h6, h7, h8, h9, h10, h11⟩ := hd
  cases L with
  | nil => simp [tiersM, takesB, kindB] at h
  | cons x L =>
    obtain ⟨y, M', rfl, ⟨k1, k2, k3, k4⟩, hM⟩ := hL.cons
    by_cases t1 : x.t = wAny
    · have t2 : y.t = wAny := k2 ▸ t1
      have eL : tiersM (x :: L, d) = (true, (L, { d with hi := 7 })) := by simp [tiersM, takesB, t1]
      have eM : tiersM (y :: M' ++ B, e) = (true, (M' ++ B, { e with hi := 7 })) := by simp [tiersM, takesB, t2]
      exact ⟨by rw [eM], ⟨M', by rw [eM], by rw [eL]; exact hM⟩, by rw [eL, eM]; exact ⟨h1, h2, h3, h4, h5, h6, rfl, h8, h9, h10, h11⟩⟩
    · have t2 : ¬ y.t = wAny := k2 ▸ t1
      have n1 : x.k = 3 := by
        by_cases n1 : x.k = 3
        · exact n1
        · simp [tiersM, takesB, kindB, t1, n1] at h
      have n2 : y.k = 3 := k1 ▸ n1
      cases L with
      | nil =>
        exfalso
        apply hne
        simp [tiersM, takesB, kindB, t1, n1]
      | cons z L =>
        obtain ⟨u, M', rfl, ⟨j1, j2, j3, j4⟩, hM⟩ := hM.cons
        by_cases u1 : z.t = mUp
        · have u2 : u.t = mUp := j2 ▸ u1
          cases L with
          | nil => simp [tiersM, takesB, kindB, t1, n1, u1] at h
          | cons v L =>
            obtain ⟨v', M', rfl, ⟨i1, i2, i3, i4⟩, hM⟩ := hM.cons
            have m1 : v.k = 3 := by
              by_cases m1 : v.k = 3
              · exact m1
              · simp [tiersM, takesB, kindB, t1, n1, u1, m1] at h
            have m2 : v'.k = 3 := i1 ▸ m1
            have eL : tiersM (x :: z :: v :: L, d) = (true, (L, { d with lo := x.n, hi := v.n })) := by simp [tiersM, takesB, kindB, kindL, kindT, t1, n1, u1, m1]
            have eM : tiersM (y :: u :: v' :: M' ++ B, e) = (true, (M' ++ B, { e with lo := y.n, hi := v'.n })) := by simp [tiersM, takesB, kindB, kindL, kindT, t2, n2, u2, m2]
            exact ⟨by rw [eM], ⟨M', by rw [eM], by rw [eL]; exact hM⟩, by rw [eL, eM]; exact ⟨h1, h2, h3, h4, h5, k3, i3, h8, h9, h10, h11⟩⟩
        · have u2 : ¬ u.t = mUp := j2 ▸ u1
          have eL : tiersM (x :: z :: L, d) = (true, (z :: L, { d with lo := x.n, hi := x.n })) := by simp [tiersM, takesB, kindB, kindL, kindT, t1, n1, u1]
          have eM : tiersM (y :: u :: M' ++ B, e) = (true, (u :: M' ++ B, { e with lo := y.n, hi := y.n })) := by simp [tiersM, takesB, kindB, kindL, kindT, t2, n2, u2]
          exact ⟨by rw [eM], ⟨u :: M', by rw [eM], by rw [eL]; exact ⟨⟨j1, j2, j3, j4⟩, hM⟩⟩, by rw [eL, eM]; exact ⟨h1, h2, h3, h4, h5, k3, k3, h8, h9, h10, h11⟩⟩
theorem four_cons {L : List Tk} (h : fourB L = true) : ∃ a b c d L', L = a :: b :: c :: d :: L' ∧ a.k = 3 ∧ b.k = 3 ∧ c.k = 3 ∧ d.k = 3 := by
  unfold fourB at h
  match L, h with
  | [], h => simp [kindB] at h
  | [a], h => simp [kindB] at h
  | [a, b], h => simp [kindB] at h
  | [a, b, c], h => simp [kindB] at h
  | a :: b :: c :: d :: L', h =>
    simp [kindB] at h
    exact ⟨a, b, c, d, L', rfl, h.1, h.2.1, h.2.2.1, h.2.2.2⟩
theorem four_is {a b c d : Tk} (h1 : a.k = 3) (h2 : b.k = 3) (h3 : c.k = 3) (h4 : d.k = 3) (L : List Tk) : fourB (a :: b :: c :: d :: L) = true ∧ fourL (a :: b :: c :: d :: L) = L ∧ fourV (a :: b :: c :: d :: L) = ⟨a.n, b.n, c.n, d.n⟩ := by
  simp [fourB, fourL, fourV, kindB, kindL, kindT, h1, h2, h3, h4]
theorem boxesF_good (at0 : Bool) (B : List Tk) : ∀ (n m : Nat) (L M : List Tk) (a : List Bx), LS at0 L M → (M ++ B).length < m → (boxesF n L a).1 = true → (boxesF n L a).2.1 ≠ [] →
    (boxesF m (M ++ B) a).1 = true ∧ (∃ R, (boxesF m (M ++ B) a).2.1 = R ++ B ∧ LS at0 (boxesF n L a).2.1 R) ∧ (boxesF m (M ++ B) a).2.2 = (boxesF n L a).2.2 := by
  intro n
  induction n with
  | zero => intro m L M a _ _ h; simp [boxesF] at h
  | succ n ih =>
    intro m L M a hL hm h hne
    obtain ⟨m, rfl⟩ : ∃ k, m = k + 1 := ⟨m - 1, by omega⟩
    by_cases hF : fourB L = true
    · obtain ⟨x1, x2, x3, x4, L', rfl, q1, q2, q3, q4⟩ := four_cons hF
      obtain ⟨y1, M, rfl, s1, hL⟩ := hL.cons
      obtain ⟨y2, M, rfl, s2, hL⟩ := hL.cons
      obtain ⟨y3, M, rfl, s3, hL⟩ := hL.cons
      obtain ⟨y4, M, rfl, s4, hL⟩ := hL.cons
      obtain ⟨f1, f2, f3⟩ := four_is q1 q2 q3 q4 L'
      obtain ⟨g1, g2, g3⟩ := four_is (s1.1 ▸ q1) (s2.1 ▸ q2) (s3.1 ▸ q3) (s4.1 ▸ q4) (M ++ B)
      simp only [List.cons_append] at hm ⊢
      have ev : (⟨y1.n, y2.n, y3.n, y4.n⟩ : Bx) = ⟨x1.n, x2.n, x3.n, x4.n⟩ := by rw [s1.2.2.1, s2.2.2.1, s3.2.2.1, s4.2.2.1]
      have eL : boxesF (n + 1) (x1 :: x2 :: x3 :: x4 :: L') a = if takesB mAnd L' = true then boxesF n L'.tail (a ++ [⟨x1.n, x2.n, x3.n, x4.n⟩]) else (true, L', a ++ [⟨x1.n, x2.n, x3.n, x4.n⟩]) := by rw [boxesF, if_pos f1, f2, f3]
      have eM : boxesF (m + 1) (y1 :: y2 :: y3 :: y4 :: (M ++ B)) a = if takesB mAnd (M ++ B) = true then boxesF m (M ++ B).tail (a ++ [⟨x1.n, x2.n, x3.n, x4.n⟩]) else (true, M ++ B, a ++ [⟨x1.n, x2.n, x3.n, x4.n⟩]) := by rw [boxesF, if_pos g1, g2, g3, ev]
      rw [eL] at h hne ⊢
      rw [eM]
      cases L' with
      | nil =>
        exfalso
        apply hne
        simp [takesB]
      | cons z L' =>
        obtain ⟨u, M, rfl, s5, hL⟩ := hL.cons
        simp only [List.cons_append, takesB, List.tail_cons, decide_eq_true_eq] at h hne ⊢
        by_cases hz : z.t = mAnd
        · have hu : u.t = mAnd := s5.2.1 ▸ hz
          rw [if_pos hz] at h hne ⊢
          rw [if_pos hu]
          exact ih m L' M _ hL (by simp only [List.length_cons, List.length_append] at hm ⊢; omega) h hne
        · have hu : ¬ u.t = mAnd := s5.2.1 ▸ hz
          rw [if_neg hz, if_neg hu]
          exact ⟨rfl, ⟨u :: M, rfl, s5, hL⟩, rfl⟩
    · rw [boxesF, if_neg hF] at h
      cases h
theorem boxesM_nil : NilF boxesM := fun d => by simp [boxesM, boxesF, fourB, kindB]
theorem boxesM_good (at0 : Bool) : GoodM at0 boxesM := by
  intro L M d e B hL hd h hne
  obtain ⟨h1, h2, h3, h4, h5, h6, h7, h8, h9, h10, h11⟩ := hd
  obtain ⟨r1, r2, r3⟩ := boxesF_good at0 B (L.length + 1) ((M ++ B).length + 1) L M d.bx hL (by omega) h hne
  have e1 : boxesM (M ++ B, e) = ((boxesF ((M ++ B).length + 1) (M ++ B) d.bx).1, ((boxesF ((M ++ B).length + 1) (M ++ B) d.bx).2.1, { e with bx := (boxesF ((M ++ B).length + 1) (M ++ B) d.bx).2.2 })) := by
    unfold boxesM; rw [← h4]
  exact ⟨by rw [e1]; exact r1, by rw [e1]; exact r2, by rw [e1]; exact ⟨h1, h2, h3, r3.symm, h5, h6, h7, h8, h9, h10, h11⟩⟩
def bodyK (k : Int) : PM :=
  if k = 1 ∨ k = 2 then andM nmM (afterM mIs valM)
  else if k = 3 then andM nmM (afterM mIs boxesM)
  else if k = 4 ∨ k = 5 then andM (afterM wRole roleM) (andM (afterM wTier tiersM) (andM (afterM wLabel labelM) (andM (afterM wIn whereM) (afterM wZoom zoomM))))
  else if k = 6 then afterM wRole roleM
  else fun q => (false, q)
theorem bodyM_K (q : PS) : bodyM q = bodyK q.2.k q := by
  unfold bodyM bodyK
  split
  · rfl
  · split
    · rfl
    · split
      · rfl
      · split <;> rfl
theorem bodyK_nil (k : Int) : NilF (bodyK k) := by
  unfold bodyK
  split
  · exact andM_nil (nameM_nil _)
  · split
    · exact andM_nil (nameM_nil _)
    · split
      · exact andM_nil (afterM_nil _ _)
      · split
        · exact afterM_nil _ _
        · exact fun _ => rfl
theorem bodyK_good (at0 : Bool) (k : Int) : GoodM at0 (bodyK k) := by
  unfold bodyK
  split
  · exact andM_good (nmM_strong at0).good (afterM_strong _ (valM_strong at0) (numM_nil _)).good (afterM_nil _ _)
  · split
    · exact andM_good (nmM_strong at0).good (afterM_good _ (boxesM_good at0) boxesM_nil) (afterM_nil _ _)
    · split
      · exact andM_good (afterM_strong _ (roleM_strong at0) roleM_nil).good (andM_good (afterM_good _ (tiersM_good at0) tiersM_nil) (andM_good (afterM_strong _ (labelM_strong at0) labelM_nil).good (andM_good (afterM_strong _ (whereM_strong at0) whereM_nil).good (afterM_strong _ (zoomM_strong at0) (numM_nil _)).good (afterM_nil _ _)) (andM_nil (afterM_nil _ _))) (andM_nil (afterM_nil _ _))) (andM_nil (afterM_nil _ _))
      · split
        · exact (afterM_strong _ (roleM_strong at0) roleM_nil).good
        · intro L M d e B _ _ h; cases h
theorem bodyM_nil : NilF bodyM := fun d => by rw [bodyM_K]; exact bodyK_nil _ _
theorem bodyM_good (at0 : Bool) : GoodM at0 bodyM := by
  intro L M d e B hL hd h hne
  have hk := hd.1
  rw [bodyM_K] at h hne
  obtain ⟨k1, k2, k3⟩ := bodyK_good at0 d.k L M d e B hL hd h hne
  have e1 : bodyM (M ++ B, e) = bodyK d.k (M ++ B, e) := by rw [bodyM_K]; show bodyK e.k _ = _; rw [hk]
  have e2 : bodyM (L, d) = bodyK d.k (L, d) := bodyM_K _
  exact ⟨by rw [e1]; exact k1, by rw [e1, e2]; exact k2, by rw [e1, e2]; exact k3⟩
theorem headF_cons {x y : Tk} (h : x.t = y.t) (L M : List Tk) : headF (x :: L) = headF (y :: M) := by
  unfold headF
  simp only [takesB, h]
theorem headF_nil : headF [] = none := by decide
theorem headM_nil : NilF headM := fun d => by simp [headM, headF_nil]
theorem headM_strong (at0 : Bool) : StrongM at0 headM := by
  intro L M d e B hL hd h
  cases L with
  | nil => rw [headM_nil d] at h; cases h
  | cons x L =>
    obtain ⟨y, M', rfl, hxy, hM⟩ := hL.cons
    cases hF : headF (x :: L) with
    | none => simp [headM, hF] at h
    | some k =>
      have hG : headF (y :: (M' ++ B)) = some k := (headF_cons hxy.2.1 L (M' ++ B)).symm.trans hF
      have eL : headM (x :: L, d) = (true, (L, { d with k := (k : Int) })) := by simp [headM, hF]
      have eM : headM (y :: M' ++ B, e) = (true, (M' ++ B, { e with k := (k : Int) })) := by simp [headM, hG]
      exact ⟨by rw [eM], ⟨M', by rw [eM], by rw [eL]; exact hM⟩, by rw [eL, eM]; exact ⟨rfl, hd.2⟩⟩
theorem oneM_strong (at0 : Bool) : StrongM at0 oneM := andM_strong (headM_strong at0).good (andM_strong (bodyM_good at0) (takesM_strong at0 mEnd) (takesM_nil _)) (andM_nil bodyM_nil)
theorem oneM_lt {q : PS} (h : (oneM q).1 = true) : (oneM q).2.1.length < q.1.length := by
  have hh : (headM q).1 = true := by
    by_cases h1 : (headM q).1 = true
    · exact h1
    · unfold oneM at h; unfold andM at h; rw [if_neg h1] at h; cases h
  have h1 := headM_lt hh
  have h2 := andM_le bodyM_le (takesM_le mEnd) (headM q).2
  have e : oneM q = andM bodyM (takesM mEnd) (headM q).2 := by
    show andM headM (andM bodyM (takesM mEnd)) q = _
    rw [andM.eq_def headM]
    rw [if_pos hh]
  rw [e]
  omega
def DS (at0 : Bool) : List Dc → List Dc → Prop
  | [], [] => True
  | x :: L, y :: M => SameD at0 x y ∧ DS at0 L M
  | _, _ => False
theorem DS.get {at0 : Bool} : ∀ {L M : List Dc} (i : Nat) {x y : Dc}, DS at0 L M → L[i]? = some x → M[i]? = some y → SameD at0 x y
  | [], _, i, x, y, _, h, _ => by simp at h
  | x' :: L, [], i, x, y, h, _, _ => h.elim
  | x' :: L, y' :: M, 0, x, y, h, h1, h2 => by simp at h1 h2; subst h1; subst h2; exact h.1
  | x' :: L, y' :: M, i + 1, x, y, h, h1, h2 => DS.get i h.2 (by simpa using h1) (by simpa using h2)
theorem DS.len {at0 : Bool} : ∀ {L M : List Dc}, DS at0 L M → L.length = M.length
  | [], [], _ => rfl
  | [], _ :: _, h => h.elim
  | _ :: _, [], h => h.elim
  | x :: L, y :: M, h => by simp [DS.len h.2]
theorem DS.symm {at0 : Bool} : ∀ {L M : List Dc}, DS at0 L M → DS at0 M L
  | [], [], _ => trivial
  | [], _ :: _, h => h.elim
  | _ :: _, [], h => h.elim
  | x :: L, y :: M, h => ⟨h.1.symm, h.2.symm⟩
theorem allF_app (at0 : Bool) (B : List Tk) : ∀ (n m : Nat) (L M : List Tk) (a b : List Dc), LS at0 L M → (M ++ B).length < m → (allF n L a).1 = true →
    ∃ D D2 m', B.length < m' ∧ allF m (M ++ B) b = allF m' B (b ++ D2) ∧ (allF n L a).2.2 = a ++ D ∧ DS at0 D D2 := by
  intro n
  induction n with
  | zero => intro m L M a b _ _ h; simp [allF] at h
  | succ n ih =>
    intro m L M a b hL hm h
    cases L with
    | nil =>
      obtain rfl := hL.nil
      exact ⟨[], [], m, by simpa using hm, by simp, by simp [allF], trivial⟩
    | cons x L =>
      obtain ⟨y, M', rfl, hxy, hM⟩ := LS.cons (id hL)
      by_cases h1 : (oneM (x :: L, Dc.z x.p)).1 = true
      · obtain ⟨m, rfl⟩ : ∃ k, m = k + 1 := ⟨m - 1, by omega⟩
        rw [allF, if_pos h1] at h ⊢
        obtain ⟨k1, ⟨R, k2, k3⟩, k4⟩ := oneM_strong at0 (x :: L) (y :: M') (Dc.z x.p) (Dc.z y.p) B hL ⟨rfl, rfl, rfl, rfl, SameW.refl _ _, rfl, rfl, SameW.refl _ _, SameW.refl _ _, rfl, hxy.2.2.2⟩ h1
        have hlt := oneM_lt k1
        have e1 : allF (m + 1) (y :: M' ++ B) b = allF m (R ++ B) (b ++ [(oneM (y :: M' ++ B, Dc.z y.p)).2.2]) := by
          rw [List.cons_append] at k1 k2 ⊢
          rw [allF, if_pos k1, k2]
        rw [k2] at hlt
        obtain ⟨D, D2, m', d1, d2, d3, d4⟩ := ih m _ R (a ++ [(oneM (x :: L, Dc.z x.p)).2.2]) (b ++ [(oneM (y :: M' ++ B, Dc.z y.p)).2.2]) k3 (by simp only at hlt; omega) h
        refine ⟨(oneM (x :: L, Dc.z x.p)).2.2 :: D, (oneM (y :: M' ++ B, Dc.z y.p)).2.2 :: D2, m', d1, ?_, ?_, k4, d4⟩
        · rw [e1, d2]; simp
        · rw [d3]; simp
      · rw [allF, if_neg h1] at h
        cases h
theorem parse_ok {l : Bs} (h : (parseP l).2 = none) : (toks l).2 = none ∧ (allP (toks l).1).1 = true ∧ (parseP l).1 = (allP (toks l).1).2.2 := by
  unfold parseP at h ⊢
  cases hT : (toks l).2 with
  | some f => rw [hT] at h; cases h
  | none =>
    rw [hT] at h
    simp only at h ⊢
    by_cases hA : (allP (toks l).1).1 = true
    · rw [if_pos hA]; exact ⟨trivial, hA, rfl⟩
    · rw [if_neg hA] at h; cases h
/-- Two texts with declarations, a line's end between. -/
theorem parse_join (s t : Bs) (h1 : (parseP s).2 = none) (h2 : (parseP t).2 = none) (hl : (s ++ 10 :: t).length ≤ 512) :
    ∃ D E, parseP (s ++ 10 :: t) = (D ++ E, none) ∧ DS true D (parseP s).1 ∧ DS false E (parseP t).1 := by
  obtain ⟨a1, a2, a3⟩ := parse_ok h1
  obtain ⟨b1, b2, b3⟩ := parse_ok h2
  obtain ⟨c1, B, c2, c3⟩ := toks_join s t a1 b1 hl
  obtain ⟨D, D2, m', d1, d2, d3, d4⟩ := allF_app true B ((toks s).1.length + 1) (((toks s).1 ++ B).length + 1) (toks s).1 (toks s).1 [] [] (LS.refl true _) (by omega) a2
  obtain ⟨E, E2, m2, e1, e2, e3, e4⟩ := allF_app false [] ((toks t).1.length + 1) m' (toks t).1 B [] ([] ++ D2) (LS.of_map c3.symm) (by simpa using d1) b2
  rw [List.append_nil] at e2
  have hN : allF m2 [] (([] ++ D2) ++ E2) = (true, [], ([] ++ D2) ++ E2) := by
    obtain ⟨k, rfl⟩ : ∃ k, m2 = k + 1 := ⟨m2 - 1, by simp at e1; omega⟩
    rfl
  have hall : allP (toks (s ++ 10 :: t)).1 = (true, [], ([] ++ D2) ++ E2) := by
    rw [c2]
    unfold allP
    rw [d2, e2, hN]
  refine ⟨D2, E2, ?_, ?_, ?_⟩
  · unfold parseP
    rw [c1]
    simp only
    rw [hall]
    simp
  · rw [a3]
    unfold allP
    rw [d3]
    simpa using d4.symm
  · rw [b3]
    unfold allP
    rw [e3]
    simpa using e4.symm
end
end Go.Proofs.YtileecbccmfpdaaGreatDoor
