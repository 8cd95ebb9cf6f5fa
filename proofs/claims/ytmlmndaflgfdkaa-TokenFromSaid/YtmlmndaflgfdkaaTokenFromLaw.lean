/- TokenFrom: (P16.1) any tickets are those of a table, or may not be; the tickets of a table are, and it is as the one that has them. Conditions: none. -/
import Derived.Test.YtmlmndaflgfdkaaToV
import Derived.Test.YtmlmndaflgfdkaaFrame
import Derived.Deep.RegionHeld3
import Derived.Deep.DeepCutAuto
namespace Go.Proofs.Ytmlmndaflgfdkaa.tokenFrom
set_option linter.unusedVariables false
set_option linter.unusedSimpArgs false
open Go.ChangeShapes Go.WideShapes Go.ChangeAt Go.RowKit
open Go.ChangeMaps (open_string shut_string)
set_option maxRecDepth 100000 in
set_option maxHeartbeats 16000000 in
theorem walkN (u : Value) (O : List Ot) (A : Option Addr) (n c : Nat) (T : List Tk) (p : Ot) (w : World) (h : ERd elO w u O) (hO : ∀ o ∈ O, o.I) (hk : ERd elT w (.slice A n c) T) (hs : SecOk T) (hTn : T.length = n) (hp : p.I) :
    Calls Try.prog 8 #[u, .slice A n c, p.V] w fun e w' => e = .returned (.bool true) ∧ Below w.heap.size w w' := by
  obtain ⟨A1, c1, rfl, hc1, hc2⟩ := h.shape
  obtain ⟨m, hm⟩ : ∃ m, m = O.length := ⟨_, rfl⟩
  rw [← hm] at h ⊢
  clear hc1 hc2 hm
  obtain ⟨W, hW⟩ : ∃ W, W = w.alloc (.cells #[.int .i64 p.kind, .int .u64 p.src, .int .u64 p.draw, .int .i64 p.g.ops, .int .i64 p.g.zoom, .int .i64 p.g.x0, .int .i64 p.g.y0, .int .i64 p.g.x1, .int .i64 p.g.y1, .bool p.g.void, .int .i64 p.g.til, .int .i64 p.now] 32) := ⟨_, rfl⟩
  have HBW := Lib.hid (show Below w.heap.size w W by rw [hW]; exact (Below.refl _ _).alloc (Nat.le_refl _) _)
  have HKP := Lib.hid (show Blk W w.heap.size 32 #[.int .i64 p.kind, .int .u64 p.src, .int .u64 p.draw, .int .i64 p.g.ops, .int .i64 p.g.zoom, .int .i64 p.g.x0, .int .i64 p.g.y0, .int .i64 p.g.x1, .int .i64 p.g.y1, .bool p.g.void, .int .i64 p.g.til, .int .i64 p.now] by rw [hW]; exact Blk.new _ _ _)
  have HLO := Lib.hid (h.below HBW.out)
  have HLK := Lib.hid (hk.below HBW.out)
  have hnm : n ≤ 9223372036854775807 := by obtain ⟨A9, c9, e9, h1, h2⟩ := hk.shape; unfold maxLen at h2; omega
  have HPI := Lib.hid hp
  have HFR := Lib.hid (from_any W (.slice A n c) T HLK.out hs)
  unfold FrP at HFR
  have HAL := Lib.hid (fun X (hX : Below W.heap.size W X) (h40 : n ≤ 40) => rall_any X (.slice A n c) T (HLK.out.below hX) (by omega) hs)
  have HPL := Lib.hid (fun X (hX : Below W.heap.size W X) => played_any X (.slice A1 m c1) O (HLO.out.below hX) hO)
  unfold PlP at HPL
  have hWs := hW.symm
  clear hW h hk
  go_enter Try.func8, Try.ntmps8
  go_wp2_with fail
  refine HFR.out.mono ?_
  clear hWs HFR
  rintro e w1 hF
  rcases hF with ⟨hok, y, v, rfl, hb1, hT1, hK1, hy, hv⟩ | ⟨hno, rfl, hb1⟩
  · have HBK := Lib.hid hb1
    clear hb1
    by_cases h40 : (40 : Int) < (n : Int)
    · go_wp2_with fail
      refine (tknown_any _).mono ?_
      rintro e w8 ⟨rfl, hb8⟩
      have HB8 := Lib.hid (below_trans HBK.out hb8)
      clear hb8
      go_wp2_with fail
      go_ret
      exact ⟨rfl, below_trans HBW.out HB8.out⟩
    · have h40' : n ≤ 40 := by omega
      go_wp2_with fail
      refine (HAL.out _ HBK.out h40').mono ?_
      rintro e w2 ⟨b, rfl, hiff, hb2⟩
      have HB2 := Lib.hid (below_trans HBK.out hb2)
      obtain rfl : b = true := hiff.2 ((allB_iff _).2 hok)
      have HT2 := Lib.hid (hT1.below hb2)
      have HY1 := Lib.hid hy
      have HV1 := Lib.hid hv
      have HK1 := Lib.hid hK1
      clear hb2 hiff hT1 hy hv hK1 hok
      go_wp2_with fail
      refine (tickets_any w2 y v T 0 HT2.out (by have := HK1.out.len; omega) HK1.out.so).mono ?_
      rintro e w3 ⟨v', v2, rfl, t3, ho3, hf3⟩
      have HB3 := Lib.hid (below_ts HB2.out t3 HY1.out HV1.out)
      rw [left0 HK1.out.wf] at ho3
      have HR3 := Lib.hid (ERd.of_own elT_ok ho3)
      clear t3 ho3 hf3
      go_wp2_with fail
      refine (rsameT_any w3 v2 (.slice A n c) T HR3.out (HLK.out.below HB3.out) (by have := HK1.out.len; omega)).mono ?_
      rintro e w4 ⟨rfl, q, hw4⟩
      have HB4 := Lib.hid (show Below W.heap.size W w4 by rw [hw4]; exact below_drawn HB3.out q)
      clear hw4
      go_wp2_with fail
      refine (HPL.out _ HB4.out).mono ?_
      rintro e w5 ⟨ya, va, La, rfl, hba, hTa, hKa, hya, hva⟩
      have HBA := Lib.hid (below_trans HB4.out hba)
      have HTA := Lib.hid hTa
      have HKA := Lib.hid hKa
      have HYA := Lib.hid (And.intro (Nat.le_trans HB4.out.size hya) (fun i hi => Nat.le_trans HB4.out.size (hva i hi)))
      clear hba hTa hKa hya hva
      go_wp2_with fail
      refine (tickets_any w5 ya va La 0 HTA.out (by have := HKA.out.len; omega) HKA.out.so).mono ?_
      rintro e w6 ⟨va2, u6, rfl, t6, ho6, hf6⟩
      have HBC := Lib.hid (below_ts HBA.out t6 HYA.out.1 HYA.out.2)
      rw [left0 HKA.out.wf] at t6 ho6
      have HT6 := Lib.hid t6
      have HR6 := Lib.hid (ERd.of_own elT_ok ho6)
      have HO6 := Lib.hid ho6
      have HF6 := Lib.hid hf6
      clear t6 ho6 hf6
      go_wp2_with fail
      refine (from_any w6 u6 La HR6.out HKA.out.so).mono ?_
      rintro e w7 hG
      rcases hG with ⟨_, yb, vb, rfl, hb7, hTb, _, hyb, hvb⟩ | ⟨hno7, _, _⟩
      rotate_left
      · exact absurd HKA.out.from_ hno7
      have HTW := Lib.hid (Two.mk' HKP.out HT6.out.tb HBC.out HYA.out.1 (fun i hi => by
        rcases HT6.out.far i hi with h1 | h1
        · exact HYA.out.2 i h1
        · have := HBA.out.size; omega) hTb hb7 hyb hvb)
      have HTWd := Lib.hid (HTW.out.below (below_d (Below.refl _ _)))
      have HD := Lib.hid (fun (X : World) (y : Nat) (v : Value) (h : TB X y v La) => derive_any X y p.src p.draw v La p.g p.now h (by have := HKA.out.len; omega) HKA.out.so HPI.out.draw HPI.out.src)
      unfold OpP at HD
      have HTO := Lib.hid (HKA.out.left p.now)
      have HTE := Lib.hid (HTO.out.derive p.src p.draw p.g HPI.out.src HPI.out.draw)
      generalize derE (leftC p.now La) p.src p.draw p.g = E at *
      generalize derL (leftC p.now La) p.src p.draw p.g = LE at *
      have HSC := Lib.hid (fun (w' : World) (hb : Blk w' w.heap.size 32 #[.int .i64 p.kind, .int .u64 p.src, .int .u64 p.draw, .int .i64 p.g.ops, .int .i64 p.g.zoom, .int .i64 p.g.x0, .int .i64 p.g.y0, .int .i64 p.g.x1, .int .i64 p.g.y1, .bool p.g.void, .int .i64 p.g.til, .int .i64 p.now]) => (show (w'.cell? ⟨w.heap.size, 1, none⟩ = some (.int .u64 p.src)) ∧ (w'.cell? ⟨w.heap.size, 2, none⟩ = some (.int .u64 p.draw)) ∧ (w'.cell? ⟨w.heap.size, 3, none⟩ = some (.int .i64 p.g.ops)) ∧ (w'.cell? ⟨w.heap.size, 4, none⟩ = some (.int .i64 p.g.zoom)) ∧ (w'.cell? ⟨w.heap.size, 5, none⟩ = some (.int .i64 p.g.x0)) ∧ (w'.cell? ⟨w.heap.size, 6, none⟩ = some (.int .i64 p.g.y0)) ∧ (w'.cell? ⟨w.heap.size, 7, none⟩ = some (.int .i64 p.g.x1)) ∧ (w'.cell? ⟨w.heap.size, 8, none⟩ = some (.int .i64 p.g.y1)) ∧ (w'.cell? ⟨w.heap.size, 9, none⟩ = some (.bool p.g.void)) ∧ (w'.cell? ⟨w.heap.size, 10, none⟩ = some (.int .i64 p.g.til)) ∧ (w'.cell? ⟨w.heap.size, 11, none⟩ = some (.int .i64 p.now)) from ⟨hb.cell 1, hb.cell 2, hb.cell 3, hb.cell 4, hb.cell 5, hb.cell 6, hb.cell 7, hb.cell 8, hb.cell 9, hb.cell 10, hb.cell 11⟩))
      have HS0 := Lib.hid (HSC.out _ HTW.out.bq)
      have HS1 := Lib.hid (HSC.out _ HTWd.out.bq)
      have HDA1 := Lib.hid (HD.out _ _ _ HTWd.out.a)
      have HDB1 := Lib.hid (HD.out _ _ _ HTWd.out.b)
      obtain ⟨z1, z2, z3, z4, z5, z6, z7, z8, z9, z10, z11⟩ := HS0.out
      clear hTb hb7 hyb hvb HT6 HR6 HO6 HF6
      go_wp2_with fail
      go_cut [12, 13] (fun s12 s13 wx => s12 = .int .i64 E ∧ s13 = .int .i64 E ∧ ∃ va3 vb3, Hid (Two W.heap.size w.heap.size 32 #[.int .i64 p.kind, .int .u64 p.src, .int .u64 p.draw, .int .i64 p.g.ops, .int .i64 p.g.zoom, .int .i64 p.g.x0, .int .i64 p.g.y0, .int .i64 p.g.x1, .int .i64 p.g.y1, .bool p.g.void, .int .i64 p.g.til, .int .i64 p.now] W ya va3 LE yb vb3 LE wx))
      case first =>
        go_region_held3 (fun w' => (w'.cell? ⟨w.heap.size, 1, none⟩ = some (.int .u64 p.src)) ∧ (w'.cell? ⟨w.heap.size, 2, none⟩ = some (.int .u64 p.draw)) ∧ (w'.cell? ⟨w.heap.size, 3, none⟩ = some (.int .i64 p.g.ops)) ∧ (w'.cell? ⟨w.heap.size, 4, none⟩ = some (.int .i64 p.g.zoom)) ∧ (w'.cell? ⟨w.heap.size, 5, none⟩ = some (.int .i64 p.g.x0)) ∧ (w'.cell? ⟨w.heap.size, 6, none⟩ = some (.int .i64 p.g.y0)) ∧ (w'.cell? ⟨w.heap.size, 7, none⟩ = some (.int .i64 p.g.x1)) ∧ (w'.cell? ⟨w.heap.size, 8, none⟩ = some (.int .i64 p.g.y1)) ∧ (w'.cell? ⟨w.heap.size, 9, none⟩ = some (.bool p.g.void)) ∧ (w'.cell? ⟨w.heap.size, 10, none⟩ = some (.int .i64 p.g.til)) ∧ (w'.cell? ⟨w.heap.size, 11, none⟩ = some (.int .i64 p.now))) (first | with_reducible exact HS0.out | with_reducible exact HS1.out | with_reducible exact HSz.out | with_reducible exact HSa.out | with_reducible exact HSb.out) (first | (go_at_call 15; (first | (with_reducible refine HDA1.out.mono ?_; rintro e wa ⟨va3, rfl, ta⟩; have hTa := HTWd.out.opA ta; have HTWa := Lib.hid hTa; have HSa := Lib.hid (HSC.out _ hTa.bq)) | (with_reducible refine HDB1.out.mono ?_; rintro e wb ⟨vb3, rfl, tb⟩; have hTb := HTWd.out.opB tb; have HTWb := Lib.hid hTb; have HSb := Lib.hid (HSC.out _ hTb.bq)) | (with_reducible refine (HD.out _ _ _ HTWb.out.a).mono ?_; rintro e wz ⟨va3, rfl, ta⟩; have hTz := HTWb.out.opA ta; have HTWz := Lib.hid hTz; have HSz := Lib.hid (HSC.out _ hTz.bq)) | (with_reducible refine (HD.out _ _ _ HTWa.out.b).mono ?_; rintro e wz ⟨vb3, rfl, tb⟩; have hTz := HTWa.out.opB tb; have HTWz := Lib.hid hTz; have HSz := Lib.hid (HSC.out _ hTz.bq)))))
        all_goals
          go_wp2
          go_meet
          exact ⟨rfl, rfl, _, _, HTWz⟩
      case rest =>
        rename World => w8
        obtain ⟨rfl, rfl, va3, vb3, HT3⟩ := hcut
        have HEE : Hid ((E == E) = true) := Lib.hid (by simp)
        have hEE := HEE.out
        have HT3d := Lib.hid (HT3.out.below (below_d (Below.refl _ _)))
        have HTOE : Hid (TOk LE) := HTE
        have HTK := Lib.hid (fun (X : World) (y : Nat) (v : Value) (h : TB X y v LE) => tickets_any X y v LE p.now h (by have := HTOE.out.len; omega) HTOE.out.so)
        unfold TicP at HTK
        have hml : (leftC p.now LE).length ≤ 1000000 := by have := (HTOE.out.left p.now).len; omega
        have HML := Lib.hid hml
        clear hml
        generalize leftC p.now LE = M at *
        have HTA1 := Lib.hid (HTK.out _ _ _ HT3d.out.a)
        have HTB1 := Lib.hid (HTK.out _ _ _ HT3d.out.b)
        have HNC := Lib.hid (fun (w' : World) (hb : Blk w' w.heap.size 32 #[.int .i64 p.kind, .int .u64 p.src, .int .u64 p.draw, .int .i64 p.g.ops, .int .i64 p.g.zoom, .int .i64 p.g.x0, .int .i64 p.g.y0, .int .i64 p.g.x1, .int .i64 p.g.y1, .bool p.g.void, .int .i64 p.g.til, .int .i64 p.now]) => (show w'.cell? ⟨w.heap.size, 11, none⟩ = some (.int .i64 p.now) from hb.cell 11))
        have HN0 := Lib.hid (HNC.out _ HT3.out.bq)
        have HN1 := Lib.hid (HNC.out _ HT3d.out.bq)
        have z11 := HN0.out
        have HYB : Hid (∀ i, w8.drew.heap.size ≤ i → i ≠ yb ∧ vb3.ownBlock ≠ some i) := Lib.hid (fun i hi0 => have hi : w8.heap.size ≤ i := hi0; ⟨fun e => by have := HT3.out.b.blk.lt; omega, fun e => by have := HT3.out.b.own.lt e; omega⟩)
        have HYA2 : Hid (∀ i, w8.drew.heap.size ≤ i → i ≠ ya ∧ va3.ownBlock ≠ some i) := Lib.hid (fun i hi0 => have hi : w8.heap.size ≤ i := hi0; ⟨fun e => by have := HT3.out.a.blk.lt; omega, fun e => by have := HT3.out.a.own.lt e; omega⟩)
        go_upto_region 14 with fail
        go_region_held3 (fun w' => w'.cell? ⟨w.heap.size, 11, none⟩ = some (.int .i64 p.now)) (first | with_reducible exact HN0.out | with_reducible exact HN1.out | with_reducible exact HNk.out | with_reducible exact HN9.out | with_reducible exact HNz.out | with_reducible exact HNa.out | with_reducible exact HNb.out) (first | (go_at_call 21; (first | (with_reducible refine HTA1.out.mono ?_; rintro e wa ⟨va4, ra, rfl, ta, ho, hf⟩; have hTa := HT3d.out.opA ta; have HTWa := Lib.hid hTa; have HRA := Lib.hid ho; have HFA := Lib.hid hf; have HNa := Lib.hid (HNC.out _ hTa.bq)) | (with_reducible refine HTB1.out.mono ?_; rintro e wb ⟨vb4, rb, rfl, tb, ho, hf⟩; have hTb := HT3d.out.opB tb; have HTWb := Lib.hid hTb; have HRB := Lib.hid ho; have HFB := Lib.hid hf; have HNb := Lib.hid (HNC.out _ hTb.bq)) | (with_reducible refine (HTK.out _ _ _ HTWb.out.a).mono ?_; rintro e wz ⟨va4, ra, rfl, ta, ho, hf⟩; have hTz := HTWb.out.opA ta; have HTWz := Lib.hid hTz; have HRAz := Lib.hid ho; have HRBz := Lib.hid (ta.keepRow HRB.out (fun i hi => HYA2.out i (HFB.out i hi).1)); have HNz := Lib.hid (HNC.out _ hTz.bq)) | (with_reducible refine (HTK.out _ _ _ HTWa.out.b).mono ?_; rintro e wz ⟨vb4, rb, rfl, tb, ho, hf⟩; have hTz := HTWa.out.opB tb; have HTWz := Lib.hid hTz; have HRBz := Lib.hid ho; have HRAz := Lib.hid (tb.keepRow HRA.out (fun i hi => HYB.out i (HFA.out i hi).1)); have HNz := Lib.hid (HNC.out _ hTz.bq)))) | (go_at_call 20; refine (rsameT_any _ ra rb M (ERd.of_own elT_ok HRAz.out) (ERd.of_own elT_ok HRBz.out) HML.out).mono ?_; rintro e w9 ⟨rfl, q9, hw9⟩; have h9 := hTz.below (below_drawn (Below.refl _ _) q9); rw [← hw9] at h9; have HT9 := Lib.hid h9; have HN9 := Lib.hid (HNC.out _ h9.bq); clear hw9) | (go_at_call 23; refine (tknown_any _).mono ?_; rintro e wk ⟨rfl, hbk⟩; have hk9 := HT9.out.below hbk; have HBk := Lib.hid hk9.bel; have HNk := Lib.hid (HNC.out _ hk9.bq)))
        all_goals
          go_wp2
          go_ret
          exact ⟨rfl, below_trans HBW.out HBk.out⟩
  · have HBK := Lib.hid hb1
    clear hb1
    by_cases h40 : (40 : Int) < (n : Int)
    · go_wp2_with fail
      refine (tknown_any _).mono ?_
      rintro e w8 ⟨rfl, hb8⟩
      have HB8 := Lib.hid (below_trans HBK.out hb8)
      clear hb8
      go_wp2_with fail
      go_ret
      exact ⟨rfl, below_trans HBW.out HB8.out⟩
    · have h40' : n ≤ 40 := by omega
      go_wp2_with fail
      refine (HAL.out _ HBK.out h40').mono ?_
      rintro e w2 ⟨b, rfl, hiff, hb2⟩
      have HB2 := Lib.hid (below_trans HBK.out hb2)
      obtain rfl : b = false := by
        cases b with
        | false => rfl
        | true => exact absurd ((allB_iff _).1 (hiff.1 rfl)) hno
      clear hb2 hiff hno
      go_wp2_with fail
      refine (HPL.out _ HB2.out).mono ?_
      rintro e w5 ⟨ya, va, La, rfl, hba, hTa, hKa, hya, hva⟩
      have HBA := Lib.hid (below_trans HB2.out hba)
      have HTA := Lib.hid hTa
      have HKA := Lib.hid hKa
      have HYA := Lib.hid (And.intro (Nat.le_trans HB2.out.size hya) (fun i hi => Nat.le_trans HB2.out.size (hva i hi)))
      clear hba hTa hKa hya hva
      go_wp2_with fail
      refine (tickets_any w5 ya va La 0 HTA.out (by have := HKA.out.len; omega) HKA.out.so).mono ?_
      rintro e w6 ⟨va2, u6, rfl, t6, ho6, hf6⟩
      have HBC := Lib.hid (below_ts HBA.out t6 HYA.out.1 HYA.out.2)
      rw [left0 HKA.out.wf] at t6 ho6
      have HT6 := Lib.hid t6
      have HR6 := Lib.hid (ERd.of_own elT_ok ho6)
      have HO6 := Lib.hid ho6
      have HF6 := Lib.hid hf6
      clear t6 ho6 hf6
      go_wp2_with fail
      refine (from_any w6 u6 La HR6.out HKA.out.so).mono ?_
      rintro e w7 hG
      rcases hG with ⟨_, yb, vb, rfl, hb7, hTb, _, hyb, hvb⟩ | ⟨hno7, _, _⟩
      rotate_left
      · exact absurd HKA.out.from_ hno7
      have HTW := Lib.hid (Two.mk' HKP.out HT6.out.tb HBC.out HYA.out.1 (fun i hi => by
        rcases HT6.out.far i hi with h1 | h1
        · exact HYA.out.2 i h1
        · have := HBA.out.size; omega) hTb hb7 hyb hvb)
      have HTWd := Lib.hid (HTW.out.below (below_d (Below.refl _ _)))
      have HD := Lib.hid (fun (X : World) (y : Nat) (v : Value) (h : TB X y v La) => derive_any X y p.src p.draw v La p.g p.now h (by have := HKA.out.len; omega) HKA.out.so HPI.out.draw HPI.out.src)
      unfold OpP at HD
      have HTO := Lib.hid (HKA.out.left p.now)
      have HTE := Lib.hid (HTO.out.derive p.src p.draw p.g HPI.out.src HPI.out.draw)
      generalize derE (leftC p.now La) p.src p.draw p.g = E at *
      generalize derL (leftC p.now La) p.src p.draw p.g = LE at *
      have HSC := Lib.hid (fun (w' : World) (hb : Blk w' w.heap.size 32 #[.int .i64 p.kind, .int .u64 p.src, .int .u64 p.draw, .int .i64 p.g.ops, .int .i64 p.g.zoom, .int .i64 p.g.x0, .int .i64 p.g.y0, .int .i64 p.g.x1, .int .i64 p.g.y1, .bool p.g.void, .int .i64 p.g.til, .int .i64 p.now]) => (show (w'.cell? ⟨w.heap.size, 1, none⟩ = some (.int .u64 p.src)) ∧ (w'.cell? ⟨w.heap.size, 2, none⟩ = some (.int .u64 p.draw)) ∧ (w'.cell? ⟨w.heap.size, 3, none⟩ = some (.int .i64 p.g.ops)) ∧ (w'.cell? ⟨w.heap.size, 4, none⟩ = some (.int .i64 p.g.zoom)) ∧ (w'.cell? ⟨w.heap.size, 5, none⟩ = some (.int .i64 p.g.x0)) ∧ (w'.cell? ⟨w.heap.size, 6, none⟩ = some (.int .i64 p.g.y0)) ∧ (w'.cell? ⟨w.heap.size, 7, none⟩ = some (.int .i64 p.g.x1)) ∧ (w'.cell? ⟨w.heap.size, 8, none⟩ = some (.int .i64 p.g.y1)) ∧ (w'.cell? ⟨w.heap.size, 9, none⟩ = some (.bool p.g.void)) ∧ (w'.cell? ⟨w.heap.size, 10, none⟩ = some (.int .i64 p.g.til)) ∧ (w'.cell? ⟨w.heap.size, 11, none⟩ = some (.int .i64 p.now)) from ⟨hb.cell 1, hb.cell 2, hb.cell 3, hb.cell 4, hb.cell 5, hb.cell 6, hb.cell 7, hb.cell 8, hb.cell 9, hb.cell 10, hb.cell 11⟩))
      have HS0 := Lib.hid (HSC.out _ HTW.out.bq)
      have HS1 := Lib.hid (HSC.out _ HTWd.out.bq)
      have HDA1 := Lib.hid (HD.out _ _ _ HTWd.out.a)
      have HDB1 := Lib.hid (HD.out _ _ _ HTWd.out.b)
      obtain ⟨z1, z2, z3, z4, z5, z6, z7, z8, z9, z10, z11⟩ := HS0.out
      clear hTb hb7 hyb hvb HT6 HR6 HO6 HF6
      go_wp2_with fail
      go_cut [12, 13] (fun s12 s13 wx => s12 = .int .i64 E ∧ s13 = .int .i64 E ∧ ∃ va3 vb3, Hid (Two W.heap.size w.heap.size 32 #[.int .i64 p.kind, .int .u64 p.src, .int .u64 p.draw, .int .i64 p.g.ops, .int .i64 p.g.zoom, .int .i64 p.g.x0, .int .i64 p.g.y0, .int .i64 p.g.x1, .int .i64 p.g.y1, .bool p.g.void, .int .i64 p.g.til, .int .i64 p.now] W ya va3 LE yb vb3 LE wx))
      case first =>
        go_region_held3 (fun w' => (w'.cell? ⟨w.heap.size, 1, none⟩ = some (.int .u64 p.src)) ∧ (w'.cell? ⟨w.heap.size, 2, none⟩ = some (.int .u64 p.draw)) ∧ (w'.cell? ⟨w.heap.size, 3, none⟩ = some (.int .i64 p.g.ops)) ∧ (w'.cell? ⟨w.heap.size, 4, none⟩ = some (.int .i64 p.g.zoom)) ∧ (w'.cell? ⟨w.heap.size, 5, none⟩ = some (.int .i64 p.g.x0)) ∧ (w'.cell? ⟨w.heap.size, 6, none⟩ = some (.int .i64 p.g.y0)) ∧ (w'.cell? ⟨w.heap.size, 7, none⟩ = some (.int .i64 p.g.x1)) ∧ (w'.cell? ⟨w.heap.size, 8, none⟩ = some (.int .i64 p.g.y1)) ∧ (w'.cell? ⟨w.heap.size, 9, none⟩ = some (.bool p.g.void)) ∧ (w'.cell? ⟨w.heap.size, 10, none⟩ = some (.int .i64 p.g.til)) ∧ (w'.cell? ⟨w.heap.size, 11, none⟩ = some (.int .i64 p.now))) (first | with_reducible exact HS0.out | with_reducible exact HS1.out | with_reducible exact HSz.out | with_reducible exact HSa.out | with_reducible exact HSb.out) (first | (go_at_call 15; (first | (with_reducible refine HDA1.out.mono ?_; rintro e wa ⟨va3, rfl, ta⟩; have hTa := HTWd.out.opA ta; have HTWa := Lib.hid hTa; have HSa := Lib.hid (HSC.out _ hTa.bq)) | (with_reducible refine HDB1.out.mono ?_; rintro e wb ⟨vb3, rfl, tb⟩; have hTb := HTWd.out.opB tb; have HTWb := Lib.hid hTb; have HSb := Lib.hid (HSC.out _ hTb.bq)) | (with_reducible refine (HD.out _ _ _ HTWb.out.a).mono ?_; rintro e wz ⟨va3, rfl, ta⟩; have hTz := HTWb.out.opA ta; have HTWz := Lib.hid hTz; have HSz := Lib.hid (HSC.out _ hTz.bq)) | (with_reducible refine (HD.out _ _ _ HTWa.out.b).mono ?_; rintro e wz ⟨vb3, rfl, tb⟩; have hTz := HTWa.out.opB tb; have HTWz := Lib.hid hTz; have HSz := Lib.hid (HSC.out _ hTz.bq)))))
        all_goals
          go_wp2
          go_meet
          exact ⟨rfl, rfl, _, _, HTWz⟩
      case rest =>
        rename World => w8
        obtain ⟨rfl, rfl, va3, vb3, HT3⟩ := hcut
        have HEE : Hid ((E == E) = true) := Lib.hid (by simp)
        have hEE := HEE.out
        have HT3d := Lib.hid (HT3.out.below (below_d (Below.refl _ _)))
        have HTOE : Hid (TOk LE) := HTE
        have HTK := Lib.hid (fun (X : World) (y : Nat) (v : Value) (h : TB X y v LE) => tickets_any X y v LE p.now h (by have := HTOE.out.len; omega) HTOE.out.so)
        unfold TicP at HTK
        have hml : (leftC p.now LE).length ≤ 1000000 := by have := (HTOE.out.left p.now).len; omega
        have HML := Lib.hid hml
        clear hml
        generalize leftC p.now LE = M at *
        have HTA1 := Lib.hid (HTK.out _ _ _ HT3d.out.a)
        have HTB1 := Lib.hid (HTK.out _ _ _ HT3d.out.b)
        have HNC := Lib.hid (fun (w' : World) (hb : Blk w' w.heap.size 32 #[.int .i64 p.kind, .int .u64 p.src, .int .u64 p.draw, .int .i64 p.g.ops, .int .i64 p.g.zoom, .int .i64 p.g.x0, .int .i64 p.g.y0, .int .i64 p.g.x1, .int .i64 p.g.y1, .bool p.g.void, .int .i64 p.g.til, .int .i64 p.now]) => (show w'.cell? ⟨w.heap.size, 11, none⟩ = some (.int .i64 p.now) from hb.cell 11))
        have HN0 := Lib.hid (HNC.out _ HT3.out.bq)
        have HN1 := Lib.hid (HNC.out _ HT3d.out.bq)
        have z11 := HN0.out
        have HYB : Hid (∀ i, w8.drew.heap.size ≤ i → i ≠ yb ∧ vb3.ownBlock ≠ some i) := Lib.hid (fun i hi0 => have hi : w8.heap.size ≤ i := hi0; ⟨fun e => by have := HT3.out.b.blk.lt; omega, fun e => by have := HT3.out.b.own.lt e; omega⟩)
        have HYA2 : Hid (∀ i, w8.drew.heap.size ≤ i → i ≠ ya ∧ va3.ownBlock ≠ some i) := Lib.hid (fun i hi0 => have hi : w8.heap.size ≤ i := hi0; ⟨fun e => by have := HT3.out.a.blk.lt; omega, fun e => by have := HT3.out.a.own.lt e; omega⟩)
        go_upto_region 14 with fail
        go_region_held3 (fun w' => w'.cell? ⟨w.heap.size, 11, none⟩ = some (.int .i64 p.now)) (first | with_reducible exact HN0.out | with_reducible exact HN1.out | with_reducible exact HNk.out | with_reducible exact HN9.out | with_reducible exact HNz.out | with_reducible exact HNa.out | with_reducible exact HNb.out) (first | (go_at_call 21; (first | (with_reducible refine HTA1.out.mono ?_; rintro e wa ⟨va4, ra, rfl, ta, ho, hf⟩; have hTa := HT3d.out.opA ta; have HTWa := Lib.hid hTa; have HRA := Lib.hid ho; have HFA := Lib.hid hf; have HNa := Lib.hid (HNC.out _ hTa.bq)) | (with_reducible refine HTB1.out.mono ?_; rintro e wb ⟨vb4, rb, rfl, tb, ho, hf⟩; have hTb := HT3d.out.opB tb; have HTWb := Lib.hid hTb; have HRB := Lib.hid ho; have HFB := Lib.hid hf; have HNb := Lib.hid (HNC.out _ hTb.bq)) | (with_reducible refine (HTK.out _ _ _ HTWb.out.a).mono ?_; rintro e wz ⟨va4, ra, rfl, ta, ho, hf⟩; have hTz := HTWb.out.opA ta; have HTWz := Lib.hid hTz; have HRAz := Lib.hid ho; have HRBz := Lib.hid (ta.keepRow HRB.out (fun i hi => HYA2.out i (HFB.out i hi).1)); have HNz := Lib.hid (HNC.out _ hTz.bq)) | (with_reducible refine (HTK.out _ _ _ HTWa.out.b).mono ?_; rintro e wz ⟨vb4, rb, rfl, tb, ho, hf⟩; have hTz := HTWa.out.opB tb; have HTWz := Lib.hid hTz; have HRBz := Lib.hid ho; have HRAz := Lib.hid (tb.keepRow HRA.out (fun i hi => HYB.out i (HFA.out i hi).1)); have HNz := Lib.hid (HNC.out _ hTz.bq)))) | (go_at_call 20; refine (rsameT_any _ ra rb M (ERd.of_own elT_ok HRAz.out) (ERd.of_own elT_ok HRBz.out) HML.out).mono ?_; rintro e w9 ⟨rfl, q9, hw9⟩; have h9 := hTz.below (below_drawn (Below.refl _ _) q9); rw [← hw9] at h9; have HT9 := Lib.hid h9; have HN9 := Lib.hid (HNC.out _ h9.bq); clear hw9) | (go_at_call 23; refine (tknown_any _).mono ?_; rintro e wk ⟨rfl, hbk⟩; have hk9 := HT9.out.below hbk; have HBk := Lib.hid hk9.bel; have HNk := Lib.hid (HNC.out _ hk9.bq)))
        all_goals
          go_wp2
          go_ret
          exact ⟨rfl, below_trans HBW.out HBk.out⟩
theorem walk (a : Option Addr) (n c : Nat) (a2 : Option Addr) (n2 c2 : Nat) (p : Ot) (w : World) (h : IsSl w 12 okOp a n c) (hk : IsSl w 10 okT a2 n2 c2) (hp : p.I) :
    Calls Try.prog 8 #[.slice a n c, .slice a2 n2 c2, p.V] w fun e w' => e = .returned (.bool true) ∧ Below w.heap.size w w' := by
  obtain ⟨O, h1, h2, h3⟩ := ops_of h
  obtain ⟨T, k1, k2, k3⟩ := tks_of hk
  exact walkN _ O _ _ _ T p w h1 h3 k1 k3 k2 hp
theorem own : ownKnob Try.prog.godebug = none := by kernel_rfl
theorem laidOut : laidOutB Try.prog = true := by kernel_rfl
set_option maxRecDepth 100000 in
theorem lifted (os : Os) (started : os.Started) (H : Type) (enc : TypeId × Value → H) :
    ReturnsInHanded {} Try.checked os 8 .any (Rows.tokenFromSpec.pre6 enc Try.prog Try.f8 Rows.tokenFromRow.domain false) (Rows.tokenFromSpec.post enc Try.prog Try.f8 false true false false) := by
  refine returnsInHanded_of_change_sized (C := Try.checked) own started (by kernel_rfl) Try.func8
    (ChangeSpec.witness6 (enc := enc) (C := Try.checked) false ⟨#[], #[.slice none 0 0, .slice none 0 0, wOp], []⟩ 8 (by kernel_rfl) (by kernel_rfl) (by kernel_rfl) (by kernel_rfl)) ?_
  intro W base args ds gs before hval0 hW hcnd hsz0 _
  have hval : ∀ (j : Nat) t v, Try.f8.params[j]? = some t → args[j]? = some v → Value.okWide Try.prog W .any base t v := hval0
  have hW' := hW
  obtain ⟨p, q, hA0, hV, rfl, hfz, hnd⟩ := hW
  have hA : DataW.TrodAll enc Try.prog W 0 (fun _ => true) true Try.f8.params.toList args.toList ds p := hA0
  rw [Try.params8] at hA hval
  obtain ⟨v0, vs0, d0, ds0, p0, q0, hargs, rfl, rfl, h0, r0⟩ := trodAll_cons hA
  obtain ⟨v1, vs1, d1, ds1, p1, q1, rfl, rfl, rfl, h1, r1⟩ := trodAll_cons r0
  obtain ⟨v2, vs2, d2, ds2, p2, q2, rfl, rfl, rfl, h2, r2⟩ := trodAll_cons r1
  obtain ⟨rfl, rfl, rfl⟩ := trodAll_nil r2
  obtain rfl : args = #[v0, v1, v2] := by cases args; simp_all
  obtain ⟨rfl, rfl⟩ := trodVars_none hV
  have k0 := h0
  have lt0 : ∀ x ∈ p0, x.block < W.heap.size := by obtain ⟨m, hm⟩ := k0; exact DataW.trod_lt m _ _ _ hm
  obtain ⟨a0, len0, cap0, rfl⟩ := okWide_slice Try.underlying22 (hval 0 22 v0 rfl rfl)
  have w0 : IsSl W 12 (okOpW W) a0 len0 cap0 := by
    obtain ⟨fuel, hf⟩ := h0
    exact isSl_of Try.underlying22 (by kernel_rfl) okOpP hf (fun n hn => of_decide_eq_true (List.all_eq_true.1 hsz0 n (DataW.weights_mem_each (j := 0) (t := 22) (d := d0) rfl rfl n hn)))
  have k1 := h1
  have lt1 : ∀ x ∈ p1, x.block < W.heap.size := by obtain ⟨m, hm⟩ := k1; exact DataW.trod_lt m _ _ _ hm
  obtain ⟨a1, len1, cap1, rfl⟩ := okWide_slice Try.underlying25 (hval 1 25 v1 rfl rfl)
  have w1 : IsSl W 10 (okTW W) a1 len1 cap1 := by
    obtain ⟨fuel, hf⟩ := h1
    exact isSl_of Try.underlying25 (by kernel_rfl) okTP hf (fun n hn => of_decide_eq_true (List.all_eq_true.1 hsz0 n (DataW.weights_mem_each (j := 1) (t := 25) (d := d1) rfl rfl n hn)))
  have k2 := h2
  have lt2 : ∀ x ∈ p2, x.block < W.heap.size := by obtain ⟨m, hm⟩ := k2; exact DataW.trod_lt m _ _ _ hm
  obtain ⟨cs2, rfl, hc2⟩ := okWide_struct Try.underlying32 (hval 2 32 v2 rfl rfl)
  obtain ⟨a2, e2, w2⟩ : ∃ a, Value.agg cs2 = Ot.V a ∧ Ot.I a := by
    obtain ⟨fuel, hf⟩ := h2
    exact op_of (cs := cs2) hf (by rw [hc2]; kernel_rfl)
  clear hA0 hval0
  have hw := walk a0 len0 cap0 a1 len1 cap1 a2 W w0 w1 w2
  rw [← e2] at hw
  refine hw.mono fun e W' ⟨he, bel⟩ => ?_
  subst he
  exact ⟨_, rfl, _, _, _, [], _, [], hW', trodAll_mk1 (shut_bool Try.underlying4 _), (trodAll_cons_mk (Below.trod laidOut (by kernel_rfl) (of_decide_eq_true (by kernel_rfl)) k0 bel lt0) (trodAll_cons_mk (Below.trod laidOut (by kernel_rfl) (of_decide_eq_true (by kernel_rfl)) k1 bel lt1) (trodAll_cons_mk (Below.trod laidOut (by kernel_rfl) (of_decide_eq_true (by kernel_rfl)) k2 bel lt2) trodAll_mk0))), rfl, bel.frame _, fun h => by cases h⟩
theorem over : Rows.tokenFromRow.holds Try.pinned (OpenSpec.ofChange Rows.tokenFromSpec) :=
  OpenClaim.holds_of_wide 8 Try.f8 rfl rfl rfl rfl rfl rfl rfl ⟨rfl, rfl, rfl, rfl, rfl⟩ rfl rfl rfl rfl rfl (by kernel_rfl) Try.func8 (by kernel_rfl)
    (of_decide_eq_true (by kernel_rfl)) (by unfold Func.isWrapper; first | (rw [if_pos (by decide +kernel)]; kernel_rfl) | (rw [if_neg (by decide +kernel)]; exact ⟨rfl, rfl⟩))
    (fun os started H enc _ => lifted os started H enc)
/-- The statement. -/
theorem proved : Rows.TokenFromSaid := over
#print axioms proved
end Go.Proofs.Ytmlmndaflgfdkaa.tokenFrom
