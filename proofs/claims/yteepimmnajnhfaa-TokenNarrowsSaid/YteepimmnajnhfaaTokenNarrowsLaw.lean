/- TokenNarrows: (P16.5) what a ticket grants is narrower than what its parent grants, and than its own grant. Conditions: none. -/
import Derived.Test.YteepimmnajnhfaaTo34
namespace Go.Proofs.Yteepimmnajnhfaa.tokenNarrows
set_option linter.unusedVariables false
set_option linter.unusedSimpArgs false
open Go.ChangeShapes Go.WideShapes Go.ChangeAt Go.RowKit
open Go.ChangeMaps (open_string shut_string)
set_option maxRecDepth 100000 in
set_option maxHeartbeats 8000000 in
theorem walkN (u : Value) (O : List Ot) (now : Int) (w : World) (h : ERd elO w u O) (hO : ∀ o ∈ O, o.I) :
    Calls Try.prog 5 #[u, .int .i64 now] w fun e w' => e = .returned (.bool true) ∧ Below w.heap.size w w' := by
  have HPL := Lib.hid (played_any w u O h hO)
  clear h hO
  go_enter Try.func5, Try.ntmps5
  go_wp2_with fail
  refine HPL.out.mono ?_
  rintro e w1 ⟨y, v, L, rfl, hb, ht, hk, hy, hv⟩
  have HB := Lib.hid hb
  have HT := Lib.hid ht
  have HK := Lib.hid hk
  have HY := Lib.hid hy
  have HV := Lib.hid hv
  clear hb ht hk hy hv HPL
  have HLE := Lib.hid (show L.length ≤ 1000 by have := HK.out.len; omega)
  go_wp2_with fail
  refine (tickets_any _ y v L now HT.out HLE.out HK.out.so).mono ?_
  rintro e w3 ⟨v3, r3, rfl, hT3, hR3, hF3⟩
  have HT3 := Lib.hid hT3
  have HR33 := Lib.hid hR3
  have HF33 := Lib.hid (show ∀ i, r3.ownBlock = some i → i ≠ y ∧ v3.ownBlock ≠ some i from fun i hi => ⟨(hF3 i hi).2.1, (hF3 i hi).2.2⟩)
  clear hT3 hR3 hF3
  have HLA := Lib.hid (left_again HK.out.wf now)
  have HK2 := Lib.hid (HK.out.left now)
  generalize leftC now L = L2 at *
  have HLE2 := Lib.hid (show L2.length ≤ 1000 by have := HK2.out.len; omega)
  obtain ⟨A3, c3, rfl, -, -⟩ := HR33.out.slice
  obtain ⟨n, hn⟩ : ∃ n, n = L2.length := ⟨_, rfl⟩
  have HN := Lib.hid hn
  rw [← hn] at HR33 HF33 ⊢
  clear hn
  have hnb : n ≤ 1000 := by rw [HN.out]; exact HLE2.out
  go_wp2_with fail
  go_loopw [7, 8, 9, 10, 11] (fun i _ _ _ _ wr => ∃ (j : Nat) (v4 : Value), j ≤ n ∧ i = .int .i64 j ∧ Hid (TS y v w1 v4 L2 wr) ∧ Hid (EOwn elT wr (.slice A3 n c3) L2) ∧ Hid (∀ i, (Value.slice A3 n c3).ownBlock = some i → i ≠ y ∧ v4.ownBlock ≠ some i)) (fun i _ _ _ _ _ => n - (intOf i).toNat)
  case atStart => exact ⟨0, v3, Nat.zero_le _, rfl, HT3.out, HR33.out, HF33.out⟩
  case round =>
    rename World => wr
    clear HT3 HR33 HF33
    obtain ⟨j, v4, hj, rfl, HT4, HR34, HF34⟩ := hrel
    by_cases hlt : j < n
    · have hjl : j < L2.length := by rw [← HN.out]; exact hlt
      have hx : L2[j]? = some L2[j] := List.getElem?_eq_getElem hjl
      have HLV := Lib.hid (liv_left HK2.out.wf now HLA.out j hjl)
      have HN1 := Lib.hid (nar_own HK2.out.wf j hjl)
      have HN2 := Lib.hid (nar_par HK2.out.wf j hjl)
      have HR1 := Lib.hid (grI_up HK2.out.wf 0 L2.length j (by omega) hjl).1
      have HR2 := Lib.hid ((rt_iff _).1 (HK2.out.wf.right _ (List.getElem_mem hjl)))
      have hsx := HK2.out.so _ (List.getElem_mem hjl)
      obtain ⟨g, rfl, a0, a1, a2, a3, a4, a5, a6, a7, a8, a9⟩ := HR34.out.ten hx
      have HX := Lib.hid hx
      clear hx
      have HCL := Lib.hid (live_any wr y L2[j].sec v4 L2 now HT4.out.tb HLE2.out HK2.out.so (by rw [HLA.out]; exact HK2.out.wf.ord) hsx.1)
      rw [HLA.out, HLV.out.1, HLV.out.2.2.2] at HCL
      have hlv := HLV.out.2.1
      rw [HLV.out.2.2.2] at hlv
      have hsp := hsx.2
      have HPL := Lib.hid (fun W v5 (h : TB W y v5 L2) => live_any W y L2[j].par v5 L2 now h HLE2.out HK2.out.so (by rw [HLA.out]; exact HK2.out.wf.ord) hsp)
      rw [HLA.out] at HPL
      have HRP : Hid (∀ hp : L2[j].par ≠ 0, Rt (livG L2 L2[j].par)) := fun hp => by
        have h9 := (HN2.out hp).2
        rw [narB, Bool.and_eq_true, Bool.and_eq_true] at h9
        exact (rt_iff _).1 h9.1.2
      generalize grI L2 L2.length j = m at *
      clear hsx HLV
      have hlt2 : (j : Int) < n := by omega
      go_wp2_with fail
      refine HCL.out.mono ?_
      rintro e w5 ⟨v5, rfl, hT5⟩
      have HR35 := Lib.hid (hT5.keepRow HR34.out HF34.out)
      have HF35 := Lib.hid (hT5.farRow HR34.out HF34.out)
      have HT5 := Lib.hid (HT4.out.trans hT5)
      clear hT5 HT4 HR34 HF34 a0 a1 a2 a3 a4 a5 a6 a7 a8 a9 HCL
      have hm1 : ¬ m.til < now := by omega
      clear hlv
      generalize L2[j] = x at *
      obtain ⟨xs, xp, ⟨g0, g1, g2, g3, g4, g5, g6, g7⟩⟩ := x
      have HNR := Lib.hid (fun W => nar_yes m ⟨g0, g1, g2, g3, g4, g5, g6, g7⟩ HR1.out HR2.out HN1.out W)
      simp only at HN1 HN2 HR2 HPL HRP hsp
      have HMR := Lib.hid HR1.out
      obtain ⟨m0, m1, m2, m3, m4, m5, m6, m7⟩ := m
      simp only [Gt.V] at hm1 HNR
      have hal : Below w5.heap.size w5 (w5.alloc (.cells #[.int .i64 m0, .int .i64 m1, .int .i64 m2, .int .i64 m3, .int .i64 m4, .int .i64 m5, .bool m6, .int .i64 m7] 30)) := (Below.refl _ _).alloc (Nat.le_refl _) _
      have HG6 := Lib.hid (Blk.new w5 30 #[.int .i64 m0, .int .i64 m1, .int .i64 m2, .int .i64 m3, .int .i64 m4, .int .i64 m5, .bool m6, .int .i64 m7])
      have HT6 := Lib.hid (HT5.out.below hal)
      have HR36 := Lib.hid (HR35.out.below hal)
      have HGY := Lib.hid (show w5.heap.size ≠ y by have := HT5.out.tb.blk.lt; omega)
      have HGV := Lib.hid (show v5.ownBlock ≠ some w5.heap.size from fun e => by have := HT5.out.tb.own.lt e; omega)
      clear hal HT5 HR35
      go_upto_region 7 with fail
      generalize (w5.alloc (.cells #[.int .i64 m0, .int .i64 m1, .int .i64 m2, .int .i64 m3, .int .i64 m4, .int .i64 m5, .bool m6, .int .i64 m7] 30)) = w6 at *
      generalize w5.heap.size = gb at *
      obtain ⟨g', eg, a0, a1, a2, a3, a4, a5, a6, a7, a8, a9⟩ := HR36.out.ten HX.out
      obtain rfl : g = g' := by simpa using eg
      clear eg
      simp only at a0 a1 a2 a3 a4 a5 a6 a7 a8 a9
      have q0 := HG6.out.cell 0
      have q1 := HG6.out.cell 1
      have q2 := HG6.out.cell 2
      have q3 := HG6.out.cell 3
      have q4 := HG6.out.cell 4
      have q5 := HG6.out.cell 5
      have q6 := HG6.out.cell 6
      have q7 := HG6.out.cell 7
      simp only [List.getElem?_toArray, List.getElem?_cons_zero, List.getElem?_cons_succ] at q0 q1 q2 q3 q4 q5 q6 q7
      have hrefl := Below.refl w6.heap.size w6
      go_region_held3 (fun w' => (w'.cell? ⟨gb, 0, none⟩ = some (.int .i64 m0)) ∧ (w'.cell? ⟨gb, 1, none⟩ = some (.int .i64 m1)) ∧ (w'.cell? ⟨gb, 2, none⟩ = some (.int .i64 m2)) ∧ (w'.cell? ⟨gb, 3, none⟩ = some (.int .i64 m3)) ∧ (w'.cell? ⟨gb, 4, none⟩ = some (.int .i64 m4)) ∧ (w'.cell? ⟨gb, 5, none⟩ = some (.int .i64 m5)) ∧ (w'.cell? ⟨gb, 6, none⟩ = some (.bool m6)) ∧ (w'.cell? ⟨gb, 7, none⟩ = some (.int .i64 m7)) ∧ (w'.cell? ⟨g, j * 10 + 2, none⟩ = some (.int .i64 g0)) ∧ (w'.cell? ⟨g, j * 10 + 3, none⟩ = some (.int .i64 g1)) ∧ (w'.cell? ⟨g, j * 10 + 4, none⟩ = some (.int .i64 g2)) ∧ (w'.cell? ⟨g, j * 10 + 5, none⟩ = some (.int .i64 g3)) ∧ (w'.cell? ⟨g, j * 10 + 6, none⟩ = some (.int .i64 g4)) ∧ (w'.cell? ⟨g, j * 10 + 7, none⟩ = some (.int .i64 g5)) ∧ (w'.cell? ⟨g, j * 10 + 8, none⟩ = some (.bool g6)) ∧ (w'.cell? ⟨g, j * 10 + 9, none⟩ = some (.int .i64 g7)) ∧ (Below w6.heap.size w6 w')) (first | (go_split_ands; refine ⟨?_, ?_, ?_, ?_, ?_, ?_, ?_, ?_, ?_, ?_, ?_, ?_, ?_, ?_, ?_, ?_, ?_⟩ <;> first | (exact cell_later (by assumption) (by assumption)) | (exact below_then (by assumption) (by assumption)) | (go_grown; done) | go_keep)) (first | (go_at_call 27; refine (HNR.out _).mono ?_; rintro e w9 ⟨rfl, hb9⟩))
      go_split_ands
      have HB9 := Lib.hid (show Below w6.heap.size w6 w9 by assumption)
      have HT9 := Lib.hid (HT6.out.below HB9.out)
      have HR39 := Lib.hid (HR36.out.below HB9.out)
      have HG9 := Lib.hid (Blk.thru0 HG6.out HB9.out)
      clear a0 a1 a2 a3 a4 a5 a6 a7 a8 a9 q0 q1 q2 q3 q4 q5 q6 q7 HG6 HT6 HR36 hb9 hrefl HNR
      obtain ⟨g', eg, a0, a1, a2, a3, a4, a5, a6, a7, a8, a9⟩ := HR39.out.ten HX.out
      obtain rfl : g = g' := by simpa using eg
      clear eg
      simp only at a0 a1 a2 a3 a4 a5 a6 a7 a8 a9
      by_cases hp0 : xp = 0
      · have hp0' : ((xp : Int) == 0) = true := by simp; exact hp0
        go_wp2_with fail
        go_roundw
        case rel => exact ⟨j + 1, v5, by omega, by go_num, HT9, HR39, HF35⟩
        case measure => simp [intOf]; omega
      · have hp0' : ((xp : Int) == 0) = false := by simp; exact hp0
        have HBB := Lib.hid (HN2.out hp0)
        have HCP := Lib.hid (HPL.out _ _ HT9.out.tb)
        rw [HBB.out.1] at HCP
        have HRPP := Lib.hid (HRP.out hp0)
        have HNR2 := Lib.hid (fun W => nar_yes ⟨m0, m1, m2, m3, m4, m5, m6, m7⟩ (livG L2 xp) HMR.out HRPP.out HBB.out.2 W)
        clear HBB HRPP HPL HRP HN2 HN1 hp0
        generalize livG L2 xp = p at *
        obtain ⟨p0, p1, p2, p3, p4, p5, p6, p7⟩ := p
        simp only [Gt.V] at HNR2
        go_wp2_with fail
        refine HCP.out.mono ?_
        rintro e wa ⟨va, rfl, hTa⟩
        have HTa := Lib.hid (HT9.out.trans hTa)
        have HRa := Lib.hid (hTa.keepRow HR39.out HF35.out)
        have HFa := Lib.hid (hTa.farRow HR39.out HF35.out)
        have HGa := Lib.hid (hTa.keep HG9.out HGY.out HGV.out)
        clear a0 a1 a2 a3 a4 a5 a6 a7 a8 a9 hTa HT9 HR39 HF35 HG9 HCP
        have hal : Below wa.heap.size wa (wa.alloc (.cells #[.int .i64 p0, .int .i64 p1, .int .i64 p2, .int .i64 p3, .int .i64 p4, .int .i64 p5, .bool p6, .int .i64 p7] 30)) := (Below.refl _ _).alloc (Nat.le_refl _) _
        have HPB := Lib.hid (Blk.new wa 30 #[.int .i64 p0, .int .i64 p1, .int .i64 p2, .int .i64 p3, .int .i64 p4, .int .i64 p5, .bool p6, .int .i64 p7])
        have HGb := Lib.hid (Blk.thru0 HGa.out hal)
        have HTb := Lib.hid (HTa.out.below hal)
        have HRb := Lib.hid (HRa.out.below hal)
        clear hal HGa HTa HRa
        go_upto_region 11 with fail
        generalize (wa.alloc (.cells #[.int .i64 p0, .int .i64 p1, .int .i64 p2, .int .i64 p3, .int .i64 p4, .int .i64 p5, .bool p6, .int .i64 p7] 30)) = wb at *
        generalize wa.heap.size = pb at *
        have q0 := HGb.out.cell 0
        have q1 := HGb.out.cell 1
        have q2 := HGb.out.cell 2
        have q3 := HGb.out.cell 3
        have q4 := HGb.out.cell 4
        have q5 := HGb.out.cell 5
        have q6 := HGb.out.cell 6
        have q7 := HGb.out.cell 7
        simp only [List.getElem?_toArray, List.getElem?_cons_zero, List.getElem?_cons_succ] at q0 q1 q2 q3 q4 q5 q6 q7
        have z0 := HPB.out.cell 0
        have z1 := HPB.out.cell 1
        have z2 := HPB.out.cell 2
        have z3 := HPB.out.cell 3
        have z4 := HPB.out.cell 4
        have z5 := HPB.out.cell 5
        have z6 := HPB.out.cell 6
        have z7 := HPB.out.cell 7
        simp only [List.getElem?_toArray, List.getElem?_cons_zero, List.getElem?_cons_succ] at z0 z1 z2 z3 z4 z5 z6 z7
        have hrefl := Below.refl wb.heap.size wb
        go_wp2_with fail
        refine (HNR2.out _).mono ?_
        rintro e wc ⟨rfl, hbc⟩
        have HBc := Lib.hid hbc
        clear hbc hrefl
        go_wp2_with fail
        go_roundw
        case rel => exact ⟨j + 1, va, by omega, by go_num, HTb.out.below HBc.out, HRb.out.below HBc.out, HFa⟩
        case measure => simp [intOf]; omega
    · obtain rfl : j = n := by omega
      go_wp2_with fail
      refine (tknown_any _).mono ?_
      rintro e w9 ⟨rfl, h9⟩
      have HEND := Lib.hid (below_ts HB.out (HT4.out.below h9) HY.out HV.out)
      clear h9
      go_wp2
      go_ret
      exact ⟨rfl, HEND.out⟩
theorem walk (a : Option Addr) (n c : Nat) (now : Int) (w : World) (h : IsSl w 12 okOp a n c) (hn : -9223372036854775808 ≤ now ∧ now ≤ 9223372036854775807) :
    Calls Try.prog 5 #[.slice a n c, .int .i64 now] w fun e w' => e = .returned (.bool true) ∧ Below w.heap.size w w' := by
  obtain ⟨O, h1, h2, h3⟩ := ops_of h
  exact walkN _ O now w h1 h3
theorem own : ownKnob Try.prog.godebug = none := by kernel_rfl
theorem laidOut : laidOutB Try.prog = true := by kernel_rfl
set_option maxRecDepth 100000 in
theorem lifted (os : Os) (started : os.Started) (H : Type) (enc : TypeId × Value → H) :
    ReturnsInHanded {} Try.checked os 5 .any (Rows.tokenNarrowsSpec.pre6 enc Try.prog Try.f5 Rows.tokenNarrowsRow.domain false) (Rows.tokenNarrowsSpec.post enc Try.prog Try.f5 false true false false) := by
  refine returnsInHanded_of_change_sized (C := Try.checked) own started (by kernel_rfl) Try.func5
    (ChangeSpec.witness6 (enc := enc) (C := Try.checked) false ⟨#[], #[.slice none 0 0, .int .i64 0], []⟩ 8 (by kernel_rfl) (by kernel_rfl) (by kernel_rfl) (by kernel_rfl)) ?_
  intro W base args ds gs before hval0 hW hcnd hsz0 _
  have hval : ∀ (j : Nat) t v, Try.f5.params[j]? = some t → args[j]? = some v → Value.okWide Try.prog W .any base t v := hval0
  have hW' := hW
  obtain ⟨p, q, hA0, hV, rfl, hfz, hnd⟩ := hW
  have hA : DataW.TrodAll enc Try.prog W 0 (fun _ => true) true Try.f5.params.toList args.toList ds p := hA0
  rw [Try.params5] at hA hval
  obtain ⟨v0, vs0, d0, ds0, p0, q0, hargs, rfl, rfl, h0, r0⟩ := trodAll_cons hA
  obtain ⟨v1, vs1, d1, ds1, p1, q1, rfl, rfl, rfl, h1, r1⟩ := trodAll_cons r0
  obtain ⟨rfl, rfl, rfl⟩ := trodAll_nil r1
  obtain rfl : args = #[v0, v1] := by cases args; simp_all
  obtain ⟨rfl, rfl⟩ := trodVars_none hV
  have k0 := h0
  have lt0 : ∀ x ∈ p0, x.block < W.heap.size := by obtain ⟨m, hm⟩ := k0; exact DataW.trod_lt m _ _ _ hm
  obtain ⟨a0, len0, cap0, rfl⟩ := okWide_slice Try.underlying22 (hval 0 22 v0 rfl rfl)
  have w0 : IsSl W 12 (okOpW W) a0 len0 cap0 := by
    obtain ⟨fuel, hf⟩ := h0
    exact isSl_of Try.underlying22 (by kernel_rfl) okOpP hf (fun n hn => of_decide_eq_true (List.all_eq_true.1 hsz0 n (DataW.weights_mem_each (j := 0) (t := 22) (d := d0) rfl rfl n hn)))
  have k1 := h1
  have lt1 : ∀ x ∈ p1, x.block < W.heap.size := by obtain ⟨m, hm⟩ := k1; exact DataW.trod_lt m _ _ _ hm
  obtain ⟨a1, rfl, rfl, rfl, w1⟩ := open_int Try.underlying3 (hval 1 3 v1 rfl rfl) h1
  clear hA0 hval0
  refine (walk a0 len0 cap0 a1 W w0 (bounds_i64 w1)).mono fun e W' ⟨he, bel⟩ => ?_
  subst he
  exact ⟨_, rfl, _, _, _, [], _, [], hW', trodAll_mk1 (shut_bool Try.underlying4 _), (trodAll_cons_mk (Below.trod laidOut (by kernel_rfl) (of_decide_eq_true (by kernel_rfl)) k0 bel lt0) (trodAll_cons_mk (Below.trod laidOut (by kernel_rfl) (of_decide_eq_true (by kernel_rfl)) k1 bel lt1) trodAll_mk0)), rfl, bel.frame _, fun h => by cases h⟩
theorem over : Rows.tokenNarrowsRow.holds Try.pinned (OpenSpec.ofChange Rows.tokenNarrowsSpec) :=
  OpenClaim.holds_of_wide 5 Try.f5 rfl rfl rfl rfl rfl rfl rfl ⟨rfl, rfl, rfl, rfl, rfl⟩ rfl rfl rfl rfl rfl (by kernel_rfl) Try.func5 (by kernel_rfl)
    (of_decide_eq_true (by kernel_rfl)) (by unfold Func.isWrapper; first | (rw [if_pos (by decide +kernel)]; kernel_rfl) | (rw [if_neg (by decide +kernel)]; exact ⟨rfl, rfl⟩))
    (fun os started H enc _ => lifted os started H enc)
/-- The statement. -/
theorem proved : Rows.TokenNarrowsSaid := over
#print axioms proved
end Go.Proofs.Yteepimmnajnhfaa.tokenNarrows
