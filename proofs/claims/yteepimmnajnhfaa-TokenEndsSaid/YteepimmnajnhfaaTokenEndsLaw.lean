/- TokenEnds: (P16.7) at a tick above the last one that a grant allows what was made with it is not there, nor what was made of that. Conditions: none. -/
import Derived.Test.YteepimmnajnhfaaTo28
namespace Go.Proofs.Yteepimmnajnhfaa.tokenEnds
set_option linter.unusedVariables false
set_option linter.unusedSimpArgs false
open Go.ChangeShapes Go.WideShapes Go.ChangeAt Go.RowKit
open Go.ChangeMaps (open_string shut_string)
set_option maxRecDepth 100000 in
set_option maxHeartbeats 8000000 in
theorem walkN (u : Value) (O : List Ot) (now later : Int) (w : World) (h : ERd elO w u O) (hO : ∀ o ∈ O, o.I) :
    Calls Try.prog 7 #[u, .int .i64 now, .int .i64 later] w fun e w' => e = .returned (.bool true) ∧ Below w.heap.size w w' := by
  have HPL := Lib.hid (played_any w u O h hO)
  clear h hO
  go_enter Try.func7, Try.ntmps7
  go_wp2_with fail
  refine HPL.out.mono ?_
  rintro e w1 ⟨y, v, L, rfl, hb, ht, hk, hy, hv⟩
  have HB := Lib.hid hb
  have HT := Lib.hid ht
  have HK := Lib.hid hk
  have HY := Lib.hid hy
  have HV := Lib.hid hv
  clear hb ht hk hy hv HPL
  have HLE := Lib.hid (show L.length ≤ 1000 by have := HK.out.len; omega)
  go_wp2_with fail
  refine (tickets_any _ y v L now HT.out HLE.out HK.out.so).mono ?_
  rintro e w2 ⟨v2, r2, rfl, hT2, hR2, hF2⟩
  have HT2 := Lib.hid hT2
  have HR2 := Lib.hid hR2
  have HF2 := Lib.hid (show ∀ i, r2.ownBlock = some i → i ≠ y ∧ v2.ownBlock ≠ some i from fun i hi => ⟨(hF2 i hi).2.1, (hF2 i hi).2.2⟩)
  clear hT2 hR2 hF2
  have HK1 := Lib.hid (HK.out.left now)
  generalize leftC now L = L1 at *
  have HLE1 := Lib.hid (show L1.length ≤ 1000 by have := HK1.out.len; omega)
  obtain ⟨A2, c2, rfl, -, -⟩ := HR2.out.slice
  by_cases hln : later < now
  · go_wp2_with fail
    refine (tknown_any _).mono ?_
    rintro e w9 ⟨rfl, h9⟩
    have HEND := Lib.hid (below_ts HB.out (HT2.out.below h9) HY.out HV.out)
    clear h9
    go_wp2
    go_ret
    exact ⟨rfl, HEND.out⟩
  go_wp2_with fail
  refine (tickets_any _ y v2 L1 later HT2.out.tb HLE1.out HK1.out.so).mono ?_
  rintro e w3 ⟨v3, r3, rfl, hT3, hR3, hF3⟩
  have HR23 := Lib.hid (hT3.keepRow HR2.out HF2.out)
  have HF23 := Lib.hid (hT3.farRow HR2.out HF2.out)
  have HT3 := Lib.hid (HT2.out.trans hT3)
  have HR33 := Lib.hid hR3
  have HF33 := Lib.hid (show ∀ i, r3.ownBlock = some i → i ≠ y ∧ v3.ownBlock ≠ some i from fun i hi => ⟨(hF3 i hi).2.1, (hF3 i hi).2.2⟩)
  clear hT3 hR3 hF3 HT2 HR2 HF2
  have HLL := Lib.hid (le_left HK1.out.wf later)
  have HLA := Lib.hid (left_again HK1.out.wf later)
  have HK2 := Lib.hid (HK1.out.left later)
  generalize leftC later L1 = L2 at *
  have HLE2 := Lib.hid (show L2.length ≤ 1000 by have := HK2.out.len; omega)
  obtain ⟨A3, c3, rfl, -, -⟩ := HR33.out.slice
  obtain ⟨n, hn⟩ : ∃ n, n = L2.length := ⟨_, rfl⟩
  have HN := Lib.hid hn
  rw [← hn] at HR33 HF33 ⊢
  clear hn
  have hnb : n ≤ 1000 := by rw [HN.out]; exact HLE2.out
  go_wp2_with fail
  go_loopw [10, 11, 12] (fun i _ _ wr => ∃ (j : Nat) (v4 : Value), j ≤ n ∧ i = .int .i64 j ∧ Hid (TS y v w1 v4 L2 wr) ∧ Hid (EOwn elT wr (.slice A2 L1.length c2) L1) ∧ Hid (EOwn elT wr (.slice A3 n c3) L2) ∧ Hid (∀ i, (Value.slice A2 L1.length c2).ownBlock = some i → i ≠ y ∧ v4.ownBlock ≠ some i) ∧ Hid (∀ i, (Value.slice A3 n c3).ownBlock = some i → i ≠ y ∧ v4.ownBlock ≠ some i)) (fun i _ _ _ => n - (intOf i).toNat)
  case atStart => exact ⟨0, v3, Nat.zero_le _, rfl, HT3.out, HR23.out, HR33.out, HF23.out, HF33.out⟩
  case round =>
    rename World => wr
    clear HT3 HR23 HR33 HF23 HF33
    obtain ⟨j, v4, hj, rfl, HT4, HR24, HR34, HF24, HF34⟩ := hrel
    by_cases hlt : j < n
    · have hjl : j < L2.length := by rw [← HN.out]; exact hlt
      have hx : L2[j]? = some L2[j] := List.getElem?_eq_getElem hjl
      have HLV := Lib.hid (liv_left HK2.out.wf later HLA.out j hjl)
      have hsx := HK2.out.so _ (List.getElem_mem hjl)
      obtain ⟨g, rfl, a0, a1, a2, a3, a4, a5, a6, a7, a8, a9⟩ := HR34.out.ten hx
      have HX := Lib.hid hx
      clear hx
      have HCL := Lib.hid (live_any wr y L2[j].sec v4 L2 later HT4.out.tb HLE2.out HK2.out.so (by rw [HLA.out]; exact HK2.out.wf.ord) hsx.1)
      rw [HLA.out, HLV.out.1] at HCL
      obtain ⟨m, hm⟩ : ∃ m, livG L2 L2[j].sec = m := ⟨_, rfl⟩
      rw [hm] at HCL HLV
      clear hm hsx
      have hlt2 : (j : Int) < n := by omega
      go_wp2_with fail
      refine HCL.out.mono ?_
      rintro e w5 ⟨v5, rfl, hT5⟩
      have HR25 := Lib.hid (hT5.keepRow HR24.out HF24.out)
      have HF25 := Lib.hid (hT5.farRow HR24.out HF24.out)
      have HR35 := Lib.hid (hT5.keepRow HR34.out HF34.out)
      have HF35 := Lib.hid (hT5.farRow HR34.out HF34.out)
      have HT5 := Lib.hid (HT4.out.trans hT5)
      clear hT5 HT4 HR24 HR34 HF24 HF34 a0 a1 a2 a3 a4 a5 a6 a7 a8 a9 HCL
      have hm1 : ¬ m.til < later := by have := HLV.out.2.1; omega
      have hm2 : ¬ (L2[j]).g.til < later := by have := HLV.out.2.2.1; omega
      obtain ⟨m0, m1, m2, m3, m4, m5, m6, m7⟩ := m
      simp only at hm1
      have hal : Below w5.heap.size w5 (w5.alloc (.cells #[.int .i64 m0, .int .i64 m1, .int .i64 m2, .int .i64 m3, .int .i64 m4, .int .i64 m5, .bool m6, .int .i64 m7] 30)) := (Below.refl _ _).alloc (Nat.le_refl _) _
      have HG6 := Lib.hid (Blk.new w5 30 #[.int .i64 m0, .int .i64 m1, .int .i64 m2, .int .i64 m3, .int .i64 m4, .int .i64 m5, .bool m6, .int .i64 m7])
      have HT6 := Lib.hid (HT5.out.below hal)
      have HR26 := Lib.hid (HR25.out.below hal)
      have HR36 := Lib.hid (HR35.out.below hal)
      clear hal HT5 HR25 HR35 HLV
      go_upto_region 10 with fail
      generalize (w5.alloc (.cells #[.int .i64 m0, .int .i64 m1, .int .i64 m2, .int .i64 m3, .int .i64 m4, .int .i64 m5, .bool m6, .int .i64 m7] 30)) = w6 at *
      generalize w5.heap.size = gb at *
      obtain ⟨g', eg, a0, a1, a2, a3, a4, a5, a6, a7, a8, a9⟩ := HR36.out.ten HX.out
      obtain rfl : g = g' := by simpa using eg
      clear eg HX
      generalize L2[j] = x at *
      obtain ⟨xs, xp, ⟨g0, g1, g2, g3, g4, g5, g6, g7⟩⟩ := x
      simp only at a0 a1 a2 a3 a4 a5 a6 a7 a8 a9 hm2
      have q0 := HG6.out.cell 0
      have q1 := HG6.out.cell 1
      have q2 := HG6.out.cell 2
      have q3 := HG6.out.cell 3
      have q4 := HG6.out.cell 4
      have q5 := HG6.out.cell 5
      have q6 := HG6.out.cell 6
      have q7 := HG6.out.cell 7
      simp only [List.getElem?_toArray, List.getElem?_cons_zero, List.getElem?_cons_succ] at q0 q1 q2 q3 q4 q5 q6 q7
      go_wp2
      clear a0 a1 a2 a3 a4 a5 a6 a7 a8 a9 q0 q1 q2 q3 q4 q5 q6 q7
      go_roundw
      case rel => exact ⟨j + 1, v5, by omega, by go_num, HT6, HR26, HR36, HF25, HF35⟩
      case measure => simp [intOf]; omega
    · obtain rfl : j = n := by omega
      go_wp2_with fail
      refine (left_any _ _ L1 later (ERd.of_own elT_ok HR24.out) HLE1.out HK1.out.so HK1.out.wf).mono ?_
      rintro e wa ⟨ra, rfl, hFa⟩
      rw [HLL.out] at hFa
      have HTa := Lib.hid (HT4.out.below hFa.bel)
      have HQa := Lib.hid (HR34.out.below hFa.bel)
      have HPa := Lib.hid hFa.own
      clear hFa HT4 HR24 HR34
      obtain ⟨Aa, ca, rfl, -, -⟩ := HPa.out.slice
      rw [← HN.out] at HPa ⊢
      have HSM := Lib.hid (rsameT_any wa _ _ L2 (ERd.of_own elT_ok HQa.out) (ERd.of_own elT_ok HPa.out) (by have := HLE2.out; omega))
      go_wp2_with fail
      refine HSM.out.mono ?_
      rintro e wb ⟨rfl, qb, hqb⟩
      have HTb := Lib.hid (show TS y v w1 v4 L2 wb by subst hqb; exact HTa.out.below (below_drawn (Below.refl _ _) qb))
      clear hqb HTa HQa HPa HSM
      go_wp2_with fail
      refine (tknown_any _).mono ?_
      rintro e w9 ⟨rfl, h9⟩
      have HEND := Lib.hid (below_ts HB.out (HTb.out.below h9) HY.out HV.out)
      clear h9
      go_wp2
      go_ret
      exact ⟨rfl, HEND.out⟩
theorem walk (a : Option Addr) (n c : Nat) (now later : Int) (w : World) (h : IsSl w 12 okOp a n c) (hn : -9223372036854775808 ≤ now ∧ now ≤ 9223372036854775807) (hl : -9223372036854775808 ≤ later ∧ later ≤ 9223372036854775807) :
    Calls Try.prog 7 #[.slice a n c, .int .i64 now, .int .i64 later] w fun e w' => e = .returned (.bool true) ∧ Below w.heap.size w w' := by
  obtain ⟨O, h1, h2, h3⟩ := ops_of h
  exact walkN _ O now later w h1 h3
theorem own : ownKnob Try.prog.godebug = none := by kernel_rfl
theorem laidOut : laidOutB Try.prog = true := by kernel_rfl
set_option maxRecDepth 100000 in
theorem lifted (os : Os) (started : os.Started) (H : Type) (enc : TypeId × Value → H) :
    ReturnsInHanded {} Try.checked os 7 .any (Rows.tokenEndsSpec.pre6 enc Try.prog Try.f7 Rows.tokenEndsRow.domain false) (Rows.tokenEndsSpec.post enc Try.prog Try.f7 false true false false) := by
  refine returnsInHanded_of_change_sized (C := Try.checked) own started (by kernel_rfl) Try.func7
    (ChangeSpec.witness6 (enc := enc) (C := Try.checked) false ⟨#[], #[.slice none 0 0, .int .i64 0, .int .i64 0], []⟩ 8 (by kernel_rfl) (by kernel_rfl) (by kernel_rfl) (by kernel_rfl)) ?_
  intro W base args ds gs before hval0 hW hcnd hsz0 _
  have hval : ∀ (j : Nat) t v, Try.f7.params[j]? = some t → args[j]? = some v → Value.okWide Try.prog W .any base t v := hval0
  have hW' := hW
  obtain ⟨p, q, hA0, hV, rfl, hfz, hnd⟩ := hW
  have hA : DataW.TrodAll enc Try.prog W 0 (fun _ => true) true Try.f7.params.toList args.toList ds p := hA0
  rw [Try.params7] at hA hval
  obtain ⟨v0, vs0, d0, ds0, p0, q0, hargs, rfl, rfl, h0, r0⟩ := trodAll_cons hA
  obtain ⟨v1, vs1, d1, ds1, p1, q1, rfl, rfl, rfl, h1, r1⟩ := trodAll_cons r0
  obtain ⟨v2, vs2, d2, ds2, p2, q2, rfl, rfl, rfl, h2, r2⟩ := trodAll_cons r1
  obtain ⟨rfl, rfl, rfl⟩ := trodAll_nil r2
  obtain rfl : args = #[v0, v1, v2] := by cases args; simp_all
  obtain ⟨rfl, rfl⟩ := trodVars_none hV
  have k0 := h0
  have lt0 : ∀ x ∈ p0, x.block < W.heap.size := by obtain ⟨m, hm⟩ := k0; exact DataW.trod_lt m _ _ _ hm
  obtain ⟨a0, len0, cap0, rfl⟩ := okWide_slice Try.underlying22 (hval 0 22 v0 rfl rfl)
  have w0 : IsSl W 12 (okOpW W) a0 len0 cap0 := by
    obtain ⟨fuel, hf⟩ := h0
    exact isSl_of Try.underlying22 (by kernel_rfl) okOpP hf (fun n hn => of_decide_eq_true (List.all_eq_true.1 hsz0 n (DataW.weights_mem_each (j := 0) (t := 22) (d := d0) rfl rfl n hn)))
  have k1 := h1
  have lt1 : ∀ x ∈ p1, x.block < W.heap.size := by obtain ⟨m, hm⟩ := k1; exact DataW.trod_lt m _ _ _ hm
  obtain ⟨a1, rfl, rfl, rfl, w1⟩ := open_int Try.underlying3 (hval 1 3 v1 rfl rfl) h1
  have k2 := h2
  have lt2 : ∀ x ∈ p2, x.block < W.heap.size := by obtain ⟨m, hm⟩ := k2; exact DataW.trod_lt m _ _ _ hm
  obtain ⟨a2, rfl, rfl, rfl, w2⟩ := open_int Try.underlying3 (hval 2 3 v2 rfl rfl) h2
  clear hA0 hval0
  refine (walk a0 len0 cap0 a1 a2 W w0 (bounds_i64 w1) (bounds_i64 w2)).mono fun e W' ⟨he, bel⟩ => ?_
  subst he
  exact ⟨_, rfl, _, _, _, [], _, [], hW', trodAll_mk1 (shut_bool Try.underlying4 _), (trodAll_cons_mk (Below.trod laidOut (by kernel_rfl) (of_decide_eq_true (by kernel_rfl)) k0 bel lt0) (trodAll_cons_mk (Below.trod laidOut (by kernel_rfl) (of_decide_eq_true (by kernel_rfl)) k1 bel lt1) (trodAll_cons_mk (Below.trod laidOut (by kernel_rfl) (of_decide_eq_true (by kernel_rfl)) k2 bel lt2) trodAll_mk0))), rfl, bel.frame _, fun h => by cases h⟩
theorem over : Rows.tokenEndsRow.holds Try.pinned (OpenSpec.ofChange Rows.tokenEndsSpec) :=
  OpenClaim.holds_of_wide 7 Try.f7 rfl rfl rfl rfl rfl rfl rfl ⟨rfl, rfl, rfl, rfl, rfl⟩ rfl rfl rfl rfl rfl (by kernel_rfl) Try.func7 (by kernel_rfl)
    (of_decide_eq_true (by kernel_rfl)) (by unfold Func.isWrapper; first | (rw [if_pos (by decide +kernel)]; kernel_rfl) | (rw [if_neg (by decide +kernel)]; exact ⟨rfl, rfl⟩))
    (fun os started H enc _ => lifted os started H enc)
/-- The statement. -/
theorem proved : Rows.TokenEndsSaid := over
#print axioms proved
end Go.Proofs.Yteepimmnajnhfaa.tokenEnds
