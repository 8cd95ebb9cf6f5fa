/- TokenRevokes: (P16.6) behind a Revoke neither a ticket nor any that was made of it is there; all others are, as they were. Conditions: none. -/
import Derived.Test.YteepimmnajnhfaaTo23
namespace Go.Proofs.Yteepimmnajnhfaa.tokenRevokes
set_option linter.unusedVariables false
set_option linter.unusedSimpArgs false
open Go.ChangeShapes Go.WideShapes Go.ChangeAt Go.RowKit
open Go.ChangeMaps (open_string shut_string)
set_option maxRecDepth 100000 in
set_option maxHeartbeats 8000000 in
theorem walkN (u : Value) (O : List Ot) (s : Nat) (now : Int) (w : World) (h : ERd elO w u O) (hO : ∀ o ∈ O, o.I) (hs : s ≤ 18446744073709551615) :
    Calls Try.prog 6 #[u, .int .u64 s, .int .i64 now] w fun e w' => e = .returned (.bool true) ∧ Below w.heap.size w w' := by
  have HPL := Lib.hid (played_any w u O h hO)
  clear h hO
  go_enter Try.func6, Try.ntmps6
  go_wp2_with fail
  refine HPL.out.mono ?_
  rintro e w1 ⟨y, v, L, rfl, hb, ht, hk, hy, hv⟩
  have HB := Lib.hid hb
  have HT := Lib.hid ht
  have HK := Lib.hid hk
  have HY := Lib.hid hy
  have HV := Lib.hid hv
  clear hb ht hk hy hv HPL
  have HLE := Lib.hid (show L.length ≤ 1000 by have := HK.out.len; omega)
  go_wp2_with fail
  refine (tickets_any _ y v L now HT.out HLE.out HK.out.so).mono ?_
  rintro e w2 ⟨v2, r2, rfl, hT2, hR2, hF2⟩
  have HT2 := Lib.hid hT2
  have HR2 := Lib.hid hR2
  have HF2 := Lib.hid (show ∀ i, r2.ownBlock = some i → i ≠ y ∧ v2.ownBlock ≠ some i from fun i hi => ⟨(hF2 i hi).2.1, (hF2 i hi).2.2⟩)
  clear hT2 hR2 hF2
  have HLA := Lib.hid (left_again HK.out.wf now)
  have HLD := Lib.hid (left_drop HK.out.wf now fun k => decide (k.sec = s))
  have HK1 := Lib.hid (HK.out.left now)
  generalize leftC now L = L1 at *
  have HLE1 := Lib.hid (show L1.length ≤ 1000 by have := HK1.out.len; omega)
  go_wp2_with fail
  refine (revoke_any _ y s v2 L1 now HT2.out.tb HLE1.out HK1.out.so hs).mono ?_
  rintro e w3 ⟨v3, rfl, hT3⟩
  rw [HLA.out] at hT3 ⊢
  have HT3 := Lib.hid (HT2.out.trans hT3)
  have HR3 := Lib.hid (hT3.keepRow HR2.out HF2.out)
  have HF3 := Lib.hid (hT3.farRow HR2.out HF2.out)
  clear hT3 HR2 HF2
  obtain ⟨A2, c2, rfl, -, -⟩ := HR3.out.slice
  have HFI := Lib.hid (rfindT_any w3 _ L1 s (ERd.of_own elT_ok HR3.out) (by have := HLE1.out; omega) hs)
  cases hfb : rfB L1 s with
  | false =>
    have HE := Lib.hid (show revE L1 s = 21 from if_pos (by have h9 := hfb; rw [rfB] at h9; simpa using h9))
    have HD := Lib.hid (show revL L1 s = L1 from if_pos (by have h9 := hfb; rw [rfB] at h9; simpa using h9))
    have HZ := Lib.hid (rfB_false L1 s hfb)
    rw [hfb, HZ.out] at HFI
    simp only [Tk.V, Tk.zero, Gt.zero] at HFI
    rw [HE.out]
    rw [HD.out] at HT3
    clear hfb HE HD HZ
    go_wp2_with fail
    refine HFI.out.mono ?_
    rintro e w4 ⟨rfl, hb4⟩
    have hal : Below w4.heap.size w4 (w4.alloc (.cells #[.int .u64 0, .int .u64 0, .int .i64 0, .int .i64 0, .int .i64 0, .int .i64 0, .int .i64 0, .int .i64 0, .bool false, .int .i64 0] 35)) := (Below.refl _ _).alloc (Nat.le_refl _) _
    have HT4 := Lib.hid ((HT3.out.below hb4).below hal)
    have HR4 := Lib.hid ((HR3.out.below hb4).below hal)
    clear hb4 hal HT3 HR3 HFI
    go_upto_region 6 with fail
    generalize (w4.alloc (.cells #[.int .u64 0, .int .u64 0, .int .i64 0, .int .i64 0, .int .i64 0, .int .i64 0, .int .i64 0, .int .i64 0, .bool false, .int .i64 0] 35)) = w5 at *
    go_wp2_with fail
    refine (tickets_any _ y v3 L1 now HT4.out.tb HLE1.out HK1.out.so).mono ?_
    rintro e w6 ⟨v6, r6, rfl, hT6, hR6, hF6⟩
    rw [HLA.out] at hT6 hR6
    have HT6 := Lib.hid (HT4.out.trans hT6)
    have HR6 := Lib.hid (hT6.keepRow HR4.out HF3.out)
    have HQ6 := Lib.hid hR6
    clear hT6 hR6 hF6 HT4 HR4
    obtain ⟨A6, c6, rfl, -, -⟩ := HQ6.out.slice
    go_wp2_with fail
    refine (rsameT_any _ _ _ L1 (ERd.of_own elT_ok HQ6.out) (ERd.of_own elT_ok HR6.out) (by have := HLE1.out; omega)).mono ?_
    rintro e w7 ⟨rfl, q7, hq7⟩
    have HT7 := Lib.hid (show TS y v w1 v6 L1 w7 by subst hq7; exact HT6.out.below (below_drawn (Below.refl _ _) q7))
    clear hq7 HT6 HR6 HQ6
    go_wp2_with fail
    refine (tknown_any _).mono ?_
    rintro e w9 ⟨rfl, h9⟩
    have HEND := Lib.hid (below_ts HB.out (HT7.out.below h9) HY.out HV.out)
    clear h9
    go_wp2
    go_ret
    exact ⟨rfl, HEND.out⟩
  | true =>
    have HE := Lib.hid (show revE L1 s = 0 from if_neg (by have h9 := hfb; rw [rfB] at h9; simpa using h9))
    have HD := Lib.hid (show revL L1 s = dropT (fun k => decide (k.sec = s)) L1 from if_neg (by have h9 := hfb; rw [rfB] at h9; simpa using h9))
    have HWO := Lib.hid (wo_drop HK1.out.wf s)
    have HRG := Lib.hid (rev_gone HK1.out.wf s hfb)
    have HK3 := Lib.hid (HK1.out.drop fun k => decide (k.sec = s))
    rw [hfb] at HFI
    rw [HE.out]
    rw [HD.out] at HT3
    clear hfb HE HD
    generalize dropT (fun k => decide (k.sec = s)) L1 = D at *
    have HLE3 := Lib.hid (show D.length ≤ 1000 by have := HK3.out.len; omega)
    obtain ⟨xq, hxq⟩ : ∃ xq, rfG L1 s = xq := ⟨_, rfl⟩
    rw [hxq] at HFI
    clear hxq
    obtain ⟨xs, xp, ⟨g0, g1, g2, g3, g4, g5, g6, g7⟩⟩ := xq
    simp only [Tk.V] at HFI
    go_wp2_with fail
    refine HFI.out.mono ?_
    rintro e w4 ⟨rfl, hb4⟩
    have hal : Below w4.heap.size w4 (w4.alloc (.cells #[.int .u64 xs, .int .u64 xp, .int .i64 g0, .int .i64 g1, .int .i64 g2, .int .i64 g3, .int .i64 g4, .int .i64 g5, .bool g6, .int .i64 g7] 35)) := (Below.refl _ _).alloc (Nat.le_refl _) _
    have HT4 := Lib.hid ((HT3.out.below hb4).below hal)
    have HR4 := Lib.hid ((HR3.out.below hb4).below hal)
    clear hb4 hal HT3 HR3 HFI
    go_upto_region 7 with fail
    generalize (w4.alloc (.cells #[.int .u64 xs, .int .u64 xp, .int .i64 g0, .int .i64 g1, .int .i64 g2, .int .i64 g3, .int .i64 g4, .int .i64 g5, .bool g6, .int .i64 g7] 35)) = w5 at *
    have HLV := Lib.hid (live_any w5 y s v3 D now HT4.out.tb HLE3.out HK3.out.so (by rw [HLD.out]; exact HK3.out.wf.ord) hs)
    rw [HLD.out, show livB D s = false from HRG.out] at HLV
    obtain ⟨lg, hlg⟩ : ∃ lg, livG D s = lg := ⟨_, rfl⟩
    rw [hlg] at HLV
    clear hlg
    obtain ⟨m0, m1, m2, m3, m4, m5, m6, m7⟩ := lg
    go_wp2_with fail
    refine HLV.out.mono ?_
    rintro e w6 ⟨v6, rfl, hT6⟩
    have HR6 := Lib.hid (hT6.keepRow HR4.out HF3.out)
    have HF6 := Lib.hid (hT6.farRow HR4.out HF3.out)
    have HT6 := Lib.hid (HT4.out.trans hT6)
    clear hT6 HT4 HR4 HLV
    have hal : Below w6.heap.size w6 (w6.alloc (.cells #[.int .i64 m0, .int .i64 m1, .int .i64 m2, .int .i64 m3, .int .i64 m4, .int .i64 m5, .bool m6, .int .i64 m7] 30)) := (Below.refl _ _).alloc (Nat.le_refl _) _
    have HT7 := Lib.hid (HT6.out.below hal)
    have HR7 := Lib.hid (HR6.out.below hal)
    clear hal HT6 HR6
    go_upto_region 8 with fail
    generalize (w6.alloc (.cells #[.int .i64 m0, .int .i64 m1, .int .i64 m2, .int .i64 m3, .int .i64 m4, .int .i64 m5, .bool m6, .int .i64 m7] 30)) = w7 at *
    go_wp2_with fail
    refine (tickets_any _ y v6 D now HT7.out.tb HLE3.out HK3.out.so).mono ?_
    rintro e w8 ⟨v8, r8, rfl, hT8, hR8, -⟩
    rw [HLD.out] at hT8 hR8
    have HR8 := Lib.hid (hT8.keepRow HR7.out HF6.out)
    have HT8 := Lib.hid (HT7.out.trans hT8)
    have HQ8 := Lib.hid hR8
    clear hT8 hR8 HT7 HR7
    obtain ⟨A8, c8, rfl, -, -⟩ := HQ8.out.slice
    go_wp2_with fail
    refine (without_any _ _ L1 s (ERd.of_own elT_ok HR8.out) HLE1.out HK1.out.so hs).mono ?_
    rintro e wa ⟨ra, rfl, hFa⟩
    rw [HWO.out] at hFa
    have HTa := Lib.hid (HT8.out.below hFa.bel)
    have HQa := Lib.hid (HQ8.out.below hFa.bel)
    have HPa := Lib.hid hFa.own
    clear hFa HT8 HR8 HQ8
    obtain ⟨Aa, ca, rfl, -, -⟩ := HPa.out.slice
    go_wp2_with fail
    refine (rsameT_any _ _ _ D (ERd.of_own elT_ok HQa.out) (ERd.of_own elT_ok HPa.out) (by have := HLE3.out; omega)).mono ?_
    rintro e wb ⟨rfl, qb, hqb⟩
    have HTb := Lib.hid (show TS y v w1 v8 D wb by subst hqb; exact HTa.out.below (below_drawn (Below.refl _ _) qb))
    clear hqb HTa HQa HPa
    go_wp2_with fail
    refine (tknown_any _).mono ?_
    rintro e w9 ⟨rfl, h9⟩
    have HEND := Lib.hid (below_ts HB.out (HTb.out.below h9) HY.out HV.out)
    clear h9
    go_wp2
    go_ret
    exact ⟨rfl, HEND.out⟩
theorem walk (a : Option Addr) (n c : Nat) (s now : Int) (w : World) (h : IsSl w 12 okOp a n c) (hs : 0 ≤ s ∧ s ≤ 18446744073709551615) (hn : -9223372036854775808 ≤ now ∧ now ≤ 9223372036854775807) :
    Calls Try.prog 6 #[.slice a n c, .int .u64 s, .int .i64 now] w fun e w' => e = .returned (.bool true) ∧ Below w.heap.size w w' := by
  obtain ⟨m, rfl⟩ := Int.eq_ofNat_of_zero_le hs.1
  obtain ⟨O, h1, h2, h3⟩ := ops_of h
  exact walkN _ O m now w h1 h3 (by omega)
theorem own : ownKnob Try.prog.godebug = none := by kernel_rfl
theorem laidOut : laidOutB Try.prog = true := by kernel_rfl
set_option maxRecDepth 100000 in
theorem lifted (os : Os) (started : os.Started) (H : Type) (enc : TypeId × Value → H) :
    ReturnsInHanded {} Try.checked os 6 .any (Rows.tokenRevokesSpec.pre6 enc Try.prog Try.f6 Rows.tokenRevokesRow.domain false) (Rows.tokenRevokesSpec.post enc Try.prog Try.f6 false true false false) := by
  refine returnsInHanded_of_change_sized (C := Try.checked) own started (by kernel_rfl) Try.func6
    (ChangeSpec.witness6 (enc := enc) (C := Try.checked) false ⟨#[], #[.slice none 0 0, .int .u64 0, .int .i64 0], []⟩ 8 (by kernel_rfl) (by kernel_rfl) (by kernel_rfl) (by kernel_rfl)) ?_
  intro W base args ds gs before hval0 hW hcnd hsz0 _
  have hval : ∀ (j : Nat) t v, Try.f6.params[j]? = some t → args[j]? = some v → Value.okWide Try.prog W .any base t v := hval0
  have hW' := hW
  obtain ⟨p, q, hA0, hV, rfl, hfz, hnd⟩ := hW
  have hA : DataW.TrodAll enc Try.prog W 0 (fun _ => true) true Try.f6.params.toList args.toList ds p := hA0
  rw [Try.params6] at hA hval
  obtain ⟨v0, vs0, d0, ds0, p0, q0, hargs, rfl, rfl, h0, r0⟩ := trodAll_cons hA
  obtain ⟨v1, vs1, d1, ds1, p1, q1, rfl, rfl, rfl, h1, r1⟩ := trodAll_cons r0
  obtain ⟨v2, vs2, d2, ds2, p2, q2, rfl, rfl, rfl, h2, r2⟩ := trodAll_cons r1
  obtain ⟨rfl, rfl, rfl⟩ := trodAll_nil r2
  obtain rfl : args = #[v0, v1, v2] := by cases args; simp_all
  obtain ⟨rfl, rfl⟩ := trodVars_none hV
  have k0 := h0
  have lt0 : ∀ x ∈ p0, x.block < W.heap.size := by obtain ⟨m, hm⟩ := k0; exact DataW.trod_lt m _ _ _ hm
  obtain ⟨a0, len0, cap0, rfl⟩ := okWide_slice Try.underlying22 (hval 0 22 v0 rfl rfl)
  have w0 : IsSl W 12 (okOpW W) a0 len0 cap0 := by
    obtain ⟨fuel, hf⟩ := h0
    exact isSl_of Try.underlying22 (by kernel_rfl) okOpP hf (fun n hn => of_decide_eq_true (List.all_eq_true.1 hsz0 n (DataW.weights_mem_each (j := 0) (t := 22) (d := d0) rfl rfl n hn)))
  have k1 := h1
  have lt1 : ∀ x ∈ p1, x.block < W.heap.size := by obtain ⟨m, hm⟩ := k1; exact DataW.trod_lt m _ _ _ hm
  obtain ⟨a1, rfl, rfl, rfl, w1⟩ := open_int Try.underlying26 (hval 1 26 v1 rfl rfl) h1
  have k2 := h2
  have lt2 : ∀ x ∈ p2, x.block < W.heap.size := by obtain ⟨m, hm⟩ := k2; exact DataW.trod_lt m _ _ _ hm
  obtain ⟨a2, rfl, rfl, rfl, w2⟩ := open_int Try.underlying3 (hval 2 3 v2 rfl rfl) h2
  clear hA0 hval0
  refine (walk a0 len0 cap0 a1 a2 W w0 (bounds_u64 w1) (bounds_i64 w2)).mono fun e W' ⟨he, bel⟩ => ?_
  subst he
  exact ⟨_, rfl, _, _, _, [], _, [], hW', trodAll_mk1 (shut_bool Try.underlying4 _), (trodAll_cons_mk (Below.trod laidOut (by kernel_rfl) (of_decide_eq_true (by kernel_rfl)) k0 bel lt0) (trodAll_cons_mk (Below.trod laidOut (by kernel_rfl) (of_decide_eq_true (by kernel_rfl)) k1 bel lt1) (trodAll_cons_mk (Below.trod laidOut (by kernel_rfl) (of_decide_eq_true (by kernel_rfl)) k2 bel lt2) trodAll_mk0))), rfl, bel.frame _, fun h => by cases h⟩
theorem over : Rows.tokenRevokesRow.holds Try.pinned (OpenSpec.ofChange Rows.tokenRevokesSpec) :=
  OpenClaim.holds_of_wide 6 Try.f6 rfl rfl rfl rfl rfl rfl rfl ⟨rfl, rfl, rfl, rfl, rfl⟩ rfl rfl rfl rfl rfl (by kernel_rfl) Try.func6 (by kernel_rfl)
    (of_decide_eq_true (by kernel_rfl)) (by unfold Func.isWrapper; first | (rw [if_pos (by decide +kernel)]; kernel_rfl) | (rw [if_neg (by decide +kernel)]; exact ⟨rfl, rfl⟩))
    (fun os started H enc _ => lifted os started H enc)
/-- The statement. -/
theorem proved : Rows.TokenRevokesSaid := over
#print axioms proved
end Go.Proofs.Yteepimmnajnhfaa.tokenRevokes
