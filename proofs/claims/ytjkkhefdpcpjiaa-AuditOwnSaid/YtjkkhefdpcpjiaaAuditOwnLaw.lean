/- AuditOwn: (P17.1) any page of a user's own events has what the document says. Conditions: none. -/
import Derived.Test.YtjkkhefdpcpjiaaAuF
import Derived.Test.YtjkkhefdpcpjiaaAuH
namespace Go.Proofs.Ytjkkhefdpcpjiaa.auditOwn
set_option linter.unusedVariables false
set_option linter.unusedSimpArgs false
open Go.ChangeShapes Go.WideShapes Go.ChangeAt Go.RowKit
open Go.ChangeMaps (open_string shut_string)
set_option maxRecDepth 100000 in
set_option maxHeartbeats 8000000 in
theorem walkN (v : Value) (L : List Ev) (u f m : Int) (w : World) (h : ERd elE w v L) (hf : -9223372036854775808 ≤ f ∧ f ≤ 9223372036854775807) (hm : -9223372036854775808 ≤ m ∧ m ≤ 9223372036854775807) :
    Calls Try.prog 4 #[v, .int .i64 u, .int .i64 f, .int .i64 m] w fun e w' => e = .returned (.bool true) ∧ Below w.heap.size w w' := by
  obtain ⟨A1, c1, rfl, -, -⟩ := h.shape
  have HL := Lib.hid h
  have HF := Lib.hid hf
  have HM := Lib.hid hm
  clear h hf hm
  have HFI := Lib.hid (filled_any w _ L HL.out)
  obtain ⟨n, hn⟩ : ∃ n, n = L.length := ⟨_, rfl⟩
  rw [← hn] at HL HFI ⊢
  have HN := Lib.hid hn; clear hn
  by_cases h2 : 200 < n
  · have h2' : (200 : Int) < (n : Int) := by omega
    clear h2
    go_enter Try.func4, Try.ntmps4
    go_wp2_with fail
    refine (aknown_any _).mono ?_
    rintro e w1 ⟨rfl, hb⟩
    go_wp2
    go_ret
    exact ⟨rfl, hb⟩
  · have h2' : ¬ (200 : Int) < (n : Int) := by omega
    have HT := Lib.hid (show L.take 200 = L from List.take_of_length_le (by rw [← HN.out]; omega))
    rw [HT.out] at HFI
    have HLL := Lib.hid (show L.length ≤ 1000000 by rw [← HN.out]; omega)
    clear h2
    go_enter Try.func4, Try.ntmps4
    go_wp2_with fail
    refine HFI.out.mono ?_
    rintro e w1 ⟨y, v1, rfl, hb, hT, hy, hv⟩
    have HB1 := Lib.hid hb
    have HT1 := Lib.hid hT
    clear hb hT hy hv HFI
    go_wp2_with fail
    refine (aown_any w1 y v1 L 0 0 u f m HT1.out HLL.out HF.out HM.out).mono ?_
    rintro e w2 ⟨a, rfl, hO, hFA, hb⟩
    rw [List.drop_zero] at hO
    have HB2 := Lib.hid (below_trans HB1.out hb)
    have HT2 := Lib.hid (HT1.out.below hb)
    have HO2 := Lib.hid hO
    clear hO hFA hb HB1 HT1
    obtain ⟨A2, c2, rfl, -, -⟩ := HO2.out.slice
    go_wp2_with fail
    refine (rown_any w2 _ L u (HL.out.below HB2.out) HLL.out).mono ?_
    rintro e w3 ⟨b, rfl, hFE⟩
    have HB3 := Lib.hid (below_trans HB2.out hFE.bel)
    have HT3 := Lib.hid (HT2.out.below hFE.bel)
    have HO3 := Lib.hid (HO2.out.below hFE.bel)
    have HR3 := Lib.hid (ERd.of_own elE_ok hFE.own)
    clear hFE HB2 HT2 HO2
    have HOL := Lib.hid (show (owns u L).length ≤ 1000000 by have := owns_len u L; have := HLL.out; omega)
    obtain ⟨A3, c3, rfl, -, -⟩ := HR3.out.shape
    go_wp2_with fail
    refine (rpage_any w3 _ (owns u L) f m HR3.out HOL.out HF.out HM.out).mono ?_
    rintro e w4 ⟨c, rfl, hFE⟩
    have HB4 := Lib.hid (below_trans HB3.out hFE.bel)
    have HT4 := Lib.hid (HT3.out.below hFE.bel)
    have HO4 := Lib.hid (HO3.out.below hFE.bel)
    have HR4 := Lib.hid (ERd.of_own elE_ok hFE.own)
    clear hFE HB3 HT3 HO3 HR3
    have HPL := Lib.hid (show (pageI (owns u L) f m).length ≤ 1000000 by
      unfold pageI
      split
      · simp
      · rw [pageL_len]; have := HOL.out; omega)
    obtain ⟨A4, c4, rfl, -, -⟩ := HR4.out.shape
    go_wp2_with fail
    refine (rsameE_any w4 _ _ _ (ERd.of_own elE_ok HO4.out) HR4.out HPL.out).mono ?_
    rintro e w5 ⟨rfl, q, rfl⟩
    have HB5 := Lib.hid (below_drawn HB4.out q)
    have HT5 := Lib.hid (HT4.out.drewN q)
    clear HB4 HT4 HO4 HR4
    generalize w4.drewN q = w5 at *
    have HLE := Lib.hid (alen_any w5 y v1 L 0 0 HT5.out)
    rw [Nat.sub_zero, ← HN.out] at HLE
    go_wp2_with fail
    refine HLE.out.mono ?_
    rintro e w6 ⟨rfl, q, rfl⟩
    have HB6 := Lib.hid (below_drawn HB5.out q)
    clear HB5 HT5 HLE
    generalize w5.drewN q = w6 at *
    go_wp2_with fail
    refine (aknown_any _).mono ?_
    rintro e w7 ⟨rfl, hb⟩
    have HB7 := Lib.hid (below_trans HB6.out hb)
    clear hb
    go_wp2
    go_ret
    exact ⟨rfl, HB7.out⟩
theorem walk (a : Option Addr) (n c : Nat) (u f m : Int) (w : World) (h : IsSl w 4 okEv a n c) (hu : -9223372036854775808 ≤ u ∧ u ≤ 9223372036854775807) (hf : -9223372036854775808 ≤ f ∧ f ≤ 9223372036854775807) (hm : -9223372036854775808 ≤ m ∧ m ≤ 9223372036854775807) :
    Calls Try.prog 4 #[.slice a n c, .int .i64 u, .int .i64 f, .int .i64 m] w fun e w' => e = .returned (.bool true) ∧ Below w.heap.size w w' := by
  obtain ⟨L, h1, h2, h3⟩ := evs_of h
  exact walkN _ L u f m w h1 hf hm
theorem own : ownKnob Try.prog.godebug = none := by kernel_rfl
theorem laidOut : laidOutB Try.prog = true := by kernel_rfl
set_option maxRecDepth 100000 in
theorem lifted (os : Os) (started : os.Started) (H : Type) (enc : TypeId × Value → H) :
    ReturnsInHanded {} Try.checked os 4 .any (Rows.auditOwnSpec.pre6 enc Try.prog Try.f4 Rows.auditOwnRow.domain false) (Rows.auditOwnSpec.post enc Try.prog Try.f4 false true false false) := by
  refine returnsInHanded_of_change_sized (C := Try.checked) own started (by kernel_rfl) Try.func4
    (ChangeSpec.witness6 (enc := enc) (C := Try.checked) false ⟨#[], #[.slice none 0 0, .int .i64 0, .int .i64 0, .int .i64 0], []⟩ 8 (by kernel_rfl) (by kernel_rfl) (by kernel_rfl) (by kernel_rfl)) ?_
  intro W base args ds gs before hval0 hW hcnd hsz0 _
  have hval : ∀ (j : Nat) t v, Try.f4.params[j]? = some t → args[j]? = some v → Value.okWide Try.prog W .any base t v := hval0
  have hW' := hW
  obtain ⟨p, q, hA0, hV, rfl, hfz, hnd⟩ := hW
  have hA : DataW.TrodAll enc Try.prog W 0 (fun _ => true) true Try.f4.params.toList args.toList ds p := hA0
  rw [Try.params4] at hA hval
  obtain ⟨v0, vs0, d0, ds0, p0, q0, hargs, rfl, rfl, h0, r0⟩ := trodAll_cons hA
  obtain ⟨v1, vs1, d1, ds1, p1, q1, rfl, rfl, rfl, h1, r1⟩ := trodAll_cons r0
  obtain ⟨v2, vs2, d2, ds2, p2, q2, rfl, rfl, rfl, h2, r2⟩ := trodAll_cons r1
  obtain ⟨v3, vs3, d3, ds3, p3, q3, rfl, rfl, rfl, h3, r3⟩ := trodAll_cons r2
  obtain ⟨rfl, rfl, rfl⟩ := trodAll_nil r3
  obtain rfl : args = #[v0, v1, v2, v3] := by cases args; simp_all
  obtain ⟨rfl, rfl⟩ := trodVars_none hV
  have k0 := h0
  have lt0 : ∀ x ∈ p0, x.block < W.heap.size := by obtain ⟨m, hm⟩ := k0; exact DataW.trod_lt m _ _ _ hm
  obtain ⟨a0, len0, cap0, rfl⟩ := okWide_slice Try.underlying25 (hval 0 25 v0 rfl rfl)
  have w0 : IsSl W 4 (okEvW W) a0 len0 cap0 := by
    obtain ⟨fuel, hf⟩ := h0
    exact isSl_of Try.underlying25 (by kernel_rfl) okEvP hf (fun n hn => of_decide_eq_true (List.all_eq_true.1 hsz0 n (DataW.weights_mem_each (j := 0) (t := 25) (d := d0) rfl rfl n hn)))
  have k1 := h1
  have lt1 : ∀ x ∈ p1, x.block < W.heap.size := by obtain ⟨m, hm⟩ := k1; exact DataW.trod_lt m _ _ _ hm
  obtain ⟨a1, rfl, rfl, rfl, w1⟩ := open_int Try.underlying3 (hval 1 3 v1 rfl rfl) h1
  have k2 := h2
  have lt2 : ∀ x ∈ p2, x.block < W.heap.size := by obtain ⟨m, hm⟩ := k2; exact DataW.trod_lt m _ _ _ hm
  obtain ⟨a2, rfl, rfl, rfl, w2⟩ := open_int Try.underlying3 (hval 2 3 v2 rfl rfl) h2
  have k3 := h3
  have lt3 : ∀ x ∈ p3, x.block < W.heap.size := by obtain ⟨m, hm⟩ := k3; exact DataW.trod_lt m _ _ _ hm
  obtain ⟨a3, rfl, rfl, rfl, w3⟩ := open_int Try.underlying3 (hval 3 3 v3 rfl rfl) h3
  clear hA0 hval0
  refine (walk a0 len0 cap0 a1 a2 a3 W w0 (bounds_i64 w1) (bounds_i64 w2) (bounds_i64 w3)).mono fun e W' ⟨he, bel⟩ => ?_
  subst he
  exact ⟨_, rfl, _, _, _, [], _, [], hW', trodAll_mk1 (shut_bool Try.underlying4 _), (trodAll_cons_mk (Below.trod laidOut (by kernel_rfl) (of_decide_eq_true (by kernel_rfl)) k0 bel lt0) (trodAll_cons_mk (Below.trod laidOut (by kernel_rfl) (of_decide_eq_true (by kernel_rfl)) k1 bel lt1) (trodAll_cons_mk (Below.trod laidOut (by kernel_rfl) (of_decide_eq_true (by kernel_rfl)) k2 bel lt2) (trodAll_cons_mk (Below.trod laidOut (by kernel_rfl) (of_decide_eq_true (by kernel_rfl)) k3 bel lt3) trodAll_mk0)))), rfl, bel.frame _, fun h => by cases h⟩
theorem over : Rows.auditOwnRow.holds Try.pinned (OpenSpec.ofChange Rows.auditOwnSpec) :=
  OpenClaim.holds_of_wide 4 Try.f4 rfl rfl rfl rfl rfl rfl rfl ⟨rfl, rfl, rfl, rfl, rfl⟩ rfl rfl rfl rfl rfl (by kernel_rfl) Try.func4 (by kernel_rfl)
    (of_decide_eq_true (by kernel_rfl)) (by unfold Func.isWrapper; first | (rw [if_pos (by decide +kernel)]; kernel_rfl) | (rw [if_neg (by decide +kernel)]; exact ⟨rfl, rfl⟩))
    (fun os started H enc _ => lifted os started H enc)
/-- The statement. -/
theorem proved : Rows.AuditOwnSaid := over
#print axioms proved
end Go.Proofs.Ytjkkhefdpcpjiaa.auditOwn
