/- AuditSkips: (P17.2) what is skipped counts as drained, and turns nothing else; no more may be than a trail counts. Conditions: none. -/
import Derived.Test.YtjkkhefdpcpjiaaAuF
import Derived.Test.YtjkkhefdpcpjiaaAuH
namespace Go.Proofs.Ytjkkhefdpcpjiaa.auditSkips
set_option linter.unusedVariables false
set_option linter.unusedSimpArgs false
open Go.ChangeShapes Go.WideShapes Go.ChangeAt Go.RowKit
open Go.ChangeMaps (open_string shut_string)
theorem sk_cases (p : Nat) (hp : p ≤ 4611686018427387903) (n : Int) : ∃ (b : Bool) (q : Nat), skB p n = b ∧ skN p n = q ∧ q ≤ 4611686018427387903 ∧ ((b = true ∧ (∃ n' : Nat, n = n' ∧ (n' : Int) ≤ 4611686018427387903 - p ∧ q = p + n')) ∨ (b = false ∧ n < 0 ∧ q = p) ∨ (b = false ∧ 0 ≤ n ∧ 4611686018427387903 - (p : Int) < n ∧ q = p)) := by
  by_cases h : 0 ≤ n ∧ n ≤ 4611686018427387903 - (p : Int)
  · have e : skB p n = true := by simp [skB]; exact h
    refine ⟨true, p + n.toNat, e, by rw [skN, e, if_pos rfl], by omega, .inl ⟨rfl, n.toNat, by omega, by omega, rfl⟩⟩
  · have e : skB p n = false := by simp only [skB, decide_eq_false_iff_not]; exact h
    refine ⟨false, p, e, by rw [skN, e, if_neg (by decide)], hp, .inr ?_⟩
    by_cases h0 : n < 0
    · exact .inl ⟨rfl, h0, rfl⟩
    · exact .inr ⟨rfl, by omega, by omega, rfl⟩
set_option maxRecDepth 100000 in
set_option maxHeartbeats 8000000 in
theorem walkN (v : Value) (L : List Ev) (n m : Int) (w : World) (h : ERd elE w v L) (hn : -9223372036854775808 ≤ n ∧ n ≤ 9223372036854775807) (hm : -9223372036854775808 ≤ m ∧ m ≤ 9223372036854775807) :
    Calls Try.prog 7 #[v, .int .i64 n, .int .i64 m] w fun e w' => e = .returned (.bool true) ∧ Below w.heap.size w w' := by
  obtain ⟨A1, c1, rfl, -, -⟩ := h.shape
  have HL := Lib.hid h
  have HNI := Lib.hid hn
  have HMI := Lib.hid hm
  clear h
  have HFI := Lib.hid (filled_any w _ L HL.out)
  obtain ⟨z, hz⟩ : ∃ z, z = L.length := ⟨_, rfl⟩
  rw [← hz] at HL HFI ⊢
  have HN := Lib.hid hz; clear hz
  by_cases h2 : 200 < z
  · have h2' : (200 : Int) < (z : Int) := by omega
    clear h2
    go_enter Try.func7, Try.ntmps7
    go_wp2_with fail
    refine (aknown_any _).mono ?_
    rintro e w1 ⟨rfl, hb⟩
    go_wp2
    go_ret
    exact ⟨rfl, hb⟩
  · have h2' : ¬ (200 : Int) < (z : Int) := by omega
    have HT := Lib.hid (show L.take 200 = L from List.take_of_length_le (by rw [← HN.out]; omega))
    rw [HT.out] at HFI
    have HLL := Lib.hid (show L.length ≤ 1000000 by rw [← HN.out]; omega)
    clear h2 hn hm
    go_enter Try.func7, Try.ntmps7
    go_wp2_with fail
    refine HFI.out.mono ?_
    rintro e w1 ⟨y, v1, rfl, hb, hT, hy, hv⟩
    have HB1 := Lib.hid hb
    have HT1 := Lib.hid hT
    have HY := Lib.hid hy
    have HV := Lib.hid hv
    clear hb hT hy hv HFI h2'
    obtain ⟨b1, p1, e1, e2, hp1, hc1⟩ := sk_cases 0 (by decide) n
    have HSK := Lib.hid (askip_any w1 y v1 L 0 0 n HNI.out HT1.out)
    rw [e1, e2] at HSK
    clear e1 e2
    have HC1 := Lib.hid hc1
    have HP1 := Lib.hid hp1
    clear hc1 hp1
    go_wp2_with fail
    refine HSK.out.mono ?_
    rintro e w2 ⟨rfl, hA⟩
    have HB2 := Lib.hid (hA.ke.bel HB1.out HY.out HV.out)
    have HV2 := Lib.hid (hA.farB HB1.out.size HV.out)
    have HT2 := Lib.hid hA.tr
    clear hA HB1 HT1 HV HSK
    go_wp2_with fail
    refine (apast_any w2 y v1 _ _ _ HT2.out).mono ?_
    rintro e w3 ⟨rfl, hw⟩
    subst hw
    obtain ⟨b2, p2, e1, e2, hp2, hc2⟩ := sk_cases p1 HP1.out m
    have HSK := Lib.hid (askip_any w2 y v1 L 0 p1 m HMI.out HT2.out)
    rw [e1, e2] at HSK
    clear e1 e2
    have HC2 := Lib.hid hc2
    have HP2 := Lib.hid hp2
    clear hc2 hp2
    have h46 : (p1 : Int) ≤ 4611686018427387903 := by have := HP1.out; omega
    rcases HC1.out with ⟨rfl, n', rfl, hn1, hn2⟩ | ⟨rfl, hn1, hn2⟩ | ⟨rfl, hn0, hn1, hn2⟩
    case' inl => (obtain rfl : p1 = n' := (by omega)); clear hn2
    case' inr.inl => subst hn2
    case' inr.inr => subst hn2
    all_goals
      (try simp only [Int.natCast_zero, Int.sub_zero, Nat.zero_add] at hn1)
      clear HC1
      go_wp2_with fail
      refine HSK.out.mono ?_
      rintro e w4 ⟨rfl, hA⟩
      have HB4 := Lib.hid (hA.ke.bel HB2.out HY.out HV2.out)
      have HT4 := Lib.hid hA.tr
      clear hA HSK
      have HL4 := Lib.hid (aleft_any w4 y v1 L 0 p2 HT4.out HLL.out)
      have hp2' : (p2 : Int) ≤ 4611686018427387903 := by have := HP2.out; omega
      rcases HC2.out with ⟨rfl, m', rfl, hm1, hm2⟩ | ⟨rfl, hm1, hm2⟩ | ⟨rfl, hm0, hm1, hm2⟩
      all_goals
        subst hm2
        clear HC2
        (try simp only [Int.natCast_zero, Int.sub_zero, Nat.zero_add] at hm1)
        go_wp2_with (first | (go_at_call 16; refine (apast_any w4 y v1 _ _ _ HT4.out).mono ?_; rintro e w5 ⟨rfl, hw⟩; subst hw))
        refine HL4.out.mono ?_
        rintro e w6 ⟨r, rfl, hO, hF, hb⟩
        rw [List.drop_zero] at hO
        have HB6 := Lib.hid (below_trans HB4.out hb)
        have HO6 := Lib.hid (ERd.of_own elE_ok hO)
        clear hO hF hb HL4
        obtain ⟨A6, c6, rfl, -, -⟩ := HO6.out.shape
        have HS6 := Lib.hid (rsameE_any w6 _ _ L HO6.out (HL.out.below HB6.out) HLL.out)
        go_wp2_with fail
        refine HS6.out.mono ?_
        rintro e w7 ⟨rfl, q, rfl⟩
        have HB7 := Lib.hid (below_drawn HB6.out q)
        clear HS6 HO6 HB6
        generalize w6.drewN q = w7 at *
        go_wp2_with fail
        refine (aknown_any _).mono ?_
        rintro e w8 ⟨rfl, hb⟩
        have HB8 := Lib.hid (below_trans HB7.out hb)
        clear hb
        go_wp2
        go_ret
        exact ⟨rfl, HB8.out⟩
theorem walk (a : Option Addr) (z c : Nat) (n m : Int) (w : World) (h : IsSl w 4 okEv a z c) (hn : -9223372036854775808 ≤ n ∧ n ≤ 9223372036854775807) (hm : -9223372036854775808 ≤ m ∧ m ≤ 9223372036854775807) :
    Calls Try.prog 7 #[.slice a z c, .int .i64 n, .int .i64 m] w fun e w' => e = .returned (.bool true) ∧ Below w.heap.size w w' := by
  obtain ⟨L, h1, h2, h3⟩ := evs_of h
  exact walkN _ L n m w h1 hn hm
theorem own : ownKnob Try.prog.godebug = none := by kernel_rfl
theorem laidOut : laidOutB Try.prog = true := by kernel_rfl
set_option maxRecDepth 100000 in
theorem lifted (os : Os) (started : os.Started) (H : Type) (enc : TypeId × Value → H) :
    ReturnsInHanded {} Try.checked os 7 .any (Rows.auditSkipsSpec.pre6 enc Try.prog Try.f7 Rows.auditSkipsRow.domain false) (Rows.auditSkipsSpec.post enc Try.prog Try.f7 false true false false) := by
  refine returnsInHanded_of_change_sized (C := Try.checked) own started (by kernel_rfl) Try.func7
    (ChangeSpec.witness6 (enc := enc) (C := Try.checked) false ⟨#[], #[.slice none 0 0, .int .i64 0, .int .i64 0], []⟩ 8 (by kernel_rfl) (by kernel_rfl) (by kernel_rfl) (by kernel_rfl)) ?_
  intro W base args ds gs before hval0 hW hcnd hsz0 _
  have hval : ∀ (j : Nat) t v, Try.f7.params[j]? = some t → args[j]? = some v → Value.okWide Try.prog W .any base t v := hval0
  have hW' := hW
  obtain ⟨p, q, hA0, hV, rfl, hfz, hnd⟩ := hW
  have hA : DataW.TrodAll enc Try.prog W 0 (fun _ => true) true Try.f7.params.toList args.toList ds p := hA0
  rw [Try.params7] at hA hval
  obtain ⟨v0, vs0, d0, ds0, p0, q0, hargs, rfl, rfl, h0, r0⟩ := trodAll_cons hA
  obtain ⟨v1, vs1, d1, ds1, p1, q1, rfl, rfl, rfl, h1, r1⟩ := trodAll_cons r0
  obtain ⟨v2, vs2, d2, ds2, p2, q2, rfl, rfl, rfl, h2, r2⟩ := trodAll_cons r1
  obtain ⟨rfl, rfl, rfl⟩ := trodAll_nil r2
  obtain rfl : args = #[v0, v1, v2] := by cases args; simp_all
  obtain ⟨rfl, rfl⟩ := trodVars_none hV
  have k0 := h0
  have lt0 : ∀ x ∈ p0, x.block < W.heap.size := by obtain ⟨m, hm⟩ := k0; exact DataW.trod_lt m _ _ _ hm
  obtain ⟨a0, len0, cap0, rfl⟩ := okWide_slice Try.underlying25 (hval 0 25 v0 rfl rfl)
  have w0 : IsSl W 4 (okEvW W) a0 len0 cap0 := by
    obtain ⟨fuel, hf⟩ := h0
    exact isSl_of Try.underlying25 (by kernel_rfl) okEvP hf (fun n hn => of_decide_eq_true (List.all_eq_true.1 hsz0 n (DataW.weights_mem_each (j := 0) (t := 25) (d := d0) rfl rfl n hn)))
  have k1 := h1
  have lt1 : ∀ x ∈ p1, x.block < W.heap.size := by obtain ⟨m, hm⟩ := k1; exact DataW.trod_lt m _ _ _ hm
  obtain ⟨a1, rfl, rfl, rfl, w1⟩ := open_int Try.underlying3 (hval 1 3 v1 rfl rfl) h1
  have k2 := h2
  have lt2 : ∀ x ∈ p2, x.block < W.heap.size := by obtain ⟨m, hm⟩ := k2; exact DataW.trod_lt m _ _ _ hm
  obtain ⟨a2, rfl, rfl, rfl, w2⟩ := open_int Try.underlying3 (hval 2 3 v2 rfl rfl) h2
  clear hA0 hval0
  refine (walk a0 len0 cap0 a1 a2 W w0 (bounds_i64 w1) (bounds_i64 w2)).mono fun e W' ⟨he, bel⟩ => ?_
  subst he
  exact ⟨_, rfl, _, _, _, [], _, [], hW', trodAll_mk1 (shut_bool Try.underlying4 _), (trodAll_cons_mk (Below.trod laidOut (by kernel_rfl) (of_decide_eq_true (by kernel_rfl)) k0 bel lt0) (trodAll_cons_mk (Below.trod laidOut (by kernel_rfl) (of_decide_eq_true (by kernel_rfl)) k1 bel lt1) (trodAll_cons_mk (Below.trod laidOut (by kernel_rfl) (of_decide_eq_true (by kernel_rfl)) k2 bel lt2) trodAll_mk0))), rfl, bel.frame _, fun h => by cases h⟩
theorem over : Rows.auditSkipsRow.holds Try.pinned (OpenSpec.ofChange Rows.auditSkipsSpec) :=
  OpenClaim.holds_of_wide 7 Try.f7 rfl rfl rfl rfl rfl rfl rfl ⟨rfl, rfl, rfl, rfl, rfl⟩ rfl rfl rfl rfl rfl (by kernel_rfl) Try.func7 (by kernel_rfl)
    (of_decide_eq_true (by kernel_rfl)) (by unfold Func.isWrapper; first | (rw [if_pos (by decide +kernel)]; kernel_rfl) | (rw [if_neg (by decide +kernel)]; exact ⟨rfl, rfl⟩))
    (fun os started H enc _ => lifted os started H enc)
/-- The statement. -/
theorem proved : Rows.AuditSkipsSaid := over
#print axioms proved
end Go.Proofs.Ytjkkhefdpcpjiaa.auditSkips
