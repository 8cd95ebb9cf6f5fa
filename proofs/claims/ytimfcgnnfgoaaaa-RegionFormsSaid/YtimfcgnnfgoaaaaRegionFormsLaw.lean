/- RegionForms: (P13.1) any region has its form, and any two what one has alone, and what both have, as the document says. Conditions: none. -/
import Derived.Test.YtimfcgnnfgoaaaaRgQ
import Derived.Test.YtimfcgnnfgoaaaaRgS
import Derived.Test.YtimfcgnnfgoaaaaRgH0
import Derived.Lib.SmallJoins
import Derived.Deep.DeepCutAuto
namespace Go.Proofs.Ytimfcgnnfgoaaaa.regionForms
set_option linter.unusedVariables false
set_option linter.unusedSimpArgs false
open Go.ChangeShapes Go.WideShapes Go.ChangeAt Go.RowKit
open Go.ChangeMaps (open_string shut_string)
theorem wr_cases (L : List Bx) : wrongN L = 0 ∨ wrongN L = 1 ∨ wrongN L = 2 := by
  unfold wrongN; split
  · exact .inr (.inr rfl)
  · split
    · exact .inl rfl
    · exact .inr (.inl rfl)
theorem chk2_wr (L M : List Bx) : chk2 L M = if wrongN L = 2 ∨ wrongN M = 2 then 2 else if wrongN L = 0 then wrongN M else wrongN L := by
  unfold chk2 wrongN
  by_cases h1 : 256 < L.length <;> by_cases h2 : 256 < M.length <;> cases h3 : allRight L <;> cases h4 : allRight M <;> simp [h1, h2]
theorem chk2_one (L : List Bx) : wrongN L = chk2 L [] := by
  unfold chk2 wrongN
  by_cases h1 : 256 < L.length <;> cases h3 : allRight L <;> simp [h1, allRight]
set_option maxRecDepth 100000 in
set_option maxHeartbeats 4000000 in
theorem wrong13_any (w : World) (v u : Value) (L M : List Bx) (h : ERd elR w v L) (k : ERd elR w u M) (hl : L.length ≤ 1000000) (hm : M.length ≤ 1000000) :
    Calls Try.prog 15 #[v, u] w fun e w' => e = .returned (.int .i64 (chk2 L M)) ∧ Below w.heap.size w w' := by
  have H1 := Lib.hid (rwrong_any w v L h hl)
  have H2 := Lib.hid (fun X (hX : Below w.heap.size w X) => rwrong_any X u M (k.below hX) hm)
  have hc := chk2_wr L M
  have hx := wr_cases L
  have hy := wr_cases M
  clear h k hl hm
  generalize chk2 L M = c at *
  generalize wrongN L = x at *
  generalize wrongN M = y at *
  rcases hx with rfl | rfl | rfl <;> rcases hy with rfl | rfl | rfl
  all_goals
    simp at hc
    subst hc
    go_enter Try.func15, Try.ntmps15
    go_wp2_with fail
    refine H1.out.mono ?_
    rintro e w1 ⟨rfl, hb1⟩
    have HB1 := Lib.hid hb1
    clear hb1
    go_wp2_with fail
    refine (H2.out w1 HB1.out).mono ?_
    rintro e w2 ⟨rfl, hb2⟩
    have HB2 := Lib.hid (below_trans HB1.out hb2)
    clear hb2
    go_wp2
    go_ret
    exact ⟨rfl, HB2.out⟩
set_option maxRecDepth 100000 in
theorem small_any (A1 A2 : Option Addr) (n m c1 c2 : Nat) (w : World) :
    Calls Try.prog 9 #[.slice A1 n c1, .slice A2 m c2] w fun e w' => e = .returned (.bool (decide (n ≤ 12 ∧ m ≤ 12))) ∧ w = w' := by
  by_cases h1 : n ≤ 12
  · have h1b : (n : Int) ≤ (12 : Int) := by omega
    by_cases h2 : m ≤ 12
    · have h2b : (m : Int) ≤ (12 : Int) := by omega
      rw [decide_eq_true ⟨h1, h2⟩]
      clear h1 h2
      go_enter Try.func9, Try.ntmps9
      go_wp2
      go_ret
      first | done | exact ⟨rfl, rfl⟩
    · have h2b : ¬ (m : Int) ≤ (12 : Int) := by omega
      rw [decide_eq_false (fun h => h2 h.2)]
      clear h1 h2
      go_enter Try.func9, Try.ntmps9
      go_wp2
      go_ret
      first | done | exact ⟨rfl, rfl⟩
  · have h1b : ¬ (n : Int) ≤ (12 : Int) := by omega
    rw [decide_eq_false (fun h => h1 h.1)]
    clear h1
    go_enter Try.func9, Try.ntmps9
    go_wp2
    go_ret
    first | done | exact ⟨rfl, rfl⟩
theorem how0 : cHow 0 = fun p q : Bool => p || q := by funext p q; simp [cHow]
theorem how1 : cHow 1 = fun p q : Bool => p && !q := by funext p q; simp [cHow]
theorem how2 : cHow 2 = fun p q : Bool => p && q := by funext p q; simp [cHow]
set_option maxRecDepth 100000 in
set_option maxHeartbeats 8000000 in
theorem walkN (v u : Value) (L M : List Bx) (w : World) (h : ERd elR w v L) (k : ERd elR w u M) :
    Calls Try.prog 3 #[v, u] w fun e w' => e = .returned (.bool true) ∧ Below w.heap.size w w' := by
  obtain ⟨A1, c1, rfl, -, -⟩ := h.shape
  obtain ⟨A2, c2, rfl, -, -⟩ := k.shape
  have HL := Lib.hid h
  have HK := Lib.hid k
  clear h k
  obtain ⟨n, hn⟩ : ∃ n, n = L.length := ⟨_, rfl⟩
  obtain ⟨m, hm⟩ : ∃ m, m = M.length := ⟨_, rfl⟩
  rw [← hn] at HL ⊢
  rw [← hm] at HK ⊢
  have HN := Lib.hid hn; have HM := Lib.hid hm; clear hn hm
  by_cases hs : n ≤ 12 ∧ m ≤ 12
  · have HS := Lib.hid (decide_eq_true hs)
    have HNB := Lib.hid (show L.length ≤ 12 ∧ M.length ≤ 12 from by rw [← HN.out, ← HM.out]; exact hs)
    have HU := Lib.hid (union_any w _ L HL.out (by have := HNB.out; omega) (fun _ => by have := HNB.out; omega))
    have HMI := Lib.hid (fun X (hX : Below w.heap.size w X) => minus_any X _ _ L M (HL.out.below hX) (HK.out.below hX) (by have := HNB.out; omega) (by have := HNB.out; omega) (fun _ => by have := HNB.out; omega))
    have HME := Lib.hid (fun X (hX : Below w.heap.size w X) => meet_any X _ _ L M (HL.out.below hX) (HK.out.below hX) (by have := HNB.out; omega) (by have := HNB.out; omega) (fun _ => by have := HNB.out; omega))
    have HW1 := Lib.hid (fun X (hX : Below w.heap.size w X) => rwrong_any X _ L (HL.out.below hX) (by have := HNB.out; omega))
    have HW2 := Lib.hid (fun X (hX : Below w.heap.size w X) => wrong13_any X _ _ L M (HL.out.below hX) (HK.out.below hX) (by have := HNB.out; omega) (by have := HNB.out; omega))
    rw [chk2_one] at HW1
    have HZ0 := Lib.hid (show chk2 L M = 0 → chk2 L [] = 0 ∧ rightA L ∧ rightA M from fun h0 => by
      obtain ⟨g1, g2, g3, g4⟩ := chk2_zero.1 h0
      exact ⟨chk2_zero.2 ⟨g1, by simp, g3, fun r hr => by simp at hr⟩, g3, g4⟩)
    clear hs
    generalize chk2 L M = c at *
    generalize chk2 L [] = d at *
    have hdd : (d != d) = false := by simp
    have hcc : (c != c) = false := by simp
    go_enter Try.func3, Try.ntmps3
    go_wp2_with fail
    refine (small_any _ _ _ _ _ _ _).mono ?_
    rintro e w0 ⟨rfl, rfl⟩
    rw [HS.out]
    go_wp2_with fail
    refine HU.out.mono ?_
    rintro e w1 ⟨v1, U, rfl, hf1, hok1, hno1, hl1⟩
    have HB1 := Lib.hid hf1.bel
    have HRU := Lib.hid (hf1.read elR_ok)
    have HOK1 := Lib.hid hok1
    have HNO1 := Lib.hid hno1
    clear hf1 hok1 hno1 hl1 HU
    obtain ⟨A3, c3, rfl, -, -⟩ := HRU.out.shape
    go_wp2_with fail
    refine (HMI.out w1 HB1.out).mono ?_
    rintro e w2 ⟨v2, V, rfl, hf2, hok2, hno2, hl2⟩
    have HB2 := Lib.hid (below_trans HB1.out hf2.bel)
    have HRU := Lib.hid (HRU.out.below hf2.bel)
    have HRV := Lib.hid (hf2.read elR_ok)
    have HOK2 := Lib.hid hok2
    have HNO2 := Lib.hid hno2
    clear hf2 hok2 hno2 hl2 HMI
    obtain ⟨A4, c4, rfl, -, -⟩ := HRV.out.shape
    go_wp2_with fail
    refine (HME.out w2 HB2.out).mono ?_
    rintro e w3 ⟨v3, X, rfl, hf3, hok3, hno3, hl3⟩
    have HB3 := Lib.hid (below_trans HB2.out hf3.bel)
    have HRU := Lib.hid (HRU.out.below hf3.bel)
    have HRV := Lib.hid (HRV.out.below hf3.bel)
    have HRX := Lib.hid (hf3.read elR_ok)
    have HOK3 := Lib.hid hok3
    have HNO3 := Lib.hid hno3
    clear hf3 hok3 hno3 hl3 HME
    obtain ⟨A5, c5, rfl, -, -⟩ := HRX.out.shape
    go_wp2_with fail
    refine (HW1.out w3 HB3.out).mono ?_
    rintro e w4 ⟨rfl, hb4⟩
    have HB4 := Lib.hid (below_trans HB3.out hb4)
    have HRU := Lib.hid (HRU.out.below hb4)
    have HRV := Lib.hid (HRV.out.below hb4)
    have HRX := Lib.hid (HRX.out.below hb4)
    clear hb4
    go_wp2_with fail
    refine (HW2.out w4 HB4.out).mono ?_
    rintro e w5 ⟨rfl, hb5⟩
    have HB5 := Lib.hid (below_trans HB4.out hb5)
    have HRU := Lib.hid (HRU.out.below hb5)
    have HRV := Lib.hid (HRV.out.below hb5)
    have HRX := Lib.hid (HRX.out.below hb5)
    clear hb5 HW1 HW2
    by_cases h0 : c = 0
    · have hc0 : (c != 0) = false := by simp [h0]
      have HQ := Lib.hid (HZ0.out h0)
      have HU2 := Lib.hid (HOK1.out HQ.out.1)
      have HV2 := Lib.hid (HOK2.out h0)
      have HX2 := Lib.hid (HOK3.out h0)
      clear HZ0 HOK1 HOK2 HOK3 HNO1 HNO2 HNO3 h0
      go_wp2_with fail
      refine (rform_any w5 _ _ L [] 0 (HL.out.below HB5.out) (ERd.nil_ _) (by have := HNB.out; simp; omega) HQ.out.2.1 (fun r hr => by simp at hr)).mono ?_
      rintro e w6 ⟨v6, L6, rfl, hf6, hfo6, -⟩
      rw [how0] at hfo6
      have HE6 := Lib.hid (hfo6.uniq HU2.out)
      have HB6 := Lib.hid (below_trans HB5.out hf6.bel)
      have HR6 := Lib.hid (hf6.read elR_ok)
      rw [HE6.out] at HR6
      have HRU := Lib.hid (HRU.out.below hf6.bel)
      have HRV := Lib.hid (HRV.out.below hf6.bel)
      have HRX := Lib.hid (HRX.out.below hf6.bel)
      clear hf6 hfo6
      go_wp2_with fail
      refine (rrects13_any w6 _ _ U HRU.out HR6.out).mono ?_
      rintro e w7 ⟨rfl, hb7⟩
      have HB7 := Lib.hid (below_trans HB6.out hb7)
      have HRV := Lib.hid (HRV.out.below hb7)
      have HRX := Lib.hid (HRX.out.below hb7)
      clear hb7
      go_wp2_with fail
      refine (rform_any w7 _ _ L M 1 (HL.out.below HB7.out) (HK.out.below HB7.out) (by have := HNB.out; omega) HQ.out.2.1 HQ.out.2.2).mono ?_
      rintro e w8 ⟨v8, L8, rfl, hf8, hfo8, -⟩
      rw [how1] at hfo8
      have HE8 := Lib.hid (hfo8.uniq HV2.out)
      have HB8 := Lib.hid (below_trans HB7.out hf8.bel)
      have HR8 := Lib.hid (hf8.read elR_ok)
      rw [HE8.out] at HR8
      have HRV := Lib.hid (HRV.out.below hf8.bel)
      have HRX := Lib.hid (HRX.out.below hf8.bel)
      clear hf8 hfo8
      go_wp2_with fail
      refine (rrects13_any w8 _ _ V HRV.out HR8.out).mono ?_
      rintro e w9 ⟨rfl, hb9⟩
      have HB9 := Lib.hid (below_trans HB8.out hb9)
      have HRX := Lib.hid (HRX.out.below hb9)
      clear hb9
      go_wp2_with fail
      refine (rform_any w9 _ _ L M 2 (HL.out.below HB9.out) (HK.out.below HB9.out) (by have := HNB.out; omega) HQ.out.2.1 HQ.out.2.2).mono ?_
      rintro e wa ⟨va, La, rfl, hfa, hfoa, -⟩
      rw [how2] at hfoa
      have HEa := Lib.hid (hfoa.uniq HX2.out)
      have HBa := Lib.hid (below_trans HB9.out hfa.bel)
      have HRa := Lib.hid (hfa.read elR_ok)
      rw [HEa.out] at HRa
      have HRX := Lib.hid (HRX.out.below hfa.bel)
      clear hfa hfoa
      go_wp2_with fail
      refine (rrects13_any wa _ _ X HRX.out HRa.out).mono ?_
      rintro e wb ⟨rfl, hbb⟩
      have HBb := Lib.hid (below_trans HBa.out hbb)
      clear hbb
      go_wp2_with fail
      refine (known13_any _).mono ?_
      rintro e wc ⟨rfl, hbc⟩
      have HBc := Lib.hid (below_trans HBb.out hbc)
      go_wp2
      go_ret
      exact ⟨rfl, HBc.out⟩
    · have hc0 : (c != 0) = true := by simpa using h0
      have hV : V = [] := HNO2.out h0
      have hX : X = [] := HNO3.out h0
      subst hV
      subst hX
      have HNO := Lib.hid HNO1.out
      clear HZ0 HOK1 HOK2 HOK3 HNO1 HNO2 HNO3 h0
      by_cases hd : d = 0
      · have hd0 : (d == 0) = true := by simp [hd]
        clear hd
        go_wp2_with fail
        refine (known13_any _).mono ?_
        rintro e wc ⟨rfl, hbc⟩
        have HBc := Lib.hid (below_trans HB5.out hbc)
        go_wp2
        go_ret
        exact ⟨rfl, HBc.out⟩
      · have hd0 : (d == 0) = false := by simpa using hd
        have hU : U = [] := HNO.out hd
        subst hU
        clear hd
        go_wp2_with fail
        refine (known13_any _).mono ?_
        rintro e wc ⟨rfl, hbc⟩
        have HBc := Lib.hid (below_trans HB5.out hbc)
        go_wp2
        go_ret
        exact ⟨rfl, HBc.out⟩
  · have HS := Lib.hid (decide_eq_false hs)
    clear hs
    go_enter Try.func3, Try.ntmps3
    go_wp2_with fail
    refine (small_any _ _ _ _ _ _ _).mono ?_
    rintro e w0 ⟨rfl, rfl⟩
    rw [HS.out]
    go_wp2_with fail
    refine (known13_any _).mono ?_
    rintro e wc ⟨rfl, hbc⟩
    have HBc := Lib.hid hbc
    go_wp2
    go_ret
    exact ⟨rfl, HBc.out⟩
theorem walk (a1 : Option Addr) (n1 c1 : Nat) (a2 : Option Addr) (n2 c2 : Nat) (w : World) (h : IsSl w 4 okBx a1 n1 c1) (k : IsSl w 4 okBx a2 n2 c2) :
    Calls Try.prog 3 #[.slice a1 n1 c1, .slice a2 n2 c2] w fun e w' => e = .returned (.bool true) ∧ Below w.heap.size w w' := by
  obtain ⟨L, h1, -⟩ := bxs_of h
  obtain ⟨M, k1, -⟩ := bxs_of k
  exact walkN _ _ L M w h1 k1
theorem own : ownKnob Try.prog.godebug = none := by kernel_rfl
theorem laidOut : laidOutB Try.prog = true := by kernel_rfl
set_option maxRecDepth 100000 in
theorem lifted (os : Os) (started : os.Started) (H : Type) (enc : TypeId × Value → H) :
    ReturnsInHanded {} Try.checked os 3 .any (Rows.regionFormsSpec.pre6 enc Try.prog Try.f3 Rows.regionFormsRow.domain false) (Rows.regionFormsSpec.post enc Try.prog Try.f3 false true false false) := by
  refine returnsInHanded_of_change_sized (C := Try.checked) own started (by kernel_rfl) Try.func3
    (ChangeSpec.witness6 (enc := enc) (C := Try.checked) false ⟨#[], #[.slice none 0 0, .slice none 0 0], []⟩ 8 (by kernel_rfl) (by kernel_rfl) (by kernel_rfl) (by kernel_rfl)) ?_
  intro W base args ds gs before hval0 hW hcnd hsz0 _
  have hval : ∀ (j : Nat) t v, Try.f3.params[j]? = some t → args[j]? = some v → Value.okWide Try.prog W .any base t v := hval0
  have hW' := hW
  obtain ⟨p, q, hA0, hV, rfl, hfz, hnd⟩ := hW
  have hA : DataW.TrodAll enc Try.prog W 0 (fun _ => true) true Try.f3.params.toList args.toList ds p := hA0
  rw [Try.params3] at hA hval
  obtain ⟨v0, vs0, d0, ds0, p0, q0, hargs, rfl, rfl, h0, r0⟩ := trodAll_cons hA
  obtain ⟨v1, vs1, d1, ds1, p1, q1, rfl, rfl, rfl, h1, r1⟩ := trodAll_cons r0
  obtain ⟨rfl, rfl, rfl⟩ := trodAll_nil r1
  obtain rfl : args = #[v0, v1] := by cases args; simp_all
  obtain ⟨rfl, rfl⟩ := trodVars_none hV
  have k0 := h0
  have lt0 : ∀ x ∈ p0, x.block < W.heap.size := by obtain ⟨m, hm⟩ := k0; exact DataW.trod_lt m _ _ _ hm
  obtain ⟨a0, len0, cap0, rfl⟩ := okWide_slice Try.underlying22 (hval 0 22 v0 rfl rfl)
  have w0 : IsSl W 4 (okBxW W) a0 len0 cap0 := by
    obtain ⟨fuel, hf⟩ := h0
    exact isSl_of Try.underlying22 (by kernel_rfl) okBxP hf (fun n hn => of_decide_eq_true (List.all_eq_true.1 hsz0 n (DataW.weights_mem_each (j := 0) (t := 22) (d := d0) rfl rfl n hn)))
  have k1 := h1
  have lt1 : ∀ x ∈ p1, x.block < W.heap.size := by obtain ⟨m, hm⟩ := k1; exact DataW.trod_lt m _ _ _ hm
  obtain ⟨a1, len1, cap1, rfl⟩ := okWide_slice Try.underlying22 (hval 1 22 v1 rfl rfl)
  have w1 : IsSl W 4 (okBxW W) a1 len1 cap1 := by
    obtain ⟨fuel, hf⟩ := h1
    exact isSl_of Try.underlying22 (by kernel_rfl) okBxP hf (fun n hn => of_decide_eq_true (List.all_eq_true.1 hsz0 n (DataW.weights_mem_each (j := 1) (t := 22) (d := d1) rfl rfl n hn)))
  clear hA0 hval0
  refine (walk a0 len0 cap0 a1 len1 cap1 W w0 w1).mono fun e W' ⟨he, bel⟩ => ?_
  subst he
  exact ⟨_, rfl, _, _, _, [], _, [], hW', trodAll_mk1 (shut_bool Try.underlying4 _), (trodAll_cons_mk (Below.trod laidOut (by kernel_rfl) (of_decide_eq_true (by kernel_rfl)) k0 bel lt0) (trodAll_cons_mk (Below.trod laidOut (by kernel_rfl) (of_decide_eq_true (by kernel_rfl)) k1 bel lt1) trodAll_mk0)), rfl, bel.frame _, fun h => by cases h⟩
theorem over : Rows.regionFormsRow.holds Try.pinned (OpenSpec.ofChange Rows.regionFormsSpec) :=
  OpenClaim.holds_of_wide 3 Try.f3 rfl rfl rfl rfl rfl rfl rfl ⟨rfl, rfl, rfl, rfl, rfl⟩ rfl rfl rfl rfl rfl (by kernel_rfl) Try.func3 (by kernel_rfl)
    (of_decide_eq_true (by kernel_rfl)) (by unfold Func.isWrapper; first | (rw [if_pos (by decide +kernel)]; kernel_rfl) | (rw [if_neg (by decide +kernel)]; exact ⟨rfl, rfl⟩))
    (fun os started H enc _ => lifted os started H enc)
/-- The statement. -/
theorem proved : Rows.RegionFormsSaid := over
#print axioms proved
end Go.Proofs.Ytimfcgnnfgoaaaa.regionForms
