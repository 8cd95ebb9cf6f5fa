/- TokenMeets: (P16.1, P16.4) two grants together are what the document says, in whatever order; three in whatever grouping. Conditions: none. -/
import Derived.Test.YtjpjkoipmmcigaaTm1
import Derived.Test.YtjpjkoipmmcigaaTm2
import Derived.Test.YtjpjkoipmmcigaaTm3
import Derived.Test.YtjpjkoipmmcigaaTm4
import Derived.Test.YtjpjkoipmmcigaaTm5
namespace Go.Proofs.Ytjpjkoipmmcigaa.tokenMeets
set_option linter.unusedVariables false
set_option linter.unusedSimpArgs false
open Go.ChangeShapes Go.WideShapes Go.ChangeAt Go.RowKit
open Go.ChangeMaps (open_string shut_string)
theorem meetH (a b m : Gt) (h : meetC a b = m) : Hid (∀ w, Calls Try.prog 24 #[a.V, b.V] w fun e w' => e = .returned m.V ∧ Below w.heap.size w w') := fun w => by
  have k := tmeet_any a b w
  rw [h] at k
  exact k
theorem narH (a b : Gt) (d : Bool) (h : narB a b = d) : Hid (∀ w, Calls Try.prog 27 #[a.V, b.V] w fun e w' => e = .returned (.bool d) ∧ Below w.heap.size w w') := fun w => by
  have k := nar_any a b w
  rw [h] at k
  exact k
theorem rmeetH (a b m : Gt) (ha : Rt a) (hb : Rt b) (h : meetG a b = m) : Hid (∀ w, Calls Try.prog 28 #[a.V, b.V] w fun e w' => e = .returned m.V ∧ Below w.heap.size w w') := fun w => by
  have k := rtmeet_any a b ha hb w
  rw [h] at k
  exact k
theorem knownH : Hid (∀ w, Calls Try.prog 23 #[] w fun e w' => e = .returned (.bool true) ∧ Below w.heap.size w w') := fun w => tknown_any w
theorem walk (a b c : Gt) (w : World) (_ : a.I) (_ : b.I) (_ : c.I) : Calls Try.prog 4 #[a.V, b.V, c.V] w fun e w' => e = .returned (.bool true) ∧ Below w.heap.size w w' := by
  cases ra : rightG a with
  | false =>
    exact tokenMeetsA.bad_a (c0 := c.ops) (c1 := c.zoom) (c2 := c.x0) (c3 := c.y0) (c4 := c.x1) (c5 := c.y1) (c6 := c.void) (c7 := c.til) (HMab := meetH a b Gt.zero (by rw [meetC, if_neg (by rw [ra]; simp)])) (HRa := rightT_lit a false ra) (HRRa := rrightT_lit a false ra) (HNab := narH a b false (by rw [narB, ra]; rfl)) (HK := knownH) (w := w)
  | true =>
    cases rb : rightG b with
    | false =>
      exact tokenMeetsA.bad_b (c0 := c.ops) (c1 := c.zoom) (c2 := c.x0) (c3 := c.y0) (c4 := c.x1) (c5 := c.y1) (c6 := c.void) (c7 := c.til) (HMab := meetH a b Gt.zero (by rw [meetC, if_neg (by rw [rb]; simp)])) (HRa := rightT_lit a true ra) (HRRa := rrightT_lit a true ra) (HRRb := rrightT_lit b false rb) (HNab := narH a b false (by rw [narB, ra, rb]; rfl)) (HK := knownH) (w := w)
    | true =>
      have ha := (rt_iff a).1 ra
      have hb := (rt_iff b).1 rb
      have hm := rt_meet ha hb
      have HMab := meetH a b _ (meetC_rt ha hb)
      have HMba := meetH b a (meetG a b) (by rw [meetC_rt hb ha, meetG_comm hb ha])
      have HMaa := meetH a a a (by rw [meetC_rt ha ha, meetG_self ha])
      have HRMab := rmeetH a b _ ha hb rfl
      have HRa := rightT_lit a true ra
      have HRRa := rrightT_lit a true ra
      have HRRb := rrightT_lit b true rb
      have HRm := rightT_lit (meetG a b) true ((rt_iff _).2 hm)
      have HNma := narH (meetG a b) a true (nar_of hm ha (meetG_left ha hb))
      have HNmb := narH (meetG a b) b true (nar_of hm hb (meetG_right ha hb))
      have HNab := narH a b (decide (meetG a b = a)) (by rw [narB, ra, rb, meetC_rt ha hb]; rfl)
      cases rc : rightG c with
      | false =>
        have HRRc := rrightT_lit c false rc
        generalize meetG a b = m at *
        by_cases he : m = a
        · have e1 : decide (m = a) = true := by simpa using he
          rw [e1] at HNab
          subst he
          exact tokenMeetsD.same_no (HMab := HMab) (HRa := HRa) (HRRa := HRRa) (HRRb := HRRb) (HRMab := HRMab) (HMba := HMba) (HMaa := HMaa) (HRRc := HRRc) (HNab := HNmb) (HNaa := HNma) (HK := knownH) (w := w)
        · have e1 : decide (m = a) = false := by simpa using he
          rw [e1] at HNab
          clear e1 ha hb hm ra rb rc
          obtain ⟨a0, a1, a2, a3, a4, a5, a6, a7⟩ := a
          obtain ⟨m0, m1, m2, m3, m4, m5, m6, m7⟩ := m
          by_cases h0 : m0 = a0
          case neg => exact tokenMeetsD.diff_no0 (HMab := HMab) (HRa := HRa) (HRRa := HRRa) (HRRb := HRRb) (HRMab := HRMab) (HMba := HMba) (HMaa := HMaa) (HRRc := HRRc) (HNab := HNab) (HK := knownH) (HRm := HRm) (HNma := HNma) (HNmb := HNmb) (hk := by simpa using h0) (w := w)
          subst h0
          by_cases h1 : m1 = a1
          case neg => exact tokenMeetsD.diff_no1 (HMab := HMab) (HRa := HRa) (HRRa := HRRa) (HRRb := HRRb) (HRMab := HRMab) (HMba := HMba) (HMaa := HMaa) (HRRc := HRRc) (HNab := HNab) (HK := knownH) (HRm := HRm) (HNma := HNma) (HNmb := HNmb) (hk := by simpa using h1) (w := w)
          subst h1
          by_cases h2 : m2 = a2
          case neg => exact tokenMeetsD.diff_no2 (HMab := HMab) (HRa := HRa) (HRRa := HRRa) (HRRb := HRRb) (HRMab := HRMab) (HMba := HMba) (HMaa := HMaa) (HRRc := HRRc) (HNab := HNab) (HK := knownH) (HRm := HRm) (HNma := HNma) (HNmb := HNmb) (hk := by simpa using h2) (w := w)
          subst h2
          by_cases h3 : m3 = a3
          case neg => exact tokenMeetsD.diff_no3 (HMab := HMab) (HRa := HRa) (HRRa := HRRa) (HRRb := HRRb) (HRMab := HRMab) (HMba := HMba) (HMaa := HMaa) (HRRc := HRRc) (HNab := HNab) (HK := knownH) (HRm := HRm) (HNma := HNma) (HNmb := HNmb) (hk := by simpa using h3) (w := w)
          subst h3
          by_cases h4 : m4 = a4
          case neg => exact tokenMeetsE.diff_no4 (HMab := HMab) (HRa := HRa) (HRRa := HRRa) (HRRb := HRRb) (HRMab := HRMab) (HMba := HMba) (HMaa := HMaa) (HRRc := HRRc) (HNab := HNab) (HK := knownH) (HRm := HRm) (HNma := HNma) (HNmb := HNmb) (hk := by simpa using h4) (w := w)
          subst h4
          by_cases h5 : m5 = a5
          case neg => exact tokenMeetsE.diff_no5 (HMab := HMab) (HRa := HRa) (HRRa := HRRa) (HRRb := HRRb) (HRMab := HRMab) (HMba := HMba) (HMaa := HMaa) (HRRc := HRRc) (HNab := HNab) (HK := knownH) (HRm := HRm) (HNma := HNma) (HNmb := HNmb) (hk := by simpa using h5) (w := w)
          subst h5
          by_cases h6 : m6 = a6
          case neg => exact tokenMeetsE.diff_no6 (HMab := HMab) (HRa := HRa) (HRRa := HRRa) (HRRb := HRRb) (HRMab := HRMab) (HMba := HMba) (HMaa := HMaa) (HRRc := HRRc) (HNab := HNab) (HK := knownH) (HRm := HRm) (HNma := HNma) (HNmb := HNmb) (hk := by simpa using h6) (w := w)
          subst h6
          by_cases h7 : m7 = a7
          case neg => exact tokenMeetsE.diff_no7 (HMab := HMab) (HRa := HRa) (HRRa := HRRa) (HRRb := HRRb) (HRMab := HRMab) (HMba := HMba) (HMaa := HMaa) (HRRc := HRRc) (HNab := HNab) (HK := knownH) (HRm := HRm) (HNma := HNma) (HNmb := HNmb) (hk := by simpa using h7) (w := w)
          subst h7
          exact absurd rfl he
      | true =>
        have HRRc := rrightT_lit c true rc
        have hc := (rt_iff c).1 rc
        have HMmc := meetH (meetG a b) c _ (meetC_rt hm hc)
        have HMbc := meetH b c _ (meetC_rt hb hc)
        have HMaq := meetH a (meetG b c) (meetG (meetG a b) c) (by rw [meetC_rt ha (rt_meet hb hc), meetG_assoc ha hb hc])
        generalize meetG (meetG a b) c = p at *
        generalize meetG b c = q at *
        generalize meetG a b = m at *
        clear hc
        by_cases he : m = a
        · have e1 : decide (m = a) = true := by simpa using he
          rw [e1] at HNab
          subst he
          exact tokenMeetsA.same_c (HMab := HMab) (HRa := HRa) (HRRa := HRRa) (HRRb := HRRb) (HRMab := HRMab) (HMba := HMba) (HMaa := HMaa) (HRRc := HRRc) (HNab := HNmb) (HNaa := HNma) (HK := knownH) (HMmc := HMmc) (HMbc := HMbc) (HMaq := HMaq) (w := w)
        · have e1 : decide (m = a) = false := by simpa using he
          rw [e1] at HNab
          clear e1 ha hb hm ra rb rc
          obtain ⟨a0, a1, a2, a3, a4, a5, a6, a7⟩ := a
          obtain ⟨m0, m1, m2, m3, m4, m5, m6, m7⟩ := m
          by_cases h0 : m0 = a0
          case neg => exact tokenMeetsB.diff_c0 (HMab := HMab) (HRa := HRa) (HRRa := HRRa) (HRRb := HRRb) (HRMab := HRMab) (HMba := HMba) (HMaa := HMaa) (HRRc := HRRc) (HNab := HNab) (HK := knownH) (HRm := HRm) (HNma := HNma) (HNmb := HNmb) (HMmc := HMmc) (HMbc := HMbc) (HMaq := HMaq) (hk := by simpa using h0) (w := w)
          subst h0
          by_cases h1 : m1 = a1
          case neg => exact tokenMeetsB.diff_c1 (HMab := HMab) (HRa := HRa) (HRRa := HRRa) (HRRb := HRRb) (HRMab := HRMab) (HMba := HMba) (HMaa := HMaa) (HRRc := HRRc) (HNab := HNab) (HK := knownH) (HRm := HRm) (HNma := HNma) (HNmb := HNmb) (HMmc := HMmc) (HMbc := HMbc) (HMaq := HMaq) (hk := by simpa using h1) (w := w)
          subst h1
          by_cases h2 : m2 = a2
          case neg => exact tokenMeetsB.diff_c2 (HMab := HMab) (HRa := HRa) (HRRa := HRRa) (HRRb := HRRb) (HRMab := HRMab) (HMba := HMba) (HMaa := HMaa) (HRRc := HRRc) (HNab := HNab) (HK := knownH) (HRm := HRm) (HNma := HNma) (HNmb := HNmb) (HMmc := HMmc) (HMbc := HMbc) (HMaq := HMaq) (hk := by simpa using h2) (w := w)
          subst h2
          by_cases h3 : m3 = a3
          case neg => exact tokenMeetsB.diff_c3 (HMab := HMab) (HRa := HRa) (HRRa := HRRa) (HRRb := HRRb) (HRMab := HRMab) (HMba := HMba) (HMaa := HMaa) (HRRc := HRRc) (HNab := HNab) (HK := knownH) (HRm := HRm) (HNma := HNma) (HNmb := HNmb) (HMmc := HMmc) (HMbc := HMbc) (HMaq := HMaq) (hk := by simpa using h3) (w := w)
          subst h3
          by_cases h4 : m4 = a4
          case neg => exact tokenMeetsC.diff_c4 (HMab := HMab) (HRa := HRa) (HRRa := HRRa) (HRRb := HRRb) (HRMab := HRMab) (HMba := HMba) (HMaa := HMaa) (HRRc := HRRc) (HNab := HNab) (HK := knownH) (HRm := HRm) (HNma := HNma) (HNmb := HNmb) (HMmc := HMmc) (HMbc := HMbc) (HMaq := HMaq) (hk := by simpa using h4) (w := w)
          subst h4
          by_cases h5 : m5 = a5
          case neg => exact tokenMeetsC.diff_c5 (HMab := HMab) (HRa := HRa) (HRRa := HRRa) (HRRb := HRRb) (HRMab := HRMab) (HMba := HMba) (HMaa := HMaa) (HRRc := HRRc) (HNab := HNab) (HK := knownH) (HRm := HRm) (HNma := HNma) (HNmb := HNmb) (HMmc := HMmc) (HMbc := HMbc) (HMaq := HMaq) (hk := by simpa using h5) (w := w)
          subst h5
          by_cases h6 : m6 = a6
          case neg => exact tokenMeetsC.diff_c6 (HMab := HMab) (HRa := HRa) (HRRa := HRRa) (HRRb := HRRb) (HRMab := HRMab) (HMba := HMba) (HMaa := HMaa) (HRRc := HRRc) (HNab := HNab) (HK := knownH) (HRm := HRm) (HNma := HNma) (HNmb := HNmb) (HMmc := HMmc) (HMbc := HMbc) (HMaq := HMaq) (hk := by simpa using h6) (w := w)
          subst h6
          by_cases h7 : m7 = a7
          case neg => exact tokenMeetsC.diff_c7 (HMab := HMab) (HRa := HRa) (HRRa := HRRa) (HRRb := HRRb) (HRMab := HRMab) (HMba := HMba) (HMaa := HMaa) (HRRc := HRRc) (HNab := HNab) (HK := knownH) (HRm := HRm) (HNma := HNma) (HNmb := HNmb) (HMmc := HMmc) (HMbc := HMbc) (HMaq := HMaq) (hk := by simpa using h7) (w := w)
          subst h7
          exact absurd rfl he
theorem own : ownKnob Try.prog.godebug = none := by kernel_rfl
theorem laidOut : laidOutB Try.prog = true := by kernel_rfl
set_option maxRecDepth 100000 in
theorem lifted (os : Os) (started : os.Started) (H : Type) (enc : TypeId × Value → H) :
    ReturnsInHanded {} Try.checked os 4 .any (Rows.tokenMeetsSpec.pre6 enc Try.prog Try.f4 Rows.tokenMeetsRow.domain false) (Rows.tokenMeetsSpec.post enc Try.prog Try.f4 false true false false) := by
  refine returnsInHanded_of_change (C := Try.checked) own started (by kernel_rfl) Try.func4
    (ChangeSpec.witness6 (enc := enc) (C := Try.checked) false ⟨#[], #[wGr, wGr, wGr], []⟩ 8 (by kernel_rfl) (by kernel_rfl) (by kernel_rfl) (by kernel_rfl)) ?_
  intro W base args ds gs before hval0 hW hcnd _
  have hval : ∀ (j : Nat) t v, Try.f4.params[j]? = some t → args[j]? = some v → Value.okWide Try.prog W .any base t v := hval0
  have hW' := hW
  obtain ⟨p, q, hA0, hV, rfl, hfz, hnd⟩ := hW
  have hA : DataW.TrodAll enc Try.prog W 0 (fun _ => true) true Try.f4.params.toList args.toList ds p := hA0
  rw [Try.params4] at hA hval
  obtain ⟨v0, vs0, d0, ds0, p0, q0, hargs, rfl, rfl, h0, r0⟩ := trodAll_cons hA
  obtain ⟨v1, vs1, d1, ds1, p1, q1, rfl, rfl, rfl, h1, r1⟩ := trodAll_cons r0
  obtain ⟨v2, vs2, d2, ds2, p2, q2, rfl, rfl, rfl, h2, r2⟩ := trodAll_cons r1
  obtain ⟨rfl, rfl, rfl⟩ := trodAll_nil r2
  obtain rfl : args = #[v0, v1, v2] := by cases args; simp_all
  obtain ⟨rfl, rfl⟩ := trodVars_none hV
  have k0 := h0
  have lt0 : ∀ x ∈ p0, x.block < W.heap.size := by obtain ⟨m, hm⟩ := k0; exact DataW.trod_lt m _ _ _ hm
  obtain ⟨cs0, rfl, hc0⟩ := okWide_struct Try.underlying30 (hval 0 30 v0 rfl rfl)
  obtain ⟨a0, e0, w0⟩ : ∃ a, Value.agg cs0 = Gt.V a ∧ Gt.I a := by
    obtain ⟨fuel, hf⟩ := h0
    exact grant_of (cs := cs0) hf (by rw [hc0]; kernel_rfl)
  have k1 := h1
  have lt1 : ∀ x ∈ p1, x.block < W.heap.size := by obtain ⟨m, hm⟩ := k1; exact DataW.trod_lt m _ _ _ hm
  obtain ⟨cs1, rfl, hc1⟩ := okWide_struct Try.underlying30 (hval 1 30 v1 rfl rfl)
  obtain ⟨a1, e1, w1⟩ : ∃ a, Value.agg cs1 = Gt.V a ∧ Gt.I a := by
    obtain ⟨fuel, hf⟩ := h1
    exact grant_of (cs := cs1) hf (by rw [hc1]; kernel_rfl)
  have k2 := h2
  have lt2 : ∀ x ∈ p2, x.block < W.heap.size := by obtain ⟨m, hm⟩ := k2; exact DataW.trod_lt m _ _ _ hm
  obtain ⟨cs2, rfl, hc2⟩ := okWide_struct Try.underlying30 (hval 2 30 v2 rfl rfl)
  obtain ⟨a2, e2, w2⟩ : ∃ a, Value.agg cs2 = Gt.V a ∧ Gt.I a := by
    obtain ⟨fuel, hf⟩ := h2
    exact grant_of (cs := cs2) hf (by rw [hc2]; kernel_rfl)
  clear hA0 hval0
  have hw := walk a0 a1 a2 W w0 w1 w2
  rw [← e0] at hw
  rw [← e1] at hw
  rw [← e2] at hw
  refine hw.mono fun e W' ⟨he, bel⟩ => ?_
  subst he
  exact ⟨_, rfl, _, _, _, [], _, [], hW', trodAll_mk1 (shut_bool Try.underlying4 _), (trodAll_cons_mk (Below.trod laidOut (by kernel_rfl) (of_decide_eq_true (by kernel_rfl)) k0 bel lt0) (trodAll_cons_mk (Below.trod laidOut (by kernel_rfl) (of_decide_eq_true (by kernel_rfl)) k1 bel lt1) (trodAll_cons_mk (Below.trod laidOut (by kernel_rfl) (of_decide_eq_true (by kernel_rfl)) k2 bel lt2) trodAll_mk0))), rfl, bel.frame _, fun h => by cases h⟩
theorem over : Rows.tokenMeetsRow.holds Try.pinned (OpenSpec.ofChange Rows.tokenMeetsSpec) :=
  OpenClaim.holds_of_wide 4 Try.f4 rfl rfl rfl rfl rfl rfl rfl ⟨rfl, rfl, rfl, rfl, rfl⟩ rfl rfl rfl rfl rfl (by kernel_rfl) Try.func4 (by kernel_rfl)
    (of_decide_eq_true (by kernel_rfl)) (by unfold Func.isWrapper; first | (rw [if_pos (by decide +kernel)]; kernel_rfl) | (rw [if_neg (by decide +kernel)]; exact ⟨rfl, rfl⟩))
    (fun os started H enc _ => lifted os started H enc)
/-- The statement. -/
theorem proved : Rows.TokenMeetsSaid := over
#print axioms proved
end Go.Proofs.Ytjpjkoipmmcigaa.tokenMeets
