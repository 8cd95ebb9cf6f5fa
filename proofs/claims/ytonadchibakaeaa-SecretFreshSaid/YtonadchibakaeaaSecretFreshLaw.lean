/- SecretFresh: (P15.2) a draw is a secret, if it is not 0 and stands nowhere yet; else the error says which. Conditions: none. -/
import Derived.Test.YtonadchibakaeaaSe3
namespace Go.Proofs.Ytonadchibakaeaa.secretFresh
set_option linter.unusedVariables false
set_option linter.unusedSimpArgs false
open Go.ChangeShapes Go.WideShapes Go.ChangeAt Go.RowKit
open Go.ChangeMaps (open_string shut_string)
set_option maxHeartbeats 1000000 in
theorem walkN (A : Option Addr) (n c s : Nat) (l : List Nat) (w : World) (hn : n ≤ maxLen) (hA : RU w A n l) (hs : s ≤ 18446744073709551615) :
    Calls Try.prog 5 #[.slice A n c, .int .u64 s] w fun e w' => e = .returned (.bool true) ∧ Below w.heap.size w w' := by
  unfold maxLen at hn
  have HA := Lib.hid hA; clear hA
  by_cases hb : 2000 < n
  · go_enter Try.func5, Try.ntmps5
    go_wp2_with fail
    refine (sknown_any _).mono ?_
    rintro e w9 ⟨rfl, h9⟩
    go_wp2
    go_ret
    exact ⟨rfl, h9⟩
  · have hn2 : n ≤ 2000 := by omega
    have hf := fun w hA => fresh_any l A n c s hs w hA (by omega)
    have HR := Lib.hid (fun w hA => rfind_any l A n c s hs w hA (by omega))
    by_cases h0 : s = 0
    · have e1 : frE l s = 40 := by simp [frE, h0]
      have e2 : frV l s = 0 := by simp [frV, e1]
      rw [e1, e2] at hf
      have HF := Lib.hid hf; clear hf e1 e2
      have h0' : ((s : Int) == 0) = true := by simp; exact h0
      clear h0
      go_enter Try.func5, Try.ntmps5
      go_wp2_with fail
      refine (HF.out _ HA.out).mono ?_
      rintro e w1 ⟨rfl, h1⟩
      have H1 := Lib.hid h1; clear h1
      go_wp2_with fail
      refine (sknown_any _).mono ?_
      rintro e w9 ⟨rfl, h9⟩
      go_wp2
      go_ret
      exact ⟨rfl, below_trans H1.out h9⟩
    · have h0' : ((s : Int) == 0) = false := by simp; exact h0
      by_cases hq : 0 ≤ fnd l s
      · have e1 : frE l s = 20 := by simp [frE, h0, hq]
        have e2 : frV l s = 0 := by simp [frV, e1]
        rw [e1, e2] at hf
        have HF := Lib.hid hf; clear hf e1 e2 h0
        generalize fnd l s = q at HR hq
        go_enter Try.func5, Try.ntmps5
        go_wp2_with fail
        refine (HF.out _ HA.out).mono ?_
        rintro e w1 ⟨rfl, h1⟩
        have HA1 := Lib.hid (HA.out.below h1)
        have H1 := Lib.hid h1; clear h1
        go_wp2_with fail
        refine (HR.out _ HA1.out).mono ?_
        rintro e w2 ⟨rfl, rfl⟩
        go_wp2_with fail
        refine (sknown_any _).mono ?_
        rintro e w9 ⟨rfl, h9⟩
        go_wp2
        go_ret
        exact ⟨rfl, below_trans H1.out h9⟩
      · have e1 : frE l s = 0 := by simp [frE, h0, hq]
        have e2 : frV l s = s := by simp [frV, e1]
        rw [e1, e2] at hf
        have HF := Lib.hid hf; clear hf e1 e2 h0
        generalize fnd l s = q at HR hq
        go_enter Try.func5, Try.ntmps5
        go_wp2_with fail
        refine (HF.out _ HA.out).mono ?_
        rintro e w1 ⟨rfl, h1⟩
        have HA1 := Lib.hid (HA.out.below h1)
        have H1 := Lib.hid h1; clear h1
        go_wp2_with fail
        refine (HR.out _ HA1.out).mono ?_
        rintro e w2 ⟨rfl, rfl⟩
        go_wp2_with fail
        refine (sknown_any _).mono ?_
        rintro e w9 ⟨rfl, h9⟩
        go_wp2
        go_ret
        exact ⟨rfl, below_trans H1.out h9⟩
theorem walk (A : Option Addr) (n c : Nat) (zs : List Int) (s : Int) (w : World) (h : IsRow .u64 w A n c zs) (hs : 0 ≤ s ∧ s ≤ 18446744073709551615) :
    Calls Try.prog 5 #[.slice A n c, .int .u64 s] w fun e w' => e = .returned (.bool true) ∧ Below w.heap.size w w' := by
  obtain ⟨m, rfl⟩ := Int.eq_ofNat_of_zero_le hs.1
  obtain ⟨hn, l, hl⟩ := h.ru
  exact walkN A n c m l w hn hl (by omega)
theorem own : ownKnob Try.prog.godebug = none := by kernel_rfl
theorem laidOut : laidOutB Try.prog = true := by kernel_rfl
set_option maxRecDepth 100000 in
theorem lifted (os : Os) (started : os.Started) (H : Type) (enc : TypeId × Value → H) :
    ReturnsInHanded {} Try.checked os 5 .any (Rows.secretFreshSpec.pre6 enc Try.prog Try.f5 Rows.secretFreshRow.domain false) (Rows.secretFreshSpec.post enc Try.prog Try.f5 false true false false) := by
  refine returnsInHanded_of_change (C := Try.checked) own started (by kernel_rfl) Try.func5
    (ChangeSpec.witness6 (enc := enc) (C := Try.checked) false ⟨#[], #[.slice none 0 0, .int .u64 0], []⟩ 8 (by kernel_rfl) (by kernel_rfl) (by kernel_rfl) (by kernel_rfl)) ?_
  intro W base args ds gs before hval0 hW hcnd _
  have hval : ∀ (j : Nat) t v, Try.f5.params[j]? = some t → args[j]? = some v → Value.okWide Try.prog W .any base t v := hval0
  have hW' := hW
  obtain ⟨p, q, hA0, hV, rfl, hfz, hnd⟩ := hW
  have hA : DataW.TrodAll enc Try.prog W 0 (fun _ => true) true Try.f5.params.toList args.toList ds p := hA0
  rw [Try.params5] at hA hval
  obtain ⟨v0, vs0, d0, ds0, p0, q0, hargs, rfl, rfl, h0, r0⟩ := trodAll_cons hA
  obtain ⟨v1, vs1, d1, ds1, p1, q1, rfl, rfl, rfl, h1, r1⟩ := trodAll_cons r0
  obtain ⟨rfl, rfl, rfl⟩ := trodAll_nil r1
  obtain rfl : args = #[v0, v1] := by cases args; simp_all
  obtain ⟨rfl, rfl⟩ := trodVars_none hV
  have k0 := h0
  have lt0 : ∀ x ∈ p0, x.block < W.heap.size := by obtain ⟨m, hm⟩ := k0; exact DataW.trod_lt m _ _ _ hm
  obtain ⟨a0, len0, cap0, rfl⟩ := okWide_slice Try.underlying27 (hval 0 27 v0 rfl rfl)
  obtain ⟨z0, w0⟩ : ∃ zs, IsRow .u64 W a0 len0 cap0 zs := by
    obtain ⟨fuel, hf⟩ := h0
    rcases open_ints Try.underlying27 Try.underlying22 (by kernel_rfl) hf with ⟨hcs, _⟩ | ⟨x, l, c, zs, hcs, _, hl, hm, hz, _, hcell, hwz⟩
    · simp [Value.cells] at hcs
      obtain ⟨rfl, rfl, rfl⟩ := hcs
      exact ⟨[], .inl ⟨rfl, rfl, rfl, rfl⟩⟩
    · simp [Value.cells] at hcs
      obtain ⟨rfl, rfl, rfl⟩ := hcs
      exact ⟨zs, .inr ⟨_, rfl, hl, hm, by simpa using hz, hcell, hwz⟩⟩
  have k1 := h1
  have lt1 : ∀ x ∈ p1, x.block < W.heap.size := by obtain ⟨m, hm⟩ := k1; exact DataW.trod_lt m _ _ _ hm
  obtain ⟨a1, rfl, rfl, rfl, w1⟩ := open_int Try.underlying22 (hval 1 22 v1 rfl rfl) h1
  clear hA0 hval0
  refine (walk a0 len0 cap0 z0 a1 W w0 (bounds_u64 w1)).mono fun e W' ⟨he, bel⟩ => ?_
  subst he
  exact ⟨_, rfl, _, _, _, [], _, [], hW', trodAll_mk1 (shut_bool Try.underlying4 _), (trodAll_cons_mk (Below.trod laidOut (by kernel_rfl) (of_decide_eq_true (by kernel_rfl)) k0 bel lt0) (trodAll_cons_mk (Below.trod laidOut (by kernel_rfl) (of_decide_eq_true (by kernel_rfl)) k1 bel lt1) trodAll_mk0)), rfl, bel.frame _, fun h => by cases h⟩
theorem over : Rows.secretFreshRow.holds Try.pinned (OpenSpec.ofChange Rows.secretFreshSpec) :=
  OpenClaim.holds_of_wide 5 Try.f5 rfl rfl rfl rfl rfl rfl rfl ⟨rfl, rfl, rfl, rfl, rfl⟩ rfl rfl rfl rfl rfl (by kernel_rfl) Try.func5 (by kernel_rfl)
    (of_decide_eq_true (by kernel_rfl)) (by unfold Func.isWrapper; first | (rw [if_pos (by decide +kernel)]; kernel_rfl) | (rw [if_neg (by decide +kernel)]; exact ⟨rfl, rfl⟩))
    (fun os started H enc _ => lifted os started H enc)
/-- The statement. -/
theorem proved : Rows.SecretFreshSaid := over
#print axioms proved
end Go.Proofs.Ytonadchibakaeaa.secretFresh
