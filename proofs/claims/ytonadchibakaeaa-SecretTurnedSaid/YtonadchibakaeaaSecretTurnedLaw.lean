/- SecretTurned: (P15.3) a list with other numbers ahead of a secret has it as far behind, in as many steps more as they take. Conditions: none. -/
import Derived.Test.YtonadchibakaeaaSe3
import Derived.Test.YtonadchibakaeaaSe4
namespace Go.Proofs.Ytonadchibakaeaa.secretTurned
set_option linter.unusedVariables false
set_option linter.unusedSimpArgs false
open Go.ChangeShapes Go.WideShapes Go.ChangeAt Go.RowKit
open Go.ChangeMaps (open_string shut_string)
set_option maxRecDepth 100000 in
set_option maxHeartbeats 2000000 in
theorem walkN (A B : Option Addr) (n c n2 c2 s : Nat) (l m : List Nat) (w : World) (hn : n ≤ maxLen) (hn2 : n2 ≤ maxLen) (hA : RU w A n l) (hB : RU w B n2 m) (hs : s ≤ 18446744073709551615) :
    Calls Try.prog 6 #[.slice A n c, .slice B n2 c2, .int .u64 s] w fun e w' => e = .returned (.bool true) ∧ Below w.heap.size w w' := by
  unfold maxLen at hn hn2
  have HA := Lib.hid hA; clear hA
  have HB := Lib.hid hB; clear hB
  have HLA := Lib.hid HA.out.len
  have HLB := Lib.hid HB.out.len
  by_cases hb : 1000 < n
  · go_enter Try.func6, Try.ntmps6
    go_wp2_with fail
    refine (sknown_any _).mono ?_
    rintro e w9 ⟨rfl, h9⟩
    go_wp2
    go_ret
    exact ⟨rfl, h9⟩
  by_cases hb2 : 1000 < n2
  · go_enter Try.func6, Try.ntmps6
    go_wp2_with fail
    refine (sknown_any _).mono ?_
    rintro e w9 ⟨rfl, h9⟩
    go_wp2
    go_ret
    exact ⟨rfl, h9⟩
  have HR := Lib.hid (fun w hA => rfind_any m B n2 c2 s hs w hA (by omega))
  by_cases hq : 0 ≤ fnd m s
  · generalize fnd m s = q at HR hq
    go_enter Try.func6, Try.ntmps6
    go_wp2_with fail
    refine (HR.out _ HB.out).mono ?_
    rintro e w2 ⟨rfl, rfl⟩
    go_wp2_with fail
    refine (sknown_any _).mono ?_
    rintro e w9 ⟨rfl, h9⟩
    go_wp2
    go_ret
    exact ⟨rfl, h9⟩
  have HAP := Lib.hid (fnd_append m l s (by omega))
  generalize fnd m s = q at HR hq
  have ht : Try.prog.underlying 27 = some (.slice elU.T) := Try.underlying27
  have HT := Lib.hid ht; clear ht
  go_enter Try.func6, Try.ntmps6
  go_wp2_with fail
  refine (HR.out _ HB.out).mono ?_
  rintro e w2 ⟨rfl, rfl⟩
  go_wp2
  clear hq
  go_loopw [7, 8] (fun v i wr => ∃ k : Nat, k ≤ n2 ∧ i = .int .i64 k ∧ FU w v (m.take k) wr) (fun _ i _ => n2 - (intOf i).toNat)
  case atStart => exact ⟨0, Nat.zero_le _, rfl, by simpa using FU.nil_ w w (Below.refl _ _)⟩
  case round =>
    obtain ⟨k, hk, rfl, HF⟩ := hrel
    by_cases hlt : k < n2
    · have hkl : k < m.length := by rw [HLB.out]; exact hlt
      obtain ⟨aa, rfl, hba, hca⟩ := (HB.out.below HF.bel).at k hkl
      have HTK := Lib.hid (take_u m k hkl)
      generalize m[k] = x at hca HTK
      obtain ⟨A1, c1, rfl, hc1, hc2⟩ := HF.own.slice
      have HL : (m.take k).length ≤ 1000000 := by rw [List.length_take]; omega
      have hlt2 : (k : Int) < n2 := by omega
      have HFH := Lib.hid HF; clear HF
      have HLH := Lib.hid HL; clear HL
      generalize (m.take k).length = z at HFH ⊢
      go_wp2_with ((at_builtin; refine wpList_epush elU_ok rfl (.tmp 35) (.tmp 40) _ rfl HT.out _ (m.take k) x wr.heap.size 1 rfl rfl (HFH.out.own.below ((Below.refl _ _).alloc (Nat.le_refl _) _)) (new_u _ _ x) HLH.out ?_; intro v2 w2 hA2; have HN := Lib.hid (HFH.out.push hA2); clear hA2))
      go_roundw
      case rel => exact ⟨k + 1, by omega, by go_num, by have h9 := HN.out; rw [← HTK.out] at h9; exact h9⟩
      case measure => simp [intOf]; omega
    · obtain rfl : k = n2 := by omega
      have HF2 := Lib.hid (show FU w _ (m ++ l.take 0) wr by rw [List.take_of_length_le (by rw [HLB.out]; omega)] at HF; simpa using HF)
      have HLB2 := HLB.out
      clear HF
      obtain ⟨A1, c1, rfl, hc1, hc2⟩ := HF2.out.own.slice
      have hz : (m ++ l.take 0).length = k + 0 := by simp [HLB2]
      rw [hz] at HF2 ⊢
      clear HLB2 hz hc1 hc2
      go_wp2
      have START := HF2.out
      clear HF2
      go_loopw [7, 9] (fun v i wr => ∃ j : Nat, j ≤ n ∧ i = .int .i64 j ∧ FU w v (m ++ l.take j) wr) (fun _ i _ => n - (intOf i).toNat)
      case atStart => exact ⟨0, Nat.zero_le _, rfl, START⟩
      case round =>
        obtain ⟨j, hj, rfl, HF⟩ := hrel
        clear START
        by_cases hlt : j < n
        · have hkl : j < l.length := by rw [HLA.out]; exact hlt
          obtain ⟨aa, rfl, hba, hca⟩ := (HA.out.below HF.bel).at j hkl
          have HTK := Lib.hid (take_u l j hkl)
          generalize l[j] = x at hca HTK
          obtain ⟨A1, c1, rfl, hc1, hc2⟩ := HF.own.slice
          have HL : (m ++ l.take j).length ≤ 1000000 := by rw [List.length_append, List.length_take, HLB.out]; omega
          have hlt2 : (j : Int) < n := by omega
          have HFH := Lib.hid HF; clear HF
          have HLH := Lib.hid HL; clear HL
          generalize (m ++ l.take j).length = z at HFH ⊢
          go_wp2_with ((at_builtin; refine wpList_epush elU_ok rfl (.tmp 48) (.tmp 53) _ rfl HT.out _ (m ++ l.take j) x wr.heap.size 1 rfl rfl (HFH.out.own.below ((Below.refl _ _).alloc (Nat.le_refl _) _)) (new_u _ _ x) HLH.out ?_; intro v2 w2 hA2; have HN := Lib.hid (HFH.out.push hA2); clear hA2))
          go_roundw
          case rel => exact ⟨j + 1, by omega, by go_num, by have h9 := HN.out; rw [List.append_assoc, ← HTK.out] at h9; exact h9⟩
          case measure => simp [intOf]; omega
        · obtain rfl : j = n := by omega
          have HF2 := Lib.hid (show FU w _ (m ++ l) wr by rw [List.take_of_length_le (by rw [HLA.out]; omega)] at HF; exact HF)
          clear HF
          obtain ⟨A1, c1, rfl, hc1, hc2⟩ := HF2.out.own.slice
          have hz : (m ++ l).length = k + j := by rw [List.length_append, HLA.out, HLB.out]
          rw [hz] at HF2 ⊢
          have HRU : Hid (RU wr A1 (k + j) (m ++ l)) := HF2.out.own.ru (fun x hx => by
            rcases List.mem_append.1 hx with h | h
            · exact HB.out.le x h
            · exact HA.out.le x h)
          have HBL := Lib.hid HF2.out.bel
          have HA2 := Lib.hid (HA.out.below HBL.out)
          clear hz hc1 hc2 HF2
          have HF1 := Lib.hid (fun w hA => find_any l A j c s hs w hA (by omega))
          have HF3 := Lib.hid (fun w hA => find_any (m ++ l) A1 (k + j) c1 s hs w hA (by omega))
          have hq1 := fnd_ge l s
          have HQ := HAP.out
          by_cases hneg : fnd l s < 0
          · rw [if_pos hneg] at HQ
            rw [HQ] at HF3
            clear HQ HAP
            generalize fnd l s = q1 at HF1 hneg hq1
            go_wp2_with fail
            refine (HF1.out _ HA2.out).mono ?_
            rintro e w3 ⟨rfl, h3⟩
            have HRU2 := Lib.hid (HRU.out.below h3)
            have H3 := Lib.hid (below_trans HBL.out h3)
            clear h3
            go_wp2_with fail
            refine (HF3.out _ HRU2.out).mono ?_
            rintro e w4 ⟨rfl, h4⟩
            have H4 := Lib.hid (below_trans H3.out h4)
            clear h4
            have hm : ((8 * (k + j) : Nat) : Int) = ((8 * j : Nat) : Int) + 8 * (k : Int) := by omega
            rw [hm]
            clear hm
            go_wp2_with fail
            refine (sknown_any _).mono ?_
            rintro e w9 ⟨rfl, h9⟩
            go_wp2
            go_ret
            exact ⟨rfl, below_trans H4.out h9⟩
          · rw [if_neg hneg, HLB.out] at HQ
            rw [HQ] at HF3
            have hq2 := fnd_lt l s
            rw [HLA.out] at hq2
            clear HQ HAP
            generalize fnd l s = q1 at HF1 HF3 hneg hq1 hq2
            go_wp2_with fail
            refine (HF1.out _ HA2.out).mono ?_
            rintro e w3 ⟨rfl, h3⟩
            have HRU2 := Lib.hid (HRU.out.below h3)
            have H3 := Lib.hid (below_trans HBL.out h3)
            clear h3
            go_wp2_with fail
            refine (HF3.out _ HRU2.out).mono ?_
            rintro e w4 ⟨rfl, h4⟩
            have H4 := Lib.hid (below_trans H3.out h4)
            clear h4
            have hm : ((8 * (k + j) : Nat) : Int) = ((8 * j : Nat) : Int) + 8 * (k : Int) := by omega
            have hq : (k : Int) + q1 = q1 + (k : Int) := by omega
            rw [hm, hq]
            clear hm hq
            go_wp2_with fail
            refine (sknown_any _).mono ?_
            rintro e w9 ⟨rfl, h9⟩
            go_wp2
            go_ret
            exact ⟨rfl, below_trans H4.out h9⟩
theorem walk (A : Option Addr) (n c : Nat) (zs : List Int) (B : Option Addr) (n2 c2 : Nat) (ys : List Int) (s : Int) (w : World) (h : IsRow .u64 w A n c zs) (h2 : IsRow .u64 w B n2 c2 ys) (hs : 0 ≤ s ∧ s ≤ 18446744073709551615) :
    Calls Try.prog 6 #[.slice A n c, .slice B n2 c2, .int .u64 s] w fun e w' => e = .returned (.bool true) ∧ Below w.heap.size w w' := by
  obtain ⟨m, rfl⟩ := Int.eq_ofNat_of_zero_le hs.1
  obtain ⟨hn, l, hl⟩ := h.ru
  obtain ⟨hn2, l2, hl2⟩ := h2.ru
  exact walkN A B n c n2 c2 m l l2 w hn hn2 hl hl2 (by omega)
theorem own : ownKnob Try.prog.godebug = none := by kernel_rfl
theorem laidOut : laidOutB Try.prog = true := by kernel_rfl
set_option maxRecDepth 100000 in
theorem lifted (os : Os) (started : os.Started) (H : Type) (enc : TypeId × Value → H) :
    ReturnsInHanded {} Try.checked os 6 .any (Rows.secretTurnedSpec.pre6 enc Try.prog Try.f6 Rows.secretTurnedRow.domain false) (Rows.secretTurnedSpec.post enc Try.prog Try.f6 false true false false) := by
  refine returnsInHanded_of_change (C := Try.checked) own started (by kernel_rfl) Try.func6
    (ChangeSpec.witness6 (enc := enc) (C := Try.checked) false ⟨#[], #[.slice none 0 0, .slice none 0 0, .int .u64 0], []⟩ 8 (by kernel_rfl) (by kernel_rfl) (by kernel_rfl) (by kernel_rfl)) ?_
  intro W base args ds gs before hval0 hW hcnd _
  have hval : ∀ (j : Nat) t v, Try.f6.params[j]? = some t → args[j]? = some v → Value.okWide Try.prog W .any base t v := hval0
  have hW' := hW
  obtain ⟨p, q, hA0, hV, rfl, hfz, hnd⟩ := hW
  have hA : DataW.TrodAll enc Try.prog W 0 (fun _ => true) true Try.f6.params.toList args.toList ds p := hA0
  rw [Try.params6] at hA hval
  obtain ⟨v0, vs0, d0, ds0, p0, q0, hargs, rfl, rfl, h0, r0⟩ := trodAll_cons hA
  obtain ⟨v1, vs1, d1, ds1, p1, q1, rfl, rfl, rfl, h1, r1⟩ := trodAll_cons r0
  obtain ⟨v2, vs2, d2, ds2, p2, q2, rfl, rfl, rfl, h2, r2⟩ := trodAll_cons r1
  obtain ⟨rfl, rfl, rfl⟩ := trodAll_nil r2
  obtain rfl : args = #[v0, v1, v2] := by cases args; simp_all
  obtain ⟨rfl, rfl⟩ := trodVars_none hV
  have k0 := h0
  have lt0 : ∀ x ∈ p0, x.block < W.heap.size := by obtain ⟨m, hm⟩ := k0; exact DataW.trod_lt m _ _ _ hm
  obtain ⟨a0, len0, cap0, rfl⟩ := okWide_slice Try.underlying27 (hval 0 27 v0 rfl rfl)
  obtain ⟨z0, w0⟩ : ∃ zs, IsRow .u64 W a0 len0 cap0 zs := by
    obtain ⟨fuel, hf⟩ := h0
    rcases open_ints Try.underlying27 Try.underlying22 (by kernel_rfl) hf with ⟨hcs, _⟩ | ⟨x, l, c, zs, hcs, _, hl, hm, hz, _, hcell, hwz⟩
    · simp [Value.cells] at hcs
      obtain ⟨rfl, rfl, rfl⟩ := hcs
      exact ⟨[], .inl ⟨rfl, rfl, rfl, rfl⟩⟩
    · simp [Value.cells] at hcs
      obtain ⟨rfl, rfl, rfl⟩ := hcs
      exact ⟨zs, .inr ⟨_, rfl, hl, hm, by simpa using hz, hcell, hwz⟩⟩
  have k1 := h1
  have lt1 : ∀ x ∈ p1, x.block < W.heap.size := by obtain ⟨m, hm⟩ := k1; exact DataW.trod_lt m _ _ _ hm
  obtain ⟨a1, len1, cap1, rfl⟩ := okWide_slice Try.underlying27 (hval 1 27 v1 rfl rfl)
  obtain ⟨z1, w1⟩ : ∃ zs, IsRow .u64 W a1 len1 cap1 zs := by
    obtain ⟨fuel, hf⟩ := h1
    rcases open_ints Try.underlying27 Try.underlying22 (by kernel_rfl) hf with ⟨hcs, _⟩ | ⟨x, l, c, zs, hcs, _, hl, hm, hz, _, hcell, hwz⟩
    · simp [Value.cells] at hcs
      obtain ⟨rfl, rfl, rfl⟩ := hcs
      exact ⟨[], .inl ⟨rfl, rfl, rfl, rfl⟩⟩
    · simp [Value.cells] at hcs
      obtain ⟨rfl, rfl, rfl⟩ := hcs
      exact ⟨zs, .inr ⟨_, rfl, hl, hm, by simpa using hz, hcell, hwz⟩⟩
  have k2 := h2
  have lt2 : ∀ x ∈ p2, x.block < W.heap.size := by obtain ⟨m, hm⟩ := k2; exact DataW.trod_lt m _ _ _ hm
  obtain ⟨a2, rfl, rfl, rfl, w2⟩ := open_int Try.underlying22 (hval 2 22 v2 rfl rfl) h2
  clear hA0 hval0
  refine (walk a0 len0 cap0 z0 a1 len1 cap1 z1 a2 W w0 w1 (bounds_u64 w2)).mono fun e W' ⟨he, bel⟩ => ?_
  subst he
  exact ⟨_, rfl, _, _, _, [], _, [], hW', trodAll_mk1 (shut_bool Try.underlying4 _), (trodAll_cons_mk (Below.trod laidOut (by kernel_rfl) (of_decide_eq_true (by kernel_rfl)) k0 bel lt0) (trodAll_cons_mk (Below.trod laidOut (by kernel_rfl) (of_decide_eq_true (by kernel_rfl)) k1 bel lt1) (trodAll_cons_mk (Below.trod laidOut (by kernel_rfl) (of_decide_eq_true (by kernel_rfl)) k2 bel lt2) trodAll_mk0))), rfl, bel.frame _, fun h => by cases h⟩
theorem over : Rows.secretTurnedRow.holds Try.pinned (OpenSpec.ofChange Rows.secretTurnedSpec) :=
  OpenClaim.holds_of_wide 6 Try.f6 rfl rfl rfl rfl rfl rfl rfl ⟨rfl, rfl, rfl, rfl, rfl⟩ rfl rfl rfl rfl rfl (by kernel_rfl) Try.func6 (by kernel_rfl)
    (of_decide_eq_true (by kernel_rfl)) (by unfold Func.isWrapper; first | (rw [if_pos (by decide +kernel)]; kernel_rfl) | (rw [if_neg (by decide +kernel)]; exact ⟨rfl, rfl⟩))
    (fun os started H enc _ => lifted os started H enc)
/-- The statement. -/
theorem proved : Rows.SecretTurnedSaid := over
#print axioms proved
end Go.Proofs.Ytonadchibakaeaa.secretTurned
