/- RegionTurned: (P13.2, P13.3) regions with the same points have the same form, in whichever order they are told, and however often. Conditions: none. -/
import Derived.Test.YtimfcgnnfgoaaaaRgQ
import Derived.Test.YtimfcgnnfgoaaaaRgH0
namespace Go.Proofs.Ytimfcgnnfgoaaaa.regionTurned
set_option linter.unusedVariables false
set_option linter.unusedSimpArgs false
open Go.ChangeShapes Go.WideShapes Go.ChangeAt Go.RowKit
open Go.ChangeMaps (open_string shut_string)
theorem cA_same {a b : List Bx} (h : ∀ r, r ∈ a ↔ r ∈ b) : cA a = cA b := by
  funext x y
  rw [Bool.eq_iff_iff, cA_iff, cA_iff]
  unfold inA
  exact ⟨fun ⟨r, hr, h2⟩ => ⟨r, (h r).1 hr, h2⟩, fun ⟨r, hr, h2⟩ => ⟨r, (h r).2 hr, h2⟩⟩
theorem right_same {a b : List Bx} (h : ∀ r, r ∈ a ↔ r ∈ b) : rightA a ↔ rightA b := ⟨fun h2 r hr => h2 r ((h r).2 hr), fun h2 r hr => h2 r ((h r).1 hr)⟩
theorem turned_mem (L : List Bx) (k : Nat) (r : Bx) : r ∈ L ↔ r ∈ (L.drop k).reverse ++ L := by
  rw [List.mem_append, List.mem_reverse]
  exact ⟨.inr, fun h => h.elim List.mem_of_mem_drop id⟩
theorem chk2_few {a b : List Bx} (h : a.length ≤ 256) (k : b.length ≤ 256) : chk2 a b = if allRight a = true ∧ allRight b = true then 0 else 1 := by unfold chk2; rw [if_neg (by omega)]
theorem drop_back {L : List Bx} {j : Nat} (h : j < L.length) : (L.drop j).reverse = (L.drop (j + 1)).reverse ++ [L[j]] := by
  rw [List.drop_eq_getElem_cons h, List.reverse_cons]
theorem new_rect2 (w : World) (t : TypeId) (x : Bx) : ∀ j u, (elR.enc x)[j]? = some u → (w.alloc (.cells #[.int .i64 x.x0, .int .i64 x.y0, .int .i64 x.x1, .int .i64 x.y1] t)).cell? ⟨w.heap.size, j, none⟩ = some u := fun j u hu => new_cellT _ _ _ j (by simpa [elR] using hu)
set_option maxRecDepth 100000 in
set_option maxHeartbeats 8000000 in
theorem walkN (v : Value) (L : List Bx) (p : Int) (w : World) (h : ERd elR w v L) (hp : -9223372036854775808 ≤ p ∧ p ≤ 9223372036854775807) :
    Calls Try.prog 6 #[v, .int .i64 p] w fun e w' => e = .returned (.bool true) ∧ Below w.heap.size w w' := by
  obtain ⟨A1, c1, rfl, -, -⟩ := h.shape
  have HL := Lib.hid h
  clear h hp
  have HTY := Lib.hid (show Try.prog.underlying 22 = some (.slice elR.T) from Try.underlying22)
  obtain ⟨n, hn⟩ : ∃ n, n = L.length := ⟨_, rfl⟩
  rw [← hn] at HL ⊢
  have HN := Lib.hid hn; clear hn
  by_cases h1 : 40 < n
  · have h1b : (40 : Int) < (n : Int) := by omega
    clear h1
    go_enter Try.func6, Try.ntmps6
    go_wp2_with fail
    refine (known13_any _).mono ?_
    rintro e w1 ⟨rfl, hb⟩
    go_wp2
    go_ret
    exact ⟨rfl, hb⟩
  · have h1b : ¬ (40 : Int) < (n : Int) := by omega
    by_cases h2 : p < 0
    · clear h1
      go_enter Try.func6, Try.ntmps6
      go_wp2_with fail
      refine (known13_any _).mono ?_
      rintro e w1 ⟨rfl, hb⟩
      go_wp2
      go_ret
      exact ⟨rfl, hb⟩
    · by_cases h3 : (n : Int) < p
      · clear h1
        go_enter Try.func6, Try.ntmps6
        go_wp2_with fail
        refine (known13_any _).mono ?_
        rintro e w1 ⟨rfl, hb⟩
        go_wp2
        go_ret
        exact ⟨rfl, hb⟩
      · obtain ⟨k, rfl⟩ := Int.eq_ofNat_of_zero_le (show 0 ≤ p by omega)
        have hkn : k ≤ n := by omega
        have h2b : ¬ (k : Int) < 0 := by omega
        have HF0 := Lib.hid (show FE elR w (.slice none 0 0) (L.drop n).reverse w from by rw [HN.out, List.drop_length]; exact FE.nil_ _ _ (Below.refl _ _))
        have HNB := Lib.hid (show n ≤ 40 from by omega)
        have hn1 : wrap64 ((n : Int) - 1) = (n : Int) - 1 := by unfold wrap64; omega
        clear h1 h2
        go_enter Try.func6, Try.ntmps6
        go_wp2_with fail
        go_loopw [5, 6] (fun v i wr => ∃ (j : Nat) (v0 : Value), k ≤ j ∧ j ≤ n ∧ v = v0 ∧ i = .int .i64 ((j : Int) - 1) ∧ Hid (FE elR w v0 (L.drop j).reverse wr)) (fun _ i _ => (intOf i + 1).toNat)
        case atStart => exact ⟨n, _, hkn, Nat.le_refl _, rfl, rfl, HF0⟩
        case round =>
          rename World => wr
          obtain ⟨j, v0, hkj, hjn, hv, rfl, HF⟩ := hrel
          have hv' := hv.symm
          clear hv
          subst hv'
          by_cases hlt : k < j
          · obtain ⟨i, rfl⟩ : ∃ i, j = i + 1 := ⟨j - 1, by omega⟩
            have hji : (k : Int) ≤ ((i + 1 : Nat) : Int) - 1 := by omega
            have hkl : i < L.length := by rw [← HN.out]; omega
            have hx : L[i]? = some L[i] := List.getElem?_eq_getElem hkl
            have HTK := Lib.hid (drop_back hkl)
            have HLE := Lib.hid (show (L.drop (i + 1)).reverse.length ≤ 1000000 from by rw [List.length_reverse, List.length_drop]; have := HNB.out; have := HN.out; omega)
            obtain ⟨g, o, rfl, hg, a0, a1, a2, a3⟩ := (HL.out.below HF.out.bel).rect hx
            generalize L[i] = x at *
            clear hx hg hkl
            have hi0 : (((i + 1 : Nat) : Int) - 1) = (i : Int) := by omega
            have hin : (i : Int) < (n : Int) := by omega
            have hki : (k : Int) ≤ (i : Int) := by omega
            have hw1 : wrap64 ((i : Int) - 1) = (i : Int) - 1 := by have := HNB.out; unfold wrap64; omega
            rw [hi0] at hji ⊢
            obtain ⟨A5, c5, hv5, -, -⟩ := HF.out.own.slice
            subst hv5
            have HAL := Lib.hid (fun (ob : Obj) => HF.out.own.below ((Below.refl wr.heap.size wr).alloc (Nat.le_refl _) ob))
            generalize hRL : (L.drop (i + 1)).reverse = RL at *
            clear hRL
            go_wp2_with ((at_builtin; refine wpList_epush elR_ok rfl (.tmp 34) (.tmp 39) _ rfl HTY.out _ RL x wr.heap.size 1 rfl rfl (HAL.out _) (new_rect2 wr _ x) HLE.out ?_; intro v2 w3 hA2; have HP2 := Lib.hid (HF.out.push hA2); clear hA2))
            go_roundw
            case rel => exact ⟨i, _, by omega, by omega, rfl, rfl, by have h9 := HP2.out; rw [← HTK.out] at h9; exact Lib.hid h9⟩
            case measure =>
              try rw [hw1]
              simp only [intOf]
              omega
          · obtain rfl : j = k := by omega
            have hji : ¬ (j : Int) ≤ (j : Int) - 1 := by omega
            have HF1 := Lib.hid (show FE elR w v0 ((L.drop j).reverse ++ L.take 0) wr from by simpa using HF.out)
            generalize hRL : (L.drop j).reverse = RL at *
            have HRL := Lib.hid hRL
            have HRN := Lib.hid (show RL.length ≤ 40 from by rw [← hRL, List.length_reverse, List.length_drop]; have := HNB.out; have := HN.out; omega)
            clear HF hRL
            go_wp2_with fail
            go_loopw [5, 7] (fun v i wx => ∃ (q : Nat) (v0 : Value), q ≤ n ∧ v = v0 ∧ i = .int .i64 (q : Int) ∧ Hid (FE elR w v0 (RL ++ L.take q) wx)) (fun _ i _ => n - (intOf i).toNat)
            case atStart => exact ⟨0, _, Nat.zero_le _, rfl, rfl, HF1⟩
            case round =>
              rename World => wx
              obtain ⟨q, v1, hq, hv, rfl, HF⟩ := hrel
              have hv' := hv.symm
              clear hv
              subst hv'
              by_cases hlt2 : q < n
              · have hqi : (q : Int) < (n : Int) := by omega
                have hkl : q < L.length := by rw [← HN.out]; exact hlt2
                have hx : L[q]? = some L[q] := List.getElem?_eq_getElem hkl
                have HTK := Lib.hid (show RL ++ L.take (q + 1) = RL ++ L.take q ++ [L[q]] from by rw [List.take_succ_eq_append_getElem hkl, List.append_assoc])
                have HLE := Lib.hid (show (RL ++ L.take q).length ≤ 1000000 from by rw [List.length_append, List.length_take]; have := HNB.out; have := HRN.out; omega)
                obtain ⟨g, o, rfl, hg, a0, a1, a2, a3⟩ := (HL.out.below HF.out.bel).rect hx
                generalize L[q] = x at *
                clear hx hg hkl
                have hw1 : wrap64 ((q : Int) + 1) = (q : Int) + 1 := by have := HNB.out; unfold wrap64; omega
                obtain ⟨A5, c5, hv5, -, -⟩ := HF.out.own.slice
                subst hv5
                have HAL := Lib.hid (fun (ob : Obj) => HF.out.own.below ((Below.refl wx.heap.size wx).alloc (Nat.le_refl _) ob))
                generalize hRM : RL ++ L.take q = RM at *
                clear hRM
                go_wp2_with ((at_builtin; refine wpList_epush elR_ok rfl (.tmp 47) (.tmp 52) _ rfl HTY.out _ RM x wx.heap.size 1 rfl rfl (HAL.out _) (new_rect2 wx _ x) HLE.out ?_; intro v2 w3 hA2; have HP2 := Lib.hid (HF.out.push hA2); clear hA2))
                go_roundw
                case rel => exact ⟨q + 1, _, by omega, rfl, by go_num, by have h9 := HP2.out; rw [← HTK.out] at h9; exact Lib.hid h9⟩
                case measure =>
                  try rw [hw1]
                  simp only [intOf]
                  omega
              · obtain rfl : q = n := by omega
                have HFB := Lib.hid (show FE elR w v1 (RL ++ L) wx from by have h9 := HF.out; rw [List.take_of_length_le (by rw [← HN.out]; omega)] at h9; exact h9)
                have HMM := Lib.hid (show ∀ r, r ∈ L ↔ r ∈ RL ++ L from by intro r; rw [← HRL.out]; exact turned_mem L j r)
                have HLN := Lib.hid (show L.length ≤ 40 ∧ (RL ++ L).length ≤ 80 from ⟨by rw [← HN.out]; exact HNB.out, by rw [List.length_append, ← HN.out]; have := HNB.out; have := HRN.out; omega⟩)
                have HCE := Lib.hid (show chk2 (RL ++ L) [] = chk2 L [] ∧ (chk2 L (RL ++ L) = 0 ↔ chk2 L [] = 0) from by
                  have hrs := right_same HMM.out
                  have hb := HLN.out
                  have e1 : allRight (RL ++ L) = allRight L := by rw [Bool.eq_iff_iff, allRight_iff, allRight_iff]; exact hrs.symm
                  refine ⟨by rw [chk2_few (by omega) (by simp), chk2_few (by omega) (by simp), e1], ?_⟩
                  rw [chk2_zero, chk2_zero]
                  exact ⟨fun h => ⟨h.1, by simp, h.2.2.1, fun r hr => by simp at hr⟩, fun h => ⟨h.1, by omega, h.2.2.1, hrs.1 h.2.2.1⟩⟩)
                have HCA := Lib.hid (cA_same HMM.out)
                generalize hB : RL ++ L = B at *
                clear HF HF1 hB
                have HU1 := Lib.hid (union_any wx _ L (HL.out.below HFB.out.bel) (by have := HLN.out; omega) (fun _ => by have := HLN.out; omega))
                go_wp2_with fail
                refine HU1.out.mono ?_
                rintro e w1 ⟨x1, L1, rfl, hf1, hok1, hno1, -⟩
                have HB1 := Lib.hid (below_trans HFB.out.bel hf1.bel)
                have HFB1 := Lib.hid (ERd.of_own elR_ok (HFB.out.own.below hf1.bel))
                have HF1 := Lib.hid hf1
                have HU2 := Lib.hid (union_any w1 _ B HFB1.out (by have := HLN.out; omega) (fun _ => by have := HLN.out; omega))
                rw [HCE.out.1] at HU2
                have HOK1 := Lib.hid hok1
                have HNO1 := Lib.hid hno1
                clear hf1 hok1 hno1 HU1
                go_wp2_with fail
                refine HU2.out.mono ?_
                rintro e w2 ⟨x2, L2, rfl, hf2, hok2, hno2, -⟩
                have HB2 := Lib.hid (below_trans HB1.out hf2.bel)
                have HEQ := Lib.hid (show L1 = L2 from by
                  by_cases h0 : chk2 L [] = 0
                  · have g1 := form_union (HOK1.out h0)
                    have g2 := form_union (hok2 h0)
                    rw [← HCA.out] at g2
                    exact g1.uniq g2
                  · rw [HNO1.out h0, hno2 h0])
                have HR1 := Lib.hid (ERd.of_own elR_ok (HF1.out.own.below hf2.bel))
                have HR2 := Lib.hid (hf2.read elR_ok)
                rw [← HEQ.out] at HR2
                have HFB2 := Lib.hid (HFB1.out.below hf2.bel)
                clear hf2 hok2 hno2 HU2
                have HSR := Lib.hid (rrects13_any w2 _ _ L1 HR1.out HR2.out)
                have hcc : (chk2 L [] == chk2 L []) = true := by simp
                have HSA := Lib.hid (fun W (hW : Below w2.heap.size w2 W) => same13_any W _ _ L B (HL.out.below (below_trans HB2.out hW)) (HFB2.out.below hW) (by have := HLN.out; omega) (by have := HLN.out; omega) (fun _ => by have := HLN.out; omega))
                have HNE := Lib.hid (show ∀ x y, ¬ Cts (fun p q : Bool => p != q) L B x y from fun x y h9 => by
                  have e1 : decide (0 < cntP L x y) = decide (0 < cntP B x y) := congrFun (congrFun HCA.out x) y
                  unfold Cts at h9
                  rw [e1] at h9
                  simp at h9)
                generalize hc : chk2 L [] = c at *
                go_wp2_with fail
                refine HSR.out.mono ?_
                rintro e w3 ⟨rfl, hb3⟩
                have HB3 := Lib.hid (below_trans HB2.out hb3)
                have HSB := Lib.hid (HSA.out w3 hb3)
                clear hb3 HSR
                go_wp2_with fail
                refine HSB.out.mono ?_
                rintro e w4 ⟨ok, rfl, hb4, hok⟩
                have HB4 := Lib.hid (below_trans HB3.out hb4)
                clear hb4
                by_cases h0 : c = 0
                · have hk1 : ok = true := hok.2 ⟨HCE.out.2.2 h0, HNE.out⟩
                  have hcb : (c == 0) = true := by simp [h0]
                  have hk1' := hk1
                  subst hk1'
                  clear h0 hok hk1
                  go_wp2_with fail
                  refine (known13_any _).mono ?_
                  rintro e w5 ⟨rfl, hb5⟩
                  have HB5 := Lib.hid (below_trans HB4.out hb5)
                  go_wp2
                  go_ret
                  exact ⟨rfl, HB5.out⟩
                · have hk1 : ok = false := by
                    cases ok with
                    | false => rfl
                    | true => exact absurd (HCE.out.2.1 (hok.1 rfl).1) h0
                  have hcb : (c == 0) = false := by simpa using h0
                  have hk1' := hk1
                  subst hk1'
                  clear h0 hok hk1
                  go_wp2_with fail
                  refine (known13_any _).mono ?_
                  rintro e w5 ⟨rfl, hb5⟩
                  have HB5 := Lib.hid (below_trans HB4.out hb5)
                  go_wp2
                  go_ret
                  exact ⟨rfl, HB5.out⟩
theorem walk (a : Option Addr) (n c : Nat) (p : Int) (w : World) (h : IsSl w 4 okBx a n c) (hp : -9223372036854775808 ≤ p ∧ p ≤ 9223372036854775807) :
    Calls Try.prog 6 #[.slice a n c, .int .i64 p] w fun e w' => e = .returned (.bool true) ∧ Below w.heap.size w w' := by
  obtain ⟨L, h1, h2⟩ := bxs_of h
  exact walkN _ L p w h1 hp
theorem own : ownKnob Try.prog.godebug = none := by kernel_rfl
theorem laidOut : laidOutB Try.prog = true := by kernel_rfl
set_option maxRecDepth 100000 in
theorem lifted (os : Os) (started : os.Started) (H : Type) (enc : TypeId × Value → H) :
    ReturnsInHanded {} Try.checked os 6 .any (Rows.regionTurnedSpec.pre6 enc Try.prog Try.f6 Rows.regionTurnedRow.domain false) (Rows.regionTurnedSpec.post enc Try.prog Try.f6 false true false false) := by
  refine returnsInHanded_of_change_sized (C := Try.checked) own started (by kernel_rfl) Try.func6
    (ChangeSpec.witness6 (enc := enc) (C := Try.checked) false ⟨#[], #[.slice none 0 0, .int .i64 0], []⟩ 8 (by kernel_rfl) (by kernel_rfl) (by kernel_rfl) (by kernel_rfl)) ?_
  intro W base args ds gs before hval0 hW hcnd hsz0 _
  have hval : ∀ (j : Nat) t v, Try.f6.params[j]? = some t → args[j]? = some v → Value.okWide Try.prog W .any base t v := hval0
  have hW' := hW
  obtain ⟨p, q, hA0, hV, rfl, hfz, hnd⟩ := hW
  have hA : DataW.TrodAll enc Try.prog W 0 (fun _ => true) true Try.f6.params.toList args.toList ds p := hA0
  rw [Try.params6] at hA hval
  obtain ⟨v0, vs0, d0, ds0, p0, q0, hargs, rfl, rfl, h0, r0⟩ := trodAll_cons hA
  obtain ⟨v1, vs1, d1, ds1, p1, q1, rfl, rfl, rfl, h1, r1⟩ := trodAll_cons r0
  obtain ⟨rfl, rfl, rfl⟩ := trodAll_nil r1
  obtain rfl : args = #[v0, v1] := by cases args; simp_all
  obtain ⟨rfl, rfl⟩ := trodVars_none hV
  have k0 := h0
  have lt0 : ∀ x ∈ p0, x.block < W.heap.size := by obtain ⟨m, hm⟩ := k0; exact DataW.trod_lt m _ _ _ hm
  obtain ⟨a0, len0, cap0, rfl⟩ := okWide_slice Try.underlying22 (hval 0 22 v0 rfl rfl)
  have w0 : IsSl W 4 (okBxW W) a0 len0 cap0 := by
    obtain ⟨fuel, hf⟩ := h0
    exact isSl_of Try.underlying22 (by kernel_rfl) okBxP hf (fun n hn => of_decide_eq_true (List.all_eq_true.1 hsz0 n (DataW.weights_mem_each (j := 0) (t := 22) (d := d0) rfl rfl n hn)))
  have k1 := h1
  have lt1 : ∀ x ∈ p1, x.block < W.heap.size := by obtain ⟨m, hm⟩ := k1; exact DataW.trod_lt m _ _ _ hm
  obtain ⟨a1, rfl, rfl, rfl, w1⟩ := open_int Try.underlying3 (hval 1 3 v1 rfl rfl) h1
  clear hA0 hval0
  refine (walk a0 len0 cap0 a1 W w0 (bounds_i64 w1)).mono fun e W' ⟨he, bel⟩ => ?_
  subst he
  exact ⟨_, rfl, _, _, _, [], _, [], hW', trodAll_mk1 (shut_bool Try.underlying4 _), (trodAll_cons_mk (Below.trod laidOut (by kernel_rfl) (of_decide_eq_true (by kernel_rfl)) k0 bel lt0) (trodAll_cons_mk (Below.trod laidOut (by kernel_rfl) (of_decide_eq_true (by kernel_rfl)) k1 bel lt1) trodAll_mk0)), rfl, bel.frame _, fun h => by cases h⟩
theorem over : Rows.regionTurnedRow.holds Try.pinned (OpenSpec.ofChange Rows.regionTurnedSpec) :=
  OpenClaim.holds_of_wide 6 Try.f6 rfl rfl rfl rfl rfl rfl rfl ⟨rfl, rfl, rfl, rfl, rfl⟩ rfl rfl rfl rfl rfl (by kernel_rfl) Try.func6 (by kernel_rfl)
    (of_decide_eq_true (by kernel_rfl)) (by unfold Func.isWrapper; first | (rw [if_pos (by decide +kernel)]; kernel_rfl) | (rw [if_neg (by decide +kernel)]; exact ⟨rfl, rfl⟩))
    (fun os started H enc _ => lifted os started H enc)
/-- The statement. -/
theorem proved : Rows.RegionTurnedSaid := over
#print axioms proved
end Go.Proofs.Ytimfcgnnfgoaaaa.regionTurned
