/- PolicyJoins, the walk. -/
import Derived.Test.YtileecbccmfpdaaGreatDoorPj
namespace Go.Proofs.YtileecbccmfpdaaGreatDoor
set_option linter.unusedVariables false
set_option linter.unusedSimpArgs false
open Go.RowKit
theorem toks_short {l : Bs} (h : (toks l).2 = none) : l.length ≤ 512 := by
  unfold toks at h
  split at h
  · cases h
  · omega
theorem toks_ne0 (l : Bs) {f : Int × Pl} (h : (toks l).2 = some f) : f.1 ≠ 0 := by
  have := fl_ne l h
  rw [h] at this
  exact this
theorem parse_ne0 (l : Bs) {f : Int × Pl} (h : (parseP l).2 = some f) : f.1 ≠ 0 := by
  unfold parseP at h
  cases hT : (toks l).2 with
  | some g =>
    rw [hT] at h
    cases h
    exact toks_ne0 l hT
  | none =>
    rw [hT] at h
    simp only at h
    split at h
    · cases h
    · cases h; show (31 : Int) ≠ 0; decide
theorem allF_len : ∀ n L a, (allF n L a).2.2.length ≤ a.length + L.length := by
  intro n
  induction n with
  | zero => intro L a; simp [allF]
  | succ n ih =>
    intro L a
    cases L with
    | nil => simp [allF]
    | cons x L =>
      rw [allF]
      by_cases h : (oneM (x :: L, Dc.z x.p)).1 = true
      · rw [if_pos h]
        have h1 := ih (oneM (x :: L, Dc.z x.p)).2.1 (a ++ [(oneM (x :: L, Dc.z x.p)).2.2])
        have h2 := oneM_lt h
        simp only [List.length_append, List.length_cons, List.length_nil] at h1 h2 ⊢
        omega
      · rw [if_neg h]; simp
theorem parse_len (l : Bs) : (parseP l).1.length ≤ 100000 := by
  unfold parseP
  split
  · simp
  · split
    · have h1 := allF_len ((toks l).1.length + 1) (toks l).1 []
      have h2 := toks_513 l
      simp only [List.length_nil] at h1
      show (allF ((toks l).1.length + 1) (toks l).1 []).2.2.length ≤ 100000
      omega
    · simp
/-- A row that was made: nothing, or in a block of its own. -/
theorem DRow.form {w : World} {B : Nat} {v : Value} {L : List Dc} (h : DRow w B v L) : ∃ acc, acc.map (·.1) = L ∧ DRd w v acc ∧ ((v = .slice none 0 0 ∧ acc = []) ∨ ∃ g c, v = .slice (some ⟨g, 0, none⟩) acc.length c ∧ acc.length ≤ c ∧ c ≤ maxLen) := by
  obtain ⟨acc, h1, h2, h3, h4⟩ := h
  refine ⟨acc, h1, ⟨ERd.of_own elD_ok h2, fun x hx => ERd.of_own elR_ok (h4 x hx).1⟩, ?_⟩
  rcases h2 with ⟨rfl, rfl⟩ | ⟨g, cap, rfl, cur, _, _, h, h2, _⟩
  · exact Or.inl ⟨rfl, rfl⟩
  · exact Or.inr ⟨g, cap, rfl, h, h2⟩
theorem DRd.take {w : World} {g o c : Nat} {D E : List (Dc × RV)} (h : DRd w (.slice (some ⟨g, o, none⟩) (D ++ E).length c) (D ++ E)) : DRd w (.slice (some ⟨g, o, none⟩) D.length c) D := by
  obtain ⟨⟨A, c', e, h1, h2, h3⟩, h4⟩ := h
  injection e with e1 _ e3
  subst e1; subst e3
  rw [List.length_append] at h1
  refine ⟨⟨_, _, rfl, by omega, h2, fun i x hx => h3 i x ?_⟩, fun x hx => h4 x (List.mem_append_left _ hx)⟩
  rw [List.getElem?_append_left (List.getElem?_eq_some_iff.1 hx).1]
  exact hx
theorem DRd.drop {w : World} {g o c : Nat} {D E : List (Dc × RV)} (h : DRd w (.slice (some ⟨g, o, none⟩) (D ++ E).length c) (D ++ E)) : DRd w (.slice (some ⟨g, o + D.length * 24, none⟩) E.length (c - D.length)) E := by
  obtain ⟨⟨A, c', e, h1, h2, h3⟩, h4⟩ := h
  injection e with e1 _ e3
  subst e1; subst e3
  rw [List.length_append] at h1
  refine ⟨⟨_, _, rfl, by omega, by unfold maxLen at h2 ⊢; omega, fun i x hx => ?_⟩, fun x hx => h4 x (List.mem_append_right _ hx)⟩
  obtain ⟨g', o', e, hc⟩ := h3 (D.length + i) x (by rw [List.getElem?_append_right (by omega)]; simpa using hx)
  cases e
  refine ⟨_, _, rfl, fun j u hu => ?_⟩
  have := hc j u hu
  have e : o + (D.length + i) * elD.k + j = o + D.length * 24 + i * elD.k + j := by
    show o + (D.length + i) * 24 + j = o + D.length * 24 + i * 24 + j
    omega
  rw [← e]
  exact this
theorem DRd.none_ {w : World} (g : Nat) : DRd w (.slice (some ⟨g, 0, none⟩) 0 0) [] := ⟨⟨_, 0, rfl, Nat.le_refl _, by decide, fun i x hx => by simp at hx⟩, fun x hx => by simp at hx⟩
theorem DRd.nil_ {w : World} : DRd w (.slice none 0 0) [] := ⟨⟨none, 0, rfl, Nat.le_refl _, by decide, fun i x hx => by simp at hx⟩, fun x hx => by simp at hx⟩
set_option maxRecDepth 100000 in
set_option maxHeartbeats 8000000 in
theorem policyJoins_walk (s t : Bs) (w : World) (hV : Vs w) (hs : Hs w) (hl : s.length ≤ 140737488355328) (hlt : t.length ≤ 140737488355328) : Calls Tryz.prog 7 #[.string (bs s), .string (bs t)] w fun e w' => e = .returned (.bool true) ∧ Below w.heap.size w w' := by
  have HVB := Lib.hid (show ∀ w', Below w.heap.size w w' → Vs w' from fun w' hb => hV.below hb)
  have HHB := Lib.hid (show ∀ w', Below w.heap.size w w' → Hs w' from fun w' hb => hs.low hb)
  have HP := Lib.hid (parse_any s w hV hs hs.lt hl)
  have HLN := Lib.hid hlt
  have HKN := Lib.hid (show ∀ W, Below w.heap.size w W → Calls Tryz.prog 13 #[] W fun e w' => e = .returned (.bool true) ∧ Below w.heap.size w w' from fun W hb => (pknown_any W (hV.below hb) (hs.low hb)).mono fun e w' h => ⟨h.1, hb.trans (h.2.mono hb.size)⟩)
  have HNS := Lib.hid (fun f h => @parse_ne0 s f h)
  have HNT := Lib.hid (fun f h => @parse_ne0 t f h)
  have HJ := Lib.hid (parse_join s t)
  have HSS := Lib.hid (fun h => toks_short (parse_ok (l := s) h).1)
  have HST := Lib.hid (fun h => toks_short (parse_ok (l := t) h).1)
  have HSL := Lib.hid (parse_len s)
  have HTL := Lib.hid (parse_len t)
  clear hV hs hl hlt
  unfold ParseP at HP
  go_enter Tryz.func7, Tryz.ntmps7
  go_wp2_with fail
  refine HP.out.mono ?_
  rintro e w1 ⟨v1, rfl, hD1, hb1⟩
  obtain ⟨acc1, hacc1, hDR1⟩ := hD1.rd
  obtain ⟨A1, c1, rfl, -, -, -⟩ := id hDR1.1
  have ha1 := pfault_below w1 #[.int .i64 (flE (parseP s).2), .int .i64 (flP (parseP s).2).1, .int .i64 (flP (parseP s).2).2]
  have HB1 := Lib.hid (hb1.trans (ha1.mono hb1.size))
  have HD1 := Lib.hid (hDR1.below ha1)
  have HA1 := Lib.hid hacc1
  have HF1 := Lib.hid (Blk.new w1 27 #[.int .i64 (flE (parseP s).2), .int .i64 (flP (parseP s).2).1, .int .i64 (flP (parseP s).2).2])
  clear hD1 hDR1 hb1 ha1 HP hacc1
  go_upto_region 2 with fail
  generalize hq1 : w1.heap.size = q1 at *
  generalize (w1.alloc (.cells #[.int .i64 (flE (parseP s).2), .int .i64 (flP (parseP s).2).1, .int .i64 (flP (parseP s).2).2] 27)) = W1 at *
  have HP := Lib.hid (parse_any t W1 (HVB.out _ HB1.out) (HHB.out _ HB1.out) (HHB.out _ HB1.out).lt HLN.out)
  unfold ParseP at HP
  clear hq1
  go_wp2_with fail
  refine HP.out.mono ?_
  rintro e w2 ⟨v2, rfl, hD2, hb2⟩
  obtain ⟨acc2, hacc2, hDR2⟩ := hD2.rd
  obtain ⟨A2, c2, rfl, -, -, -⟩ := id hDR2.1
  have ha2 := pfault_below w2 #[.int .i64 (flE (parseP t).2), .int .i64 (flP (parseP t).2).1, .int .i64 (flP (parseP t).2).2]
  have hbb := hb2.trans (ha2.mono hb2.size)
  have HB2 := Lib.hid (HB1.out.trans (hbb.mono HB1.out.size))
  have HD2 := Lib.hid (hDR2.below ha2)
  have HA2 := Lib.hid hacc2
  have HE1 := Lib.hid (HD1.out.below hbb)
  have HG1 := Lib.hid (Blk.thru0 HF1.out hbb)
  have HF2 := Lib.hid (Blk.new w2 27 #[.int .i64 (flE (parseP t).2), .int .i64 (flP (parseP t).2).1, .int .i64 (flP (parseP t).2).2])
  clear hD2 hDR2 hb2 ha2 hbb HP hacc2 HB1 HD1 HF1
  go_upto_region 3 with fail
  generalize hq2 : w2.heap.size = q2 at *
  generalize (w2.alloc (.cells #[.int .i64 (flE (parseP t).2), .int .i64 (flP (parseP t).2).1, .int .i64 (flP (parseP t).2).2] 27)) = W2 at *
  clear hq2
  have f0 : W2.cell? ⟨q1, 0, none⟩ = some (.int .i64 (flE (parseP s).2)) := HG1.out.cell 0
  have f1 : W2.cell? ⟨q2, 0, none⟩ = some (.int .i64 (flE (parseP t).2)) := HF2.out.cell 0
  cases hs2 : (parseP s).2 with
  | some fs =>
    rw [hs2] at f0
    have hne : (flE (some fs) != 0) = true := by have := HNS.out fs hs2; simpa [flE] using this
    generalize flE (some fs) = fe at *
    clear hs2 HG1 HF2
    go_wp2_with fail
    refine (HKN.out _ HB2.out).mono ?_
    rintro e w6 ⟨rfl, hb6⟩
    go_wp2_with fail
    go_ret
    exact ⟨rfl, hb6⟩
  | none =>
    rw [hs2] at f0
    have e0 : flE none = 0 := rfl
    rw [e0] at f0
    cases ht2 : (parseP t).2 with
    | some ft =>
      rw [ht2] at f1
      have hne : (flE (some ft) != 0) = true := by have := HNT.out ft ht2; simpa [flE] using this
      generalize flE (some ft) = fe at *
      clear hs2 ht2 HG1 HF2 e0
      go_wp2_with fail
      refine (HKN.out _ HB2.out).mono ?_
      rintro e w6 ⟨rfl, hb6⟩
      go_wp2_with fail
      go_ret
      exact ⟨rfl, hb6⟩
    | none =>
      rw [ht2] at f1
      rw [e0] at f1
      have z1 : (bs s).size ≤ 512 := by rw [bs_size]; exact HSS.out hs2
      have z2 : (bs t).size ≤ 512 := by rw [bs_size]; exact HST.out ht2
      by_cases hbig : (511 : Int) < ((bs s).size : Int) + ((bs t).size : Int)
      · clear hs2 ht2 HG1 HF2 e0
        go_wp2_with fail
        refine (HKN.out _ HB2.out).mono ?_
        rintro e w6 ⟨rfl, hb6⟩
        go_wp2_with fail
        go_ret
        exact ⟨rfl, hb6⟩
      · have HLL := Lib.hid (show (s ++ 10 :: t).length ≤ 512 by rw [bs_size, bs_size] at hbig; simp only [List.length_append, List.length_cons]; omega)
        obtain ⟨D, E, hDE, hD, hE⟩ := HJ.out hs2 ht2 HLL.out
        have HP := Lib.hid (parse_any (s ++ 10 :: t) W2 (HVB.out _ HB2.out) (HHB.out _ HB2.out) (HHB.out _ HB2.out).lt (Nat.le_trans HLL.out (by decide)))
        unfold ParseP at HP
        have ecat : bs s ++ ⟨#[10]⟩ ++ bs t = bs (s ++ 10 :: t) := by
          rw [show (⟨#[10]⟩ : ByteArray) = bs [10] from rfl, bs_app, bs_app]
          simp
        rw [← ecat, hDE] at HP
        have HDD := Lib.hid hD
        have HEE := Lib.hid hE
        clear hs2 ht2 HG1 HF2 hDE hD hE ecat HJ e0
        have hs1 : ¬ 9223372036854775807 < (bs s).size + 1 := by omega
        have hs2 : ¬ 9223372036854775807 < (bs s).size + 1 + (bs t).size := by omega
        go_wp2_with fail
        refine HP.out.mono ?_
        rintro e w3 ⟨v3, rfl, hD3, hb3⟩
        obtain ⟨acc3, hacc3, hDR3, hform⟩ := hD3.form
        have hX : (acc3.take D.length).map (·.1) = D := by rw [List.map_take, hacc3, List.take_left]
        have hY : (acc3.drop D.length).map (·.1) = E := by rw [List.map_drop, hacc3, List.drop_left]
        obtain ⟨X, Y, rfl, hX, hY⟩ : ∃ X Y, acc3 = X ++ Y ∧ X.map (·.1) = D ∧ Y.map (·.1) = E := ⟨_, _, (List.take_append_drop _ _).symm, hX, hY⟩
        have hXl : X.length = acc1.length := by
          have h1 := congrArg List.length hX
          have h2 := congrArg List.length HA1.out
          rw [List.length_map] at h1 h2
          rw [h1, h2, HDD.out.len]
        have hYl : Y.length = acc2.length := by
          have h1 := congrArg List.length hY
          have h2 := congrArg List.length HA2.out
          rw [List.length_map] at h1 h2
          rw [h1, h2, HEE.out.len]
        have ha3 := pfault_below w3 #[.int .i64 (flE none), .int .i64 (flP none).1, .int .i64 (flP none).2]
        have hbb := hb3.trans (ha3.mono hb3.size)
        have HB3 := Lib.hid (HB2.out.trans (hbb.mono HB2.out.size))
        have HD3 := Lib.hid (hDR3.below ha3)
        have HG1 := Lib.hid (HE1.out.below hbb)
        have HG2 := Lib.hid (HD2.out.below hbb)
        have HF3 := Lib.hid (Blk.new w3 27 #[.int .i64 (flE none), .int .i64 (flP none).1, .int .i64 (flP none).2])
        have HA3 := Lib.hid hX
        have HA4 := Lib.hid hY
        have HL1 := Lib.hid (show acc1.length ≤ 100000 by
          have h2 := congrArg List.length HA1.out
          rw [List.length_map] at h2
          rw [h2]; exact HSL.out)
        have HL2 := Lib.hid (show acc2.length ≤ 100000 by
          have h2 := congrArg List.length HA2.out
          rw [List.length_map] at h2
          rw [h2]; exact HTL.out)
        have HS1 := Lib.hid (show ∀ i (x y : Dc × RV), X[i]? = some x → acc1[i]? = some y → SameD true x.1 y.1 from fun i x y hx hy => HDD.out.get i (by rw [← hX, List.getElem?_map, hx]; rfl) (by rw [← HA1.out, List.getElem?_map, hy]; rfl))
        have HS2 := Lib.hid (show ∀ i (x y : Dc × RV), Y[i]? = some x → acc2[i]? = some y → SameD false x.1 y.1 from fun i x y hx hy => HEE.out.get i (by rw [← hY, List.getElem?_map, hx]; rfl) (by rw [← HA2.out, List.getElem?_map, hy]; rfl))
        have HXL := Lib.hid hXl
        have HYL := Lib.hid hYl
        have hlen3 : (X ++ Y).length = acc1.length + acc2.length := by rw [List.length_append, hXl, hYl]
        clear hD3 hDR3 hb3 ha3 hbb hacc3 HP HB2 HD2 HE1 hX hY hXl hYl HDD HEE HA1 HA2 HA3 HA4 hs1 hs2 f0 f1
        rcases hform with ⟨rfl, h0⟩ | ⟨g, c3, rfl, hc1, hc2⟩
        · obtain ⟨rfl, rfl⟩ := List.append_eq_nil_iff.1 h0
          have hz1 : acc1.length = 0 := by have := HXL.out; simpa using this.symm
          have hz2 : acc2.length = 0 := by have := HYL.out; simpa using this.symm
          obtain rfl := List.eq_nil_of_length_eq_zero hz1
          obtain rfl := List.eq_nil_of_length_eq_zero hz2
          clear hz1 hz2 hlen3 HXL HYL HL1 HL2 HS1 HS2 h0
          go_upto_region 6 with fail
          generalize hq3 : w3.heap.size = q3 at *
          generalize (w3.alloc (.cells #[.int .i64 (flE none), .int .i64 (flP none).1, .int .i64 (flP none).2] 27)) = W3 at *
          clear hq3
          have f3 : W3.cell? ⟨q3, 0, none⟩ = some (.int .i64 0) := HF3.out.cell 0
          have HT1 := Lib.hid (rsameD_any W3 _ _ [] [] true DRd.nil_ HG1.out (by simp) rfl (fun i x y hx => by simp at hx))
          go_wp2_with fail
          refine HT1.out.mono ?_
          rintro e W4 ⟨rfl, hb4⟩
          have HB4 := Lib.hid (HB3.out.trans (hb4.mono HB3.out.size))
          have HG4 := Lib.hid (HG2.out.below hb4)
          clear hb4 HT1 HD3 HG1 HG2 f3 HF3 HB3
          have HT2 := Lib.hid (rsameD_any W4 _ _ [] [] false DRd.nil_ HG4.out (by simp) rfl (fun i x y hx => by simp at hx))
          go_wp2_with fail
          refine HT2.out.mono ?_
          rintro e W5 ⟨rfl, hb5⟩
          have HB5 := Lib.hid (HB4.out.trans (hb5.mono HB4.out.size))
          clear hb5
          go_wp2_with fail
          refine (HKN.out _ HB5.out).mono ?_
          rintro e w6 ⟨rfl, hb6⟩
          go_wp2_with fail
          go_ret
          exact ⟨rfl, hb6⟩
        · go_upto_region 6 with fail
          generalize hq3 : w3.heap.size = q3 at *
          generalize (w3.alloc (.cells #[.int .i64 (flE none), .int .i64 (flP none).1, .int .i64 (flP none).2] 27)) = W3 at *
          clear hq3
          have f3 : W3.cell? ⟨q3, 0, none⟩ = some (.int .i64 0) := HF3.out.cell 0
          have hk1 : (((X ++ Y).length : Nat) : Int) = (acc1.length : Int) + (acc2.length : Int) := by rw [hlen3]; simp
          have hk2 : (acc1.length : Int) ≤ 100000 := by have := HL1.out; omega
          have hk3 : (acc2.length : Int) ≤ 100000 := by have := HL2.out; omega
          have HT1 := Lib.hid (rsameD_any W3 _ _ X acc1 true HD3.out.take HG1.out (by have := HXL.out; have := HL1.out; omega) HXL.out HS1.out)
          rw [HXL.out] at HT1
          have hcc : (acc1.length : Int) ≤ (c3 : Int) := by rw [hlen3] at hc1; omega
          have hcd : ((X ++ Y).length : Int) ≤ (c3 : Int) := by omega
          have HDY := Lib.hid HD3.out.drop
          rw [HXL.out, HYL.out, Nat.zero_add] at HDY
          generalize (X ++ Y).length = n3 at *
          go_wp2_with fail
          refine HT1.out.mono ?_
          rintro e W4 ⟨rfl, hb4⟩
          have HB4 := Lib.hid (HB3.out.trans (hb4.mono HB3.out.size))
          have HG4 := Lib.hid (HG2.out.below hb4)
          have HY4 := Lib.hid (HDY.out.below hb4)
          clear hb4 HT1 HDY HD3 HG1 HG2 f3 HF3 HB3
          have HT2 := Lib.hid (rsameD_any W4 _ _ Y acc2 false HY4.out HG4.out (by have := HYL.out; have := HL2.out; omega) HYL.out HS2.out)
          have HT3 := Lib.hid (fun (h : acc2 = []) => rsameD_any W4 (.slice (some ⟨g, 0, none⟩) 0 0) (.slice A2 0 c2) [] [] false (DRd.none_ g) (by have := HG4.out; rw [h] at this; exact this) (by simp) rfl (fun i x y hx => by simp at hx))
          have hfin : ∀ W, Below W4.heap.size W4 W → Below w.heap.size w W := fun W hb => HB4.out.trans (hb.mono HB4.out.size)
          have HFI := Lib.hid hfin
          clear hfin
          by_cases hcap : c3 = acc1.length
          · have h20 : acc2.length = 0 := by omega
            have h2n := List.eq_nil_of_length_eq_zero h20
            have HT4 := Lib.hid (HT3.out h2n)
            clear HT2 HT3 HY4 HG4 HS2 HYL HL2 h2n hk3 hcd hlen3 hcc
            rw [h20] at *
            subst hcap
            go_wp2_with fail
            refine HT4.out.mono ?_
            rintro e W5 ⟨rfl, hb5⟩
            have HB5 := Lib.hid (HFI.out _ hb5)
            clear hb5
            go_wp2_with fail
            refine (HKN.out _ HB5.out).mono ?_
            rintro e w6 ⟨rfl, hb6⟩
            go_wp2_with fail
            go_ret
            exact ⟨rfl, hb6⟩
          · have hcap2 : (acc1.length : Int) < (c3 : Int) := by omega
            clear HT3
            go_wp2_with fail
            refine HT2.out.mono ?_
            rintro e W5 ⟨rfl, hb5⟩
            have HB5 := Lib.hid (HFI.out _ hb5)
            clear hb5
            go_wp2_with fail
            refine (HKN.out _ HB5.out).mono ?_
            rintro e w6 ⟨rfl, hb6⟩
            go_wp2_with fail
            go_ret
            exact ⟨rfl, hb6⟩
end Go.Proofs.YtileecbccmfpdaaGreatDoor
