/- CloakMore: (P9.6) a greater profile has a cloak at the same cell, or at one further up. Conditions: none. -/
import Derived.Test.YtjikbcaapmfhoaaCk6
import Derived.Lib.SmallJoins
namespace Go.Proofs.Ytjikbcaapmfhoaa.cloakMore
set_option linter.unusedVariables false
set_option linter.unusedSimpArgs false
open Go.ChangeShapes Go.WideShapes Go.ChangeAt Go.RowKit
open Go.ChangeMaps (open_string shut_string)
theorem tried_L {S : List Pn} {L x y : Int} {k : Ck} (h : k ∈ triedK S L x y) : k.L = L := by
  unfold triedK at h
  split at h
  · split at h
    · simp only [List.mem_cons, List.not_mem_nil, or_false] at h
      rcases h with rfl | rfl | rfl <;> rfl
    · simp only [List.mem_cons, List.not_mem_nil, or_false] at h
      rcases h with rfl | rfl | rfl <;> rfl
  · simp only [List.mem_cons, List.not_mem_nil, or_false] at h
    rcases h with rfl; rfl
theorem first_L {S : List Pn} {K A L x y : Int} {k : Ck} (h : firstK K A (triedK S L x y) = some k) : k.L = L := tried_L (List.mem_of_find?_eq_some h)
theorem seek_L {S : List Pn} {K A : Int} : ∀ (l : Nat) (x y : Int) {k : Ck}, seekK S K A l x y = some k → k.L ≤ (l : Int) := by
  intro l
  induction l with
  | zero => intro x y k h; rw [seekK] at h; rw [first_L h]; exact Int.le_refl _
  | succ l ih =>
    intro x y k h
    rw [seekK] at h
    cases hf : firstK K A (triedK S ((l : Int) + 1) x y) with
    | some q => rw [hf] at h; simp at h; subst h; rw [first_L hf]; push_cast; omega
    | none => rw [hf] at h; simp at h; have := ih _ _ h; push_cast; omega
theorem does_more {K A K2 A2 n ar : Int} (hK : K ≤ K2) (hA : A ≤ A2) (hr : rightP K = true) (h : doesP K2 A2 n ar = true) : doesP K A n ar = true := by
  simp only [doesP, Bool.and_eq_true, decide_eq_true_eq] at h ⊢
  exact ⟨⟨hr, by omega⟩, by omega⟩
theorem first_more {K A K2 A2 : Int} (hK : K ≤ K2) (hA : A ≤ A2) (hr : rightP K = true) {l : List Ck} (h : firstK K A l = none) : firstK K2 A2 l = none := by
  unfold firstK at h ⊢
  rw [List.find?_eq_none] at h ⊢
  intro k hk hd
  exact h k hk (does_more hK hA hr hd)
theorem seek_more {S : List Pn} {K A K2 A2 : Int} (hK : K ≤ K2) (hA : A ≤ A2) (hr : rightP K = true) : ∀ (l : Nat) (x y : Int) {kb : Ck}, seekK S K2 A2 l x y = some kb → ∃ ka, seekK S K A l x y = some ka ∧ kb.L ≤ ka.L := by
  intro l
  induction l with
  | zero =>
    intro x y kb h
    have hL := seek_L _ _ _ h
    rw [seekK] at h ⊢
    cases hf : firstK K A (triedK S 0 x y) with
    | some ka => exact ⟨ka, rfl, by rw [first_L hf]; exact hL⟩
    | none => rw [first_more hK hA hr hf] at h; cases h
  | succ l ih =>
    intro x y kb h
    have hL := seek_L _ _ _ h
    rw [seekK] at h ⊢
    cases hf : firstK K A (triedK S ((l : Int) + 1) x y) with
    | some ka => exact ⟨ka, by simp, by rw [first_L hf]; push_cast at hL; omega⟩
    | none =>
      rw [first_more hK hA hr hf] at h
      simp at h ⊢
      exact ih _ _ h
theorem find_more {S : List Pn} {K A K2 A2 px py : Int} (hK : K ≤ K2) (hA : A ≤ A2) (h : findE S K2 A2 px py = 0) :
    (rightP K = false ∧ findE S K A px py = 1) ∨ (rightP K = true ∧ findE S K A px py = 0 ∧ ((findK S K2 A2 px py).getD ck0).L ≤ ((findK S K A px py).getD ck0).L) := by
  have hc : fitsB px py = true ∧ rightP K2 = true := by
    unfold findE at h
    split at h
    · assumption
    · cases h
  have hs : (seekK S K2 A2 16 px py).isSome = true := by
    rw [findE, if_pos hc] at h
    split at h
    · assumption
    · cases h
  cases hr : rightP K with
  | false => exact .inl ⟨rfl, by rw [findE, if_neg (fun e => by rw [hr] at e; cases e.2)]⟩
  | true =>
    obtain ⟨kb, hb⟩ := Option.isSome_iff_exists.1 hs
    obtain ⟨ka, ha, hL⟩ := seek_more hK hA hr _ _ _ hb
    have hc2 : fitsB px py = true ∧ rightP K = true := ⟨hc.1, hr⟩
    refine .inr ⟨rfl, by rw [findE, if_pos hc2, ha]; rfl, ?_⟩
    rw [findK, if_pos hc, findK, if_pos hc2, ha, hb]
    exact hL
def Three (w0 : World) (px py K A K2 A2 : Int) (W : World) : Prop :=
  Blk W w0.heap.size 24 #[.int .i64 px, .int .i64 py] ∧ Blk W (w0.heap.size + 1) 27 #[.int .i64 K, .int .u64 A] ∧ Blk W (w0.heap.size + 1 + 1) 27 #[.int .i64 K2, .int .u64 A2]
theorem Three.below {w0 W X : World} {px py K A K2 A2 : Int} (h : Three w0 px py K A K2 A2 W) (hb : Below W.heap.size W X) : Three w0 px py K A K2 A2 X := ⟨h.1.thru0 hb, h.2.1.thru0 hb, h.2.2.thru0 hb⟩
set_option maxRecDepth 100000 in
set_option maxHeartbeats 8000000 in
theorem walk (a : Option Addr) (len cap0 : Nat) (px py K A K2 A2 : Int) (w : World) (h : IsSl w 2 (PntOk w) a len cap0) (c0 : -9223372036854775808 ≤ px ∧ px ≤ 9223372036854775807) (c1 : -9223372036854775808 ≤ py ∧ py ≤ 9223372036854775807) (c2 : -9223372036854775808 ≤ K ∧ K ≤ 9223372036854775807) (c3 : 0 ≤ A ∧ A ≤ 18446744073709551615) (c4 : -9223372036854775808 ≤ K2 ∧ K2 ≤ 9223372036854775807) (c5 : 0 ≤ A2 ∧ A2 ≤ 18446744073709551615) :
    Calls Try.prog 7 #[.slice a len cap0, .agg #[.int .i64 px, .int .i64 py], .agg #[.int .i64 K, .int .u64 A], .agg #[.int .i64 K2, .int .u64 A2]] w fun e w' => e = .returned (.bool true) ∧ Below w.heap.size w w' := by
  have hlc := h.le
  obtain ⟨hlc1, hlc2⟩ := hlc
  unfold maxLen at hlc2
  obtain ⟨S, hS⟩ := rd_of h
  clear h c0 c1 c2 c3 c4 c5
  have hA : Below w.heap.size w (((w.alloc (.cells #[.int .i64 px, .int .i64 py] 24)).alloc (.cells #[.int .i64 K, .int .u64 A] 27)).alloc (.cells #[.int .i64 K2, .int .u64 A2] 27)) := (((Below.refl _ _).alloc (Nat.le_refl _) _).alloc (by simp) _).alloc (by simp; omega) _
  have HK : Hid (Three w px py K A K2 A2 (((w.alloc (.cells #[.int .i64 px, .int .i64 py] 24)).alloc (.cells #[.int .i64 K, .int .u64 A] 27)).alloc (.cells #[.int .i64 K2, .int .u64 A2] 27))) := Lib.hid (blk_three w 24 27 27 #[.int .i64 px, .int .i64 py] #[.int .i64 K, .int .u64 A] #[.int .i64 K2, .int .u64 A2])
  have HR := Lib.hid (hS.below hA)
  have HA := Lib.hid hA
  clear hS hA
  by_cases hbig : 60 < len
  · have hbi : (60 : Int) < (len : Int) := by omega
    go_enter Try.func7, Try.ntmps7
    go_wp2_with fail
    refine (built_big a len cap0 _ hbig).mono ?_
    rintro e w1 ⟨rfl, hb1⟩
    have HB := Lib.hid (below_trans HA.out hb1)
    clear hb1
    go_wp2_with fail
    refine (ckknown_any _).mono ?_
    rintro e w2 ⟨rfl, hb2⟩
    have HB2 := Lib.hid (below_trans HB.out hb2)
    clear hb2
    go_wp2
    go_ret
    exact ⟨rfl, HB2.out⟩
  · have hbi : (len : Int) ≤ 60 := by omega
    have HBT := Lib.hid (built_any a len cap0 S _ HR.out (by omega))
    have hlen := haveK_len S len
    go_enter Try.func7, Try.ntmps7
    go_wp2_with fail
    refine HBT.out.mono ?_
    rintro e w1 ⟨y, cs, A1, c1', rfl, hp⟩
    have HB1 := Lib.hid (below_trans HA.out hp.2.2.1)
    have HPY := Lib.hid hp.1
    replace HK := Lib.hid (HK.out.below hp.2.2.1)
    clear hp HBT HR HA
    have HL : Hid ((haveK S len).length ≤ 500000) := Lib.hid (by omega)
    clear hlen
    generalize haveK S len = H at *
    have p0 := HK.out.1.cell 0
    have p1 := HK.out.1.cell 1
    have f0 := HK.out.2.1.cell 0
    have f1 := HK.out.2.1.cell 1
    have g0 := HK.out.2.2.cell 0
    have g1 := HK.out.2.2.cell 1
    simp only [List.getElem?_toArray, List.getElem?_cons_zero, List.getElem?_cons_succ] at p0 p1 f0 f1 g0 g1
    by_cases hK : K ≤ K2
    · by_cases hAA : A ≤ A2
      · have dK : decide (K2 < K) = false := decide_eq_false (by omega)
        have dA : decide (A2 < A) = false := decide_eq_false (by omega)
        have HMO := Lib.hid (find_more (S := H) (px := px) (py := py) hK hAA)
        have nK : ¬ K2 < K := by omega
        have nA : ¬ A2 < A := by omega
        clear hK hAA
        have HFA := Lib.hid (find_any y cs H (17 * len) px py K A w1 HPY.out HL.out)
        unfold FindP at HFA
        go_wp2_with fail
        refine HFA.out.mono ?_
        rintro e w2 ⟨rfl, hb2⟩
        generalize (findK H K A px py).getD ck0 = ka at *
        generalize findE H K A px py = ea at *
        have hA2 : Below w2.heap.size w2 (w2.alloc (.cells #[.int .i64 ka.a, .int .i64 ka.b, .int .i64 ka.c, .int .i64 ka.d, .int .i64 ka.L, .int .i64 ka.x, .int .i64 ka.y, .int .i64 ka.kd, .int .i64 ka.n] 37)) := (Below.refl _ _).alloc (Nat.le_refl _) _
        have HPY2 := Lib.hid ((HPY.out.below hb2).below hA2)
        have HB2 := Lib.hid (below_trans (below_trans HB1.out hb2) hA2)
        replace HK := Lib.hid ((HK.out.below hb2).below hA2)
        have HQ := Lib.hid (Blk.new w2 37 #[.int .i64 ka.a, .int .i64 ka.b, .int .i64 ka.c, .int .i64 ka.d, .int .i64 ka.L, .int .i64 ka.x, .int .i64 ka.y, .int .i64 ka.kd, .int .i64 ka.n])
        clear hb2 hA2 HFA HPY HB1
        clear p0 p1 f0 f1 g0 g1
        have p0 := HK.out.1.cell 0
        have p1 := HK.out.1.cell 1
        have f0 := HK.out.2.1.cell 0
        have f1 := HK.out.2.1.cell 1
        have g0 := HK.out.2.2.cell 0
        have g1 := HK.out.2.2.cell 1
        simp only [List.getElem?_toArray, List.getElem?_cons_zero, List.getElem?_cons_succ] at p0 p1 f0 f1 g0 g1
        unfold Ck.val
        go_wp2_with fail
        generalize hp11 : w2.heap.size = p11 at *
        generalize (w2.alloc (.cells #[.int .i64 ka.a, .int .i64 ka.b, .int .i64 ka.c, .int .i64 ka.d, .int .i64 ka.L, .int .i64 ka.x, .int .i64 ka.y, .int .i64 ka.kd, .int .i64 ka.n] 37)) = W2 at *
        have HFB := Lib.hid (find_any y cs H (17 * len) px py K2 A2 W2 HPY2.out HL.out)
        unfold FindP at HFB
        refine HFB.out.mono ?_
        rintro e w3 ⟨rfl, hb3⟩
        generalize (findK H K2 A2 px py).getD ck0 = kb at *
        generalize findE H K2 A2 px py = eb at *
        have hA3 : Below w3.heap.size w3 (w3.alloc (.cells #[.int .i64 kb.a, .int .i64 kb.b, .int .i64 kb.c, .int .i64 kb.d, .int .i64 kb.L, .int .i64 kb.x, .int .i64 kb.y, .int .i64 kb.kd, .int .i64 kb.n] 37)) := (Below.refl _ _).alloc (Nat.le_refl _) _
        have HB3 := Lib.hid (below_trans (below_trans HB2.out hb3) hA3)
        replace HK := Lib.hid ((HK.out.below hb3).below hA3)
        replace HQ := Lib.hid ((HQ.out.thru0 hb3).thru0 hA3)
        have HQ2 := Lib.hid (Blk.new w3 37 #[.int .i64 kb.a, .int .i64 kb.b, .int .i64 kb.c, .int .i64 kb.d, .int .i64 kb.L, .int .i64 kb.x, .int .i64 kb.y, .int .i64 kb.kd, .int .i64 kb.n])
        clear hb3 hA3 HFB HPY2 HB2
        clear p0 p1 f0 f1 g0 g1
        have p0 := HK.out.1.cell 0
        have p1 := HK.out.1.cell 1
        have f0 := HK.out.2.1.cell 0
        have f1 := HK.out.2.1.cell 1
        have g0 := HK.out.2.2.cell 0
        have g1 := HK.out.2.2.cell 1
        simp only [List.getElem?_toArray, List.getElem?_cons_zero, List.getElem?_cons_succ] at p0 p1 f0 f1 g0 g1
        have ja : _ = some (Value.int .i64 ka.L) := HQ.out.cell 4
        have jb : _ = some (Value.int .i64 kb.L) := HQ2.out.cell 4
        unfold Ck.val
        by_cases h0 : eb = 0
        · subst h0
          rcases HMO.out rfl with ⟨hr, rfl⟩ | ⟨hr, rfl, hL⟩
          · have HRR := Lib.hid (rright_pr K A)
            rw [hr] at HRR
            clear hr HMO
            go_wp2_with fail
            refine (HRR.out _).mono ?_
            rintro e w4 ⟨rfl, hb4⟩
            have HB4 := Lib.hid (below_trans HB3.out hb4)
            clear hb4
            go_wp2_with fail
            refine (ckknown_any _).mono ?_
            rintro e w5 ⟨rfl, hb5⟩
            have HB5 := Lib.hid (below_trans HB4.out hb5)
            clear hb5
            go_wp2
            go_ret
            exact ⟨rfl, HB5.out⟩
          · have HRR := Lib.hid (rright_pr K A)
            rw [hr] at HRR
            clear hr HMO
            go_wp2_with fail
            refine (HRR.out _).mono ?_
            rintro e w4 ⟨rfl, hb4⟩
            have HB4 := Lib.hid (below_trans HB3.out hb4)
            have ja2 := cell_later hb4 ja
            have jb2 := cell_later hb4 jb
            clear hb4
            go_wp2_with fail
            refine (ckknown_any _).mono ?_
            rintro e w5 ⟨rfl, hb5⟩
            have HB5 := Lib.hid (below_trans HB4.out hb5)
            clear hb5
            go_wp2
            go_ret
            exact ⟨rfl, HB5.out⟩
        · have hb0 : (eb != 0) = true := by simpa using h0
          go_wp2_with fail
          refine (ckknown_any _).mono ?_
          rintro e w5 ⟨rfl, hb5⟩
          have HB5 := Lib.hid (below_trans HB3.out hb5)
          clear hb5
          go_wp2
          go_ret
          exact ⟨rfl, HB5.out⟩
      · have hlt : A2 < A := by omega
        have dK : decide (K2 < K) = false := decide_eq_false (by omega)
        clear hAA
        go_wp2_with fail
        refine (ckknown_any _).mono ?_
        rintro e w5 ⟨rfl, hb5⟩
        have HB5 := Lib.hid (below_trans HB1.out hb5)
        clear hb5
        go_wp2
        go_ret
        exact ⟨rfl, HB5.out⟩
    · have hlt : K2 < K := by omega
      clear hK
      go_wp2_with fail
      refine (ckknown_any _).mono ?_
      rintro e w5 ⟨rfl, hb5⟩
      have HB5 := Lib.hid (below_trans HB1.out hb5)
      clear hb5
      go_wp2
      go_ret
      exact ⟨rfl, HB5.out⟩

theorem own : ownKnob Try.prog.godebug = none := by kernel_rfl
theorem laidOut : laidOutB Try.prog = true := by kernel_rfl
set_option maxRecDepth 100000 in
theorem lifted (os : Os) (started : os.Started) (H : Type) (enc : TypeId × Value → H) :
    ReturnsInHanded {} Try.checked os 7 .any (Rows.cloakMoreSpec.pre6 enc Try.prog Try.f7 Rows.cloakMoreRow.domain false) (Rows.cloakMoreSpec.post enc Try.prog Try.f7 false true false false) := by
  refine returnsInHanded_of_change_sized (C := Try.checked) own started (by kernel_rfl) Try.func7
    (ChangeSpec.witness6 (enc := enc) (C := Try.checked) false ⟨#[], #[.slice none 0 0, .agg #[.int .i64 0, .int .i64 0], .agg #[.int .i64 0, .int .u64 0], .agg #[.int .i64 0, .int .u64 0]], []⟩ 8 (by kernel_rfl) (by kernel_rfl) (by kernel_rfl) (by kernel_rfl)) ?_
  intro W base args ds gs before hval0 hW hcnd hsz0 _
  have hval : ∀ (j : Nat) t v, Try.f7.params[j]? = some t → args[j]? = some v → Value.okWide Try.prog W .any base t v := hval0
  have hW' := hW
  obtain ⟨p, q, hA0, hV, rfl, hfz, hnd⟩ := hW
  have hA : DataW.TrodAll enc Try.prog W 0 (fun _ => true) true Try.f7.params.toList args.toList ds p := hA0
  rw [Try.params7] at hA hval
  obtain ⟨v0, vs0, d0, ds0, p0, q0, hargs, rfl, rfl, h0, r0⟩ := trodAll_cons hA
  obtain ⟨v1, vs1, d1, ds1, p1, q1, rfl, rfl, rfl, h1, r1⟩ := trodAll_cons r0
  obtain ⟨v2, vs2, d2, ds2, p2, q2, rfl, rfl, rfl, h2, r2⟩ := trodAll_cons r1
  obtain ⟨v3, vs3, d3, ds3, p3, q3, rfl, rfl, rfl, h3, r3⟩ := trodAll_cons r2
  obtain ⟨rfl, rfl, rfl⟩ := trodAll_nil r3
  obtain rfl : args = #[v0, v1, v2, v3] := by cases args; simp_all
  obtain ⟨rfl, rfl⟩ := trodVars_none hV
  have k0 := h0
  have lt0 : ∀ x ∈ p0, x.block < W.heap.size := by obtain ⟨m, hm⟩ := k0; exact DataW.trod_lt m _ _ _ hm
  obtain ⟨a0, len0, cap0, rfl⟩ := okWide_slice Try.underlying22 (hval 0 22 v0 rfl rfl)
  have w0 : IsSl W 2 (PntOk W) a0 len0 cap0 := by
    obtain ⟨fuel, hf⟩ := h0
    exact isSl_of Try.underlying22 (by kernel_rfl) pntOk_of hf (fun n hn => of_decide_eq_true (List.all_eq_true.1 hsz0 n (DataW.weights_mem_each (j := 0) (t := 22) (d := d0) rfl rfl n hn)))
  have k1 := h1
  have lt1 : ∀ x ∈ p1, x.block < W.heap.size := by obtain ⟨m, hm⟩ := k1; exact DataW.trod_lt m _ _ _ hm
  obtain ⟨c1_0, c1_1, y1_0, y1_1, m1, rfl, rfl, rfl, hy1_0, hy1_1⟩ := Joins.open_agg2 Try.underlying24 (by kernel_rfl) (by kernel_rfl) (hval 1 24 v1 rfl rfl) h1
  obtain ⟨a1_0, e1_0, rfl, w1_0⟩ := DataW.trod_int Try.underlying3 hy1_0
  simp only [List.cons.injEq, and_true] at e1_0
  subst e1_0
  obtain ⟨a1_1, e1_1, rfl, w1_1⟩ := DataW.trod_int Try.underlying3 hy1_1
  simp only [List.cons.injEq, and_true] at e1_1
  subst e1_1
  have k2 := h2
  have lt2 : ∀ x ∈ p2, x.block < W.heap.size := by obtain ⟨m, hm⟩ := k2; exact DataW.trod_lt m _ _ _ hm
  obtain ⟨c2_0, c2_1, y2_0, y2_1, m2, rfl, rfl, rfl, hy2_0, hy2_1⟩ := Joins.open_agg2 Try.underlying27 (by kernel_rfl) (by kernel_rfl) (hval 2 27 v2 rfl rfl) h2
  obtain ⟨a2_0, e2_0, rfl, w2_0⟩ := DataW.trod_int Try.underlying3 hy2_0
  simp only [List.cons.injEq, and_true] at e2_0
  subst e2_0
  obtain ⟨a2_1, e2_1, rfl, w2_1⟩ := DataW.trod_int Try.underlying25 hy2_1
  simp only [List.cons.injEq, and_true] at e2_1
  subst e2_1
  have k3 := h3
  have lt3 : ∀ x ∈ p3, x.block < W.heap.size := by obtain ⟨m, hm⟩ := k3; exact DataW.trod_lt m _ _ _ hm
  obtain ⟨c3_0, c3_1, y3_0, y3_1, m3, rfl, rfl, rfl, hy3_0, hy3_1⟩ := Joins.open_agg2 Try.underlying27 (by kernel_rfl) (by kernel_rfl) (hval 3 27 v3 rfl rfl) h3
  obtain ⟨a3_0, e3_0, rfl, w3_0⟩ := DataW.trod_int Try.underlying3 hy3_0
  simp only [List.cons.injEq, and_true] at e3_0
  subst e3_0
  obtain ⟨a3_1, e3_1, rfl, w3_1⟩ := DataW.trod_int Try.underlying25 hy3_1
  simp only [List.cons.injEq, and_true] at e3_1
  subst e3_1
  clear hA0 hval0
  refine (walk a0 len0 cap0 a1_0 a1_1 a2_0 a2_1 a3_0 a3_1 W w0 (bounds_i64 w1_0) (bounds_i64 w1_1) (bounds_i64 w2_0) (bounds_u64 w2_1) (bounds_i64 w3_0) (bounds_u64 w3_1)).mono fun e W' ⟨he, bel⟩ => ?_
  subst he
  exact ⟨_, rfl, _, _, _, [], _, [], hW', trodAll_mk1 (shut_bool Try.underlying4 _), (trodAll_cons_mk (Below.trod laidOut (by kernel_rfl) (of_decide_eq_true (by kernel_rfl)) k0 bel lt0) (trodAll_cons_mk (Below.trod laidOut (by kernel_rfl) (of_decide_eq_true (by kernel_rfl)) k1 bel lt1) (trodAll_cons_mk (Below.trod laidOut (by kernel_rfl) (of_decide_eq_true (by kernel_rfl)) k2 bel lt2) (trodAll_cons_mk (Below.trod laidOut (by kernel_rfl) (of_decide_eq_true (by kernel_rfl)) k3 bel lt3) trodAll_mk0)))), rfl, bel.frame _, fun h => by cases h⟩
theorem over : Rows.cloakMoreRow.holds Try.pinned (OpenSpec.ofChange Rows.cloakMoreSpec) :=
  OpenClaim.holds_of_wide 7 Try.f7 rfl rfl rfl rfl rfl rfl rfl ⟨rfl, rfl, rfl, rfl, rfl⟩ rfl rfl rfl rfl rfl (by kernel_rfl) Try.func7 (by kernel_rfl)
    (of_decide_eq_true (by kernel_rfl)) (by unfold Func.isWrapper; first | (rw [if_pos (by decide +kernel)]; kernel_rfl) | (rw [if_neg (by decide +kernel)]; exact ⟨rfl, rfl⟩))
    (fun os started H enc _ => lifted os started H enc)
/-- The statement. -/
theorem proved : Rows.CloakMoreSaid := over
#print axioms proved
end Go.Proofs.Ytjikbcaapmfhoaa.cloakMore
