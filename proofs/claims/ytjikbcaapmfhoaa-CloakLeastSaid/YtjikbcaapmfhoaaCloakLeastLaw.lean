/- CloakLeast: (P9.4) no cell of a higher level that has the point does, nor does the one itself, if the cloak is a pair. Conditions: none. -/
import Derived.Test.YtjikbcaapmfhoaaCk7
import Derived.Lib.SmallJoins
namespace Go.Proofs.Ytjikbcaapmfhoaa.cloakLeast
set_option linter.unusedVariables false
set_option linter.unusedSimpArgs false
open Go.ChangeShapes Go.WideShapes Go.ChangeAt Go.RowKit
open Go.ChangeMaps (open_string shut_string)
theorem below_drew1 {B : Nat} {a w : World} (h : Below B a w) : Below B a w.drew := ⟨h.os, h.tape, h.output, h.size, h.block⟩
theorem least {S : List Pn} (hS : FitS S) {K A px py lv : Int} (h : findE S K A px py = 0) (ho : okA 16 px py lv = true) (h1 : ¬ lv < ((findK S K A px py).getD ck0).L) (h2 : ¬ (lv = ((findK S K A px py).getD ck0).L ∧ ((findK S K A px py).getD ck0).kd = 0)) :
    doesP K A (hasN (b0 (a0 16 px py lv) (a1 16 px py lv) (a2 16 px py lv)) (b1 (a0 16 px py lv) (a1 16 px py lv) (a2 16 px py lv)) (b2 (a0 16 px py lv) (a1 16 px py lv) (a2 16 px py lv)) (b3 (a0 16 px py lv) (a1 16 px py lv) (a2 16 px py lv)) S) (areaU (b0 (a0 16 px py lv) (a1 16 px py lv) (a2 16 px py lv)) (b1 (a0 16 px py lv) (a1 16 px py lv) (a2 16 px py lv)) (b2 (a0 16 px py lv) (a1 16 px py lv) (a2 16 px py lv)) (b3 (a0 16 px py lv) (a1 16 px py lv) (a2 16 px py lv))) = false := by
  have hc : fitsB px py = true ∧ rightP K = true := by
    unfold findE at h
    split at h
    · assumption
    · cases h
  rw [findE, if_pos hc] at h
  rw [findK, if_pos hc] at h1 h2
  cases hs : seekK S K A 16 px py with
  | none => rw [hs] at h; cases h
  | some k =>
    rw [hs] at h1 h2
    simp only [Option.getD_some] at h1 h2
    have ho2 := ho
    rw [okA_of, Bool.and_eq_true] at ho2
    have hl := (levB_iff lv).1 ho2.1
    obtain ⟨j, rfl⟩ := Int.eq_ofNat_of_zero_le hl.1
    have hj : j ≤ 16 := by omega
    have hown := seek_own 16 px py hs j hj (by omega)
    have hl2 := lev_ok (px, py) j (by omega) hc.1
    have e0 := hl2.2.1
    simp only at e0
    have e1' : a1 16 px py (j : Int) = px / 2 ^ (16 - j) := by rw [a1, if_pos ho, show ((16 : Int) - (j : Int)).toNat = 16 - j by omega]
    have e2' : a2 16 px py (j : Int) = py / 2 ^ (16 - j) := by rw [a2, if_pos ho, show ((16 : Int) - (j : Int)).toNat = 16 - j by omega]
    have hok := hl2.2.2
    simp only at hok
    rw [e0, hasN_cell S hS _ _ _ hok, e1', e2']
    exact hown
def Two_ (w0 : World) (px py K A : Int) (W : World) : Prop := Blk W w0.heap.size 24 #[.int .i64 px, .int .i64 py] ∧ Blk W (w0.heap.size + 1) 27 #[.int .i64 K, .int .u64 A]
theorem Two_.below {w0 W X : World} {px py K A : Int} (h : Two_ w0 px py K A W) (hb : Below W.heap.size W X) : Two_ w0 px py K A X := ⟨h.1.thru0 hb, h.2.thru0 hb⟩
set_option maxRecDepth 100000 in
set_option maxHeartbeats 8000000 in
theorem walk (a : Option Addr) (len cap0 : Nat) (px py K A lv : Int) (w : World) (h : IsSl w 2 (PntOk w) a len cap0) (c0 : -9223372036854775808 ≤ px ∧ px ≤ 9223372036854775807) (c1 : -9223372036854775808 ≤ py ∧ py ≤ 9223372036854775807) (c2 : -9223372036854775808 ≤ K ∧ K ≤ 9223372036854775807) (c3 : 0 ≤ A ∧ A ≤ 18446744073709551615) (c4 : -9223372036854775808 ≤ lv ∧ lv ≤ 9223372036854775807) :
    Calls Try.prog 5 #[.slice a len cap0, .agg #[.int .i64 px, .int .i64 py], .agg #[.int .i64 K, .int .u64 A], .int .i64 lv] w fun e w' => e = .returned (.bool true) ∧ Below w.heap.size w w' := by
  have hlc := h.le
  obtain ⟨hlc1, hlc2⟩ := hlc
  unfold maxLen at hlc2
  obtain ⟨S, hS⟩ := rd_of h
  clear h c0 c1 c2 c3 c4
  have hA : Below w.heap.size w ((w.alloc (.cells #[.int .i64 px, .int .i64 py] 24)).alloc (.cells #[.int .i64 K, .int .u64 A] 27)) := ((Below.refl _ _).alloc (Nat.le_refl _) _).alloc (by simp) _
  have HK : Hid (Two_ w px py K A ((w.alloc (.cells #[.int .i64 px, .int .i64 py] 24)).alloc (.cells #[.int .i64 K, .int .u64 A] 27))) := Lib.hid (blk_two w 24 27 #[.int .i64 px, .int .i64 py] #[.int .i64 K, .int .u64 A])
  have HR := Lib.hid (hS.below hA)
  have HA := Lib.hid hA
  clear hS hA
  by_cases hbig : 60 < len
  · have hbi : (60 : Int) < (len : Int) := by omega
    go_enter Try.func5, Try.ntmps5
    go_wp2_with fail
    refine (built_big a len cap0 _ hbig).mono ?_
    rintro e w1 ⟨rfl, hb1⟩
    have HB := Lib.hid (below_trans HA.out hb1)
    clear hb1
    go_wp2_with fail
    refine (ckknown_any _).mono ?_
    rintro e w5 ⟨rfl, hb5⟩
    have HB5 := Lib.hid (below_trans HB.out hb5)
    clear hb5
    go_wp2
    go_ret
    exact ⟨rfl, HB5.out⟩
  · have hbi : (len : Int) ≤ 60 := by omega
    have HBT := Lib.hid (built_any a len cap0 S _ HR.out (by omega))
    have hlen := haveK_len S len
    have hfit := haveK_fit S len
    go_enter Try.func5, Try.ntmps5
    go_wp2_with fail
    refine HBT.out.mono ?_
    rintro e w1 ⟨y, cs, A1, c1', rfl, hp⟩
    have HB1 := Lib.hid (below_trans HA.out hp.2.2.1)
    have HPY := Lib.hid hp.1
    have HRD := Lib.hid hp.2.1.rd
    replace HK := Lib.hid (HK.out.below hp.2.2.1)
    clear hp HBT HR HA
    have HL : Hid ((haveK S len).length ≤ 500000) := Lib.hid (by omega)
    have HF := Lib.hid hfit
    clear hlen hfit
    generalize haveK S len = H at *
    have p0 := HK.out.1.cell 0
    have p1 := HK.out.1.cell 1
    have f0 := HK.out.2.cell 0
    have f1 := HK.out.2.cell 1
    simp only [List.getElem?_toArray, List.getElem?_cons_zero, List.getElem?_cons_succ] at p0 p1 f0 f1
    have HLE := Lib.hid (least HF.out (K := K) (A := A) (px := px) (py := py) (lv := lv))
    have HFA := Lib.hid (find_any y cs H (17 * len) px py K A w1 HPY.out HL.out)
    unfold FindP at HFA
    go_wp2_with fail
    refine HFA.out.mono ?_
    rintro e w2 ⟨rfl, hb2⟩
    generalize (findK H K A px py).getD ck0 = ka at *
    generalize findE H K A px py = ea at *
    have hA2 : Below w2.heap.size w2 (w2.alloc (.cells #[.int .i64 ka.a, .int .i64 ka.b, .int .i64 ka.c, .int .i64 ka.d, .int .i64 ka.L, .int .i64 ka.x, .int .i64 ka.y, .int .i64 ka.kd, .int .i64 ka.n] 37)) := (Below.refl _ _).alloc (Nat.le_refl _) _
    have HB2 := Lib.hid (below_trans (below_trans HB1.out hb2) hA2)
    replace HK := Lib.hid ((HK.out.below hb2).below hA2)
    replace HRD := Lib.hid ((HRD.out.below hb2).below hA2)
    have HQ := Lib.hid (Blk.new w2 37 #[.int .i64 ka.a, .int .i64 ka.b, .int .i64 ka.c, .int .i64 ka.d, .int .i64 ka.L, .int .i64 ka.x, .int .i64 ka.y, .int .i64 ka.kd, .int .i64 ka.n])
    clear hb2 hA2 HFA HPY HB1
    clear p0 p1 f0 f1
    have p0 := HK.out.1.cell 0
    have p1 := HK.out.1.cell 1
    have f0 := HK.out.2.cell 0
    have f1 := HK.out.2.cell 1
    simp only [List.getElem?_toArray, List.getElem?_cons_zero, List.getElem?_cons_succ] at p0 p1 f0 f1
    unfold Ck.val
    have HOF := Lib.hid (rof_u px py lv)
    have HBX := Lib.hid (rbox_u (a0 16 px py lv) (a1 16 px py lv) (a2 16 px py lv))
    generalize b0 (a0 16 px py lv) (a1 16 px py lv) (a2 16 px py lv) = r0 at *
    generalize b1 (a0 16 px py lv) (a1 16 px py lv) (a2 16 px py lv) = r1 at *
    generalize b2 (a0 16 px py lv) (a1 16 px py lv) (a2 16 px py lv) = r2 at *
    generalize b3 (a0 16 px py lv) (a1 16 px py lv) (a2 16 px py lv) = r3 at *
    generalize okC (a0 16 px py lv) (a1 16 px py lv) (a2 16 px py lv) = oc at *
    generalize a0 16 px py lv = q0 at *
    generalize a1 16 px py lv = q1 at *
    generalize a2 16 px py lv = q2 at *
    generalize okA 16 px py lv = oa at *
    go_wp2_with fail
    generalize hp11 : w2.heap.size = p11 at *
    generalize (w2.alloc (.cells #[.int .i64 ka.a, .int .i64 ka.b, .int .i64 ka.c, .int .i64 ka.d, .int .i64 ka.L, .int .i64 ka.x, .int .i64 ka.y, .int .i64 ka.kd, .int .i64 ka.n] 37)) = W2 at *
    refine (HOF.out _).mono ?_
    rintro e w3 ⟨rfl, hb3⟩
    have hA3 : Below w3.heap.size w3 (w3.alloc (.cells #[.int .i64 q0, .int .i64 q1, .int .i64 q2] 35)) := (Below.refl _ _).alloc (Nat.le_refl _) _
    have HB3 := Lib.hid (below_trans (below_trans HB2.out hb3) hA3)
    replace HK := Lib.hid ((HK.out.below hb3).below hA3)
    replace HRD := Lib.hid ((HRD.out.below hb3).below hA3)
    replace HQ := Lib.hid ((HQ.out.thru0 hb3).thru0 hA3)
    have HC := Lib.hid (Blk.new w3 35 #[.int .i64 q0, .int .i64 q1, .int .i64 q2])
    clear hb3 hA3 HB2 HOF
    clear p0 p1 f0 f1
    have m0 := HC.out.cell 0
    have m1 := HC.out.cell 1
    have m2 := HC.out.cell 2
    simp only [List.getElem?_toArray, List.getElem?_cons_zero, List.getElem?_cons_succ] at m0 m1 m2
    go_wp2_with fail
    generalize hp13 : w3.heap.size = p13 at *
    generalize (w3.alloc (.cells #[.int .i64 q0, .int .i64 q1, .int .i64 q2] 35)) = W3 at *
    refine (HBX.out _).mono ?_
    rintro e w4 ⟨rfl, hb4⟩
    have hA4 : Below w4.heap.size w4 (w4.alloc (.cells #[.int .i64 r0, .int .i64 r1, .int .i64 r2, .int .i64 r3] 33)) := (Below.refl _ _).alloc (Nat.le_refl _) _
    have HB4 := Lib.hid (below_trans (below_trans HB3.out hb4) hA4)
    replace HK := Lib.hid ((HK.out.below hb4).below hA4)
    replace HRD := Lib.hid ((HRD.out.below hb4).below hA4)
    replace HQ := Lib.hid ((HQ.out.thru0 hb4).thru0 hA4)
    have HX := Lib.hid (Blk.new w4 33 #[.int .i64 r0, .int .i64 r1, .int .i64 r2, .int .i64 r3])
    clear hb4 hA4 HB3 HBX HC m0 m1 m2
    have j4 : _ = some (Value.int .i64 ka.L) := HQ.out.cell 4
    have j7 : _ = some (Value.int .i64 ka.kd) := HQ.out.cell 7
    go_upto_region 7 with fail
    generalize hp15 : w4.heap.size = p15 at *
    generalize (w4.alloc (.cells #[.int .i64 r0, .int .i64 r1, .int .i64 r2, .int .i64 r3] 33)) = W at *
    by_cases h0 : ea = 0
    · subst h0
      cases oa with
      | false =>
        go_wp2_with fail
        refine (ckknown_any _).mono ?_
        rintro e w5 ⟨rfl, hb5⟩
        have HB5 := Lib.hid (below_trans HB4.out hb5)
        clear hb5
        go_wp2
        go_ret
        exact ⟨rfl, HB5.out⟩
      | true =>
        by_cases hlt : lv < ka.L
        · clear HLE
          go_wp2_with fail
          refine (ckknown_any _).mono ?_
          rintro e w5 ⟨rfl, hb5⟩
          have HB5 := Lib.hid (below_trans HB4.out hb5)
          clear hb5
          go_wp2
          go_ret
          exact ⟨rfl, HB5.out⟩
        · have dlt : decide (lv < ka.L) = false := decide_eq_false hlt
          by_cases heq : lv = ka.L
          · by_cases hkd : ka.kd = 0
            · clear HLE
              have q1' : (lv == ka.L) = true := by simpa using heq
              have q2' : (ka.kd == 0) = true := by simpa using hkd
              go_wp2_with fail
              refine (ckknown_any _).mono ?_
              rintro e w5 ⟨rfl, hb5⟩
              have HB5 := Lib.hid (below_trans HB4.out hb5)
              clear hb5
              go_wp2
              go_ret
              exact ⟨rfl, HB5.out⟩
            · have HDD := Lib.hid (HLE.out rfl rfl (by omega) (by first | exact fun e => hkd e.2 | exact fun _ => hkd))
              clear HLE
              have q1' : (lv == ka.L) = true := by simpa using heq
              have q2' : (ka.kd == 0) = false := by simpa using hkd
              clear heq hkd
              go_upto_region 9 with fail
              have HHS := Lib.hid (fun W' hW => rhas_any A1 H.length c1' H r0 r1 r2 r3 W' (HRD.out.below hW) (by have := HL.out; omega))
              have HAR2 := Lib.hid (rarea_u r0 r1 r2 r3)
              have HDO := Lib.hid (cdoes_any K A (hasN r0 r1 r2 r3 H : Int) (areaU r0 r1 r2 r3))
              rw [HDD.out] at HDO
              clear HDD
              generalize (hasN r0 r1 r2 r3 H : Int) = hn at *
              generalize areaU r0 r1 r2 r3 = ar at *
              have f0 := HK.out.2.cell 0
              have f1 := HK.out.2.cell 1
              have t0 := HX.out.cell 0
              have t1 := HX.out.cell 1
              have t2 := HX.out.cell 2
              have t3 := HX.out.cell 3
              simp only [List.getElem?_toArray, List.getElem?_cons_zero, List.getElem?_cons_succ] at f0 f1 t0 t1 t2 t3
              have hbW := Below.refl W.heap.size W
              clear j4 j7
              generalize hp6 : w.heap.size + 1 = p6 at *
              go_region_held3 (fun w' => w'.cell? ⟨p6, 0, none⟩ = some (.int .i64 K) ∧ w'.cell? ⟨p6, 1, none⟩ = some (.int .u64 A) ∧ w'.cell? ⟨p15, 0, none⟩ = some (.int .i64 r0) ∧ w'.cell? ⟨p15, 1, none⟩ = some (.int .i64 r1) ∧ w'.cell? ⟨p15, 2, none⟩ = some (.int .i64 r2) ∧ w'.cell? ⟨p15, 3, none⟩ = some (.int .i64 r3) ∧ Below W.heap.size W w') (first | (refine ⟨?_, ?_, ?_, ?_, ?_, ?_, ?_⟩ <;> first | assumption | (exact cell_later (by assumption) (by assumption)) | (exact below_drew1 (by assumption)) | (exact below_trans (by assumption) (by assumption))) | (go_split_ands; refine ⟨?_, ?_, ?_, ?_, ?_, ?_, ?_⟩ <;> first | (exact cell_later (by assumption) (by assumption)) | (exact below_trans (by assumption) (by assumption)) | go_keep))
                (first
                  | (go_at_call 16; refine (HHS.out _ (by first | assumption | (go_split_ands; assumption))).mono ?_; rintro e w9 ⟨rfl, hb9⟩)
                  | (go_at_call 17; refine (HAR2.out _).mono ?_; rintro e w9 ⟨rfl, hb9⟩)
                  | (go_at_call 22; refine (HDO.out _).mono ?_; rintro e w9 ⟨rfl, hb9⟩)
                  | (go_at_call 10; refine (ckknown_any _).mono ?_; rintro e w9 ⟨rfl, hb9⟩))
              all_goals
                go_split_ands
                go_wp2
                go_ret
                exact ⟨rfl, below_trans HB4.out (by assumption)⟩
          · have HDD := Lib.hid (HLE.out rfl rfl (by omega) (by first | exact fun e => heq e.1 | exact fun e => absurd e heq))
            clear HLE
            have q1' : (lv == ka.L) = false := by simpa using heq
            clear heq
            go_upto_region 9 with fail
            have HHS := Lib.hid (fun W' hW => rhas_any A1 H.length c1' H r0 r1 r2 r3 W' (HRD.out.below hW) (by have := HL.out; omega))
            have HAR2 := Lib.hid (rarea_u r0 r1 r2 r3)
            have HDO := Lib.hid (cdoes_any K A (hasN r0 r1 r2 r3 H : Int) (areaU r0 r1 r2 r3))
            rw [HDD.out] at HDO
            clear HDD
            generalize (hasN r0 r1 r2 r3 H : Int) = hn at *
            generalize areaU r0 r1 r2 r3 = ar at *
            have f0 := HK.out.2.cell 0
            have f1 := HK.out.2.cell 1
            have t0 := HX.out.cell 0
            have t1 := HX.out.cell 1
            have t2 := HX.out.cell 2
            have t3 := HX.out.cell 3
            simp only [List.getElem?_toArray, List.getElem?_cons_zero, List.getElem?_cons_succ] at f0 f1 t0 t1 t2 t3
            have hbW := Below.refl W.heap.size W
            clear j4 j7
            generalize hp6 : w.heap.size + 1 = p6 at *
            go_region_held3 (fun w' => w'.cell? ⟨p6, 0, none⟩ = some (.int .i64 K) ∧ w'.cell? ⟨p6, 1, none⟩ = some (.int .u64 A) ∧ w'.cell? ⟨p15, 0, none⟩ = some (.int .i64 r0) ∧ w'.cell? ⟨p15, 1, none⟩ = some (.int .i64 r1) ∧ w'.cell? ⟨p15, 2, none⟩ = some (.int .i64 r2) ∧ w'.cell? ⟨p15, 3, none⟩ = some (.int .i64 r3) ∧ Below W.heap.size W w') (first | (refine ⟨?_, ?_, ?_, ?_, ?_, ?_, ?_⟩ <;> first | assumption | (exact cell_later (by assumption) (by assumption)) | (exact below_drew1 (by assumption)) | (exact below_trans (by assumption) (by assumption))) | (go_split_ands; refine ⟨?_, ?_, ?_, ?_, ?_, ?_, ?_⟩ <;> first | (exact cell_later (by assumption) (by assumption)) | (exact below_trans (by assumption) (by assumption)) | go_keep))
              (first
                | (go_at_call 16; refine (HHS.out _ (by first | assumption | (go_split_ands; assumption))).mono ?_; rintro e w9 ⟨rfl, hb9⟩)
                | (go_at_call 17; refine (HAR2.out _).mono ?_; rintro e w9 ⟨rfl, hb9⟩)
                | (go_at_call 22; refine (HDO.out _).mono ?_; rintro e w9 ⟨rfl, hb9⟩)
                | (go_at_call 10; refine (ckknown_any _).mono ?_; rintro e w9 ⟨rfl, hb9⟩))
            all_goals
              go_split_ands
              go_wp2
              go_ret
              exact ⟨rfl, below_trans HB4.out (by assumption)⟩
    · have hb0 : (ea != 0) = true := by simpa using h0
      clear HLE
      go_wp2_with fail
      refine (ckknown_any _).mono ?_
      rintro e w5 ⟨rfl, hb5⟩
      have HB5 := Lib.hid (below_trans HB4.out hb5)
      clear hb5
      go_wp2
      go_ret
      exact ⟨rfl, HB5.out⟩

theorem own : ownKnob Try.prog.godebug = none := by kernel_rfl
theorem laidOut : laidOutB Try.prog = true := by kernel_rfl
set_option maxRecDepth 100000 in
theorem lifted (os : Os) (started : os.Started) (H : Type) (enc : TypeId × Value → H) :
    ReturnsInHanded {} Try.checked os 5 .any (Rows.cloakLeastSpec.pre6 enc Try.prog Try.f5 Rows.cloakLeastRow.domain false) (Rows.cloakLeastSpec.post enc Try.prog Try.f5 false true false false) := by
  refine returnsInHanded_of_change_sized (C := Try.checked) own started (by kernel_rfl) Try.func5
    (ChangeSpec.witness6 (enc := enc) (C := Try.checked) false ⟨#[], #[.slice none 0 0, .agg #[.int .i64 0, .int .i64 0], .agg #[.int .i64 0, .int .u64 0], .int .i64 0], []⟩ 8 (by kernel_rfl) (by kernel_rfl) (by kernel_rfl) (by kernel_rfl)) ?_
  intro W base args ds gs before hval0 hW hcnd hsz0 _
  have hval : ∀ (j : Nat) t v, Try.f5.params[j]? = some t → args[j]? = some v → Value.okWide Try.prog W .any base t v := hval0
  have hW' := hW
  obtain ⟨p, q, hA0, hV, rfl, hfz, hnd⟩ := hW
  have hA : DataW.TrodAll enc Try.prog W 0 (fun _ => true) true Try.f5.params.toList args.toList ds p := hA0
  rw [Try.params5] at hA hval
  obtain ⟨v0, vs0, d0, ds0, p0, q0, hargs, rfl, rfl, h0, r0⟩ := trodAll_cons hA
  obtain ⟨v1, vs1, d1, ds1, p1, q1, rfl, rfl, rfl, h1, r1⟩ := trodAll_cons r0
  obtain ⟨v2, vs2, d2, ds2, p2, q2, rfl, rfl, rfl, h2, r2⟩ := trodAll_cons r1
  obtain ⟨v3, vs3, d3, ds3, p3, q3, rfl, rfl, rfl, h3, r3⟩ := trodAll_cons r2
  obtain ⟨rfl, rfl, rfl⟩ := trodAll_nil r3
  obtain rfl : args = #[v0, v1, v2, v3] := by cases args; simp_all
  obtain ⟨rfl, rfl⟩ := trodVars_none hV
  have k0 := h0
  have lt0 : ∀ x ∈ p0, x.block < W.heap.size := by obtain ⟨m, hm⟩ := k0; exact DataW.trod_lt m _ _ _ hm
  obtain ⟨a0, len0, cap0, rfl⟩ := okWide_slice Try.underlying22 (hval 0 22 v0 rfl rfl)
  have w0 : IsSl W 2 (PntOk W) a0 len0 cap0 := by
    obtain ⟨fuel, hf⟩ := h0
    exact isSl_of Try.underlying22 (by kernel_rfl) pntOk_of hf (fun n hn => of_decide_eq_true (List.all_eq_true.1 hsz0 n (DataW.weights_mem_each (j := 0) (t := 22) (d := d0) rfl rfl n hn)))
  have k1 := h1
  have lt1 : ∀ x ∈ p1, x.block < W.heap.size := by obtain ⟨m, hm⟩ := k1; exact DataW.trod_lt m _ _ _ hm
  obtain ⟨c1_0, c1_1, y1_0, y1_1, m1, rfl, rfl, rfl, hy1_0, hy1_1⟩ := Joins.open_agg2 Try.underlying24 (by kernel_rfl) (by kernel_rfl) (hval 1 24 v1 rfl rfl) h1
  obtain ⟨a1_0, e1_0, rfl, w1_0⟩ := DataW.trod_int Try.underlying3 hy1_0
  simp only [List.cons.injEq, and_true] at e1_0
  subst e1_0
  obtain ⟨a1_1, e1_1, rfl, w1_1⟩ := DataW.trod_int Try.underlying3 hy1_1
  simp only [List.cons.injEq, and_true] at e1_1
  subst e1_1
  have k2 := h2
  have lt2 : ∀ x ∈ p2, x.block < W.heap.size := by obtain ⟨m, hm⟩ := k2; exact DataW.trod_lt m _ _ _ hm
  obtain ⟨c2_0, c2_1, y2_0, y2_1, m2, rfl, rfl, rfl, hy2_0, hy2_1⟩ := Joins.open_agg2 Try.underlying27 (by kernel_rfl) (by kernel_rfl) (hval 2 27 v2 rfl rfl) h2
  obtain ⟨a2_0, e2_0, rfl, w2_0⟩ := DataW.trod_int Try.underlying3 hy2_0
  simp only [List.cons.injEq, and_true] at e2_0
  subst e2_0
  obtain ⟨a2_1, e2_1, rfl, w2_1⟩ := DataW.trod_int Try.underlying25 hy2_1
  simp only [List.cons.injEq, and_true] at e2_1
  subst e2_1
  have k3 := h3
  have lt3 : ∀ x ∈ p3, x.block < W.heap.size := by obtain ⟨m, hm⟩ := k3; exact DataW.trod_lt m _ _ _ hm
  obtain ⟨a3, rfl, rfl, rfl, w3⟩ := open_int Try.underlying3 (hval 3 3 v3 rfl rfl) h3
  clear hA0 hval0
  refine (walk a0 len0 cap0 a1_0 a1_1 a2_0 a2_1 a3 W w0 (bounds_i64 w1_0) (bounds_i64 w1_1) (bounds_i64 w2_0) (bounds_u64 w2_1) (bounds_i64 w3)).mono fun e W' ⟨he, bel⟩ => ?_
  subst he
  exact ⟨_, rfl, _, _, _, [], _, [], hW', trodAll_mk1 (shut_bool Try.underlying4 _), (trodAll_cons_mk (Below.trod laidOut (by kernel_rfl) (of_decide_eq_true (by kernel_rfl)) k0 bel lt0) (trodAll_cons_mk (Below.trod laidOut (by kernel_rfl) (of_decide_eq_true (by kernel_rfl)) k1 bel lt1) (trodAll_cons_mk (Below.trod laidOut (by kernel_rfl) (of_decide_eq_true (by kernel_rfl)) k2 bel lt2) (trodAll_cons_mk (Below.trod laidOut (by kernel_rfl) (of_decide_eq_true (by kernel_rfl)) k3 bel lt3) trodAll_mk0)))), rfl, bel.frame _, fun h => by cases h⟩
theorem over : Rows.cloakLeastRow.holds Try.pinned (OpenSpec.ofChange Rows.cloakLeastSpec) :=
  OpenClaim.holds_of_wide 5 Try.f5 rfl rfl rfl rfl rfl rfl rfl ⟨rfl, rfl, rfl, rfl, rfl⟩ rfl rfl rfl rfl rfl (by kernel_rfl) Try.func5 (by kernel_rfl)
    (of_decide_eq_true (by kernel_rfl)) (by unfold Func.isWrapper; first | (rw [if_pos (by decide +kernel)]; kernel_rfl) | (rw [if_neg (by decide +kernel)]; exact ⟨rfl, rfl⟩))
    (fun os started H enc _ => lifted os started H enc)
/-- The statement. -/
theorem proved : Rows.CloakLeastSaid := over
#print axioms proved
end Go.Proofs.Ytjikbcaapmfhoaa.cloakLeast
