/- RegionApart: (P13.3) a form's rectangles may be, and have no point in common; the form of a form is itself. Conditions: none. -/
import Derived.Test.YtimfcgnnfgoaaaaRgQ
import Derived.Deep.RegionLaw
import Derived.Deep.DeepCutAuto
import Derived.Test.YtimfcgnnfgoaaaaRgH0
namespace Go.Proofs.Ytimfcgnnfgoaaaa.regionApart
set_option linter.unusedVariables false
set_option linter.unusedSimpArgs false
open Go.ChangeShapes Go.WideShapes Go.ChangeAt Go.RowKit
open Go.ChangeMaps (open_string shut_string)
theorem apart_right {a b : Bx} (h : ∀ x y, hasP a x y → ¬ hasP b x y) : rightB (max b.x0 a.x0) (max b.y0 a.y0) (min b.x1 a.x1) (min b.y1 a.y1) = false := by
  cases h2 : rightB (max b.x0 a.x0) (max b.y0 a.y0) (min b.x1 a.x1) (min b.y1 a.y1) with
  | false => rfl
  | true =>
    rw [rightB_iff] at h2
    exact absurd ⟨by omega, by omega, by omega, by omega⟩ (h (max b.x0 a.x0) (max b.y0 a.y0) ⟨by omega, by omega, by omega, by omega⟩)
set_option maxRecDepth 100000 in
set_option maxHeartbeats 8000000 in
theorem walkN (v : Value) (L : List Bx) (w : World) (h : ERd elR w v L) :
    Calls Try.prog 5 #[v] w fun e w' => e = .returned (.bool true) ∧ Below w.heap.size w w' := by
  obtain ⟨A1, c1, rfl, -, -⟩ := h.shape
  have HL := Lib.hid h
  clear h
  obtain ⟨n, hn⟩ : ∃ n, n = L.length := ⟨_, rfl⟩
  rw [← hn] at HL ⊢
  have HN := Lib.hid hn; clear hn
  by_cases h1 : 40 < n
  · have h1b : (40 : Int) < (n : Int) := by omega
    clear h1
    go_enter Try.func5, Try.ntmps5
    go_wp2_with fail
    refine (known13_any _).mono ?_
    rintro e w1 ⟨rfl, hb⟩
    go_wp2
    go_ret
    exact ⟨rfl, hb⟩
  · have h1b : ¬ (40 : Int) < (n : Int) := by omega
    have HNB := Lib.hid (show L.length ≤ 40 from by rw [← HN.out]; omega)
    have HU := Lib.hid (union_any w _ L HL.out (by have := HNB.out; omega) (fun _ => by have := HNB.out; omega))
    have HZ := Lib.hid (chk2_zero (a := L) (b := []))
    clear h1
    go_enter Try.func5, Try.ntmps5
    go_wp2_with fail
    refine HU.out.mono ?_
    rintro e w1 ⟨v1, U, rfl, hf, hok, hno, hlen⟩
    have HF := Lib.hid hf
    have HOK := Lib.hid hok
    have HNO := Lib.hid hno
    have HLN := Lib.hid hlen
    have HUR := Lib.hid (hf.read elR_ok)
    clear hf hok hno hlen HU
    generalize chk2 L [] = c at *
    by_cases h0 : c = 0
    · have hcb : (c != 0) = false := by simp [h0]
      have HFO := Lib.hid (form_union (HOK.out h0))
      have HGR := Lib.hid (cA_grid (HZ.out.1 h0).2.2.1)
      have HRI := Lib.hid (form_right HFO.out HGR.out)
      have HAP := Lib.hid (HFO.out.apart)
      clear HNO HOK h0
      obtain ⟨A2, c2, rfl, -, -⟩ := HUR.out.shape
      obtain ⟨m, hm⟩ : ∃ m, m = U.length := ⟨_, rfl⟩
      rw [← hm] at HUR HF ⊢
      have HM := Lib.hid hm; clear hm
      have HMB := Lib.hid (show m ≤ 1000000 from by rw [HM.out]; exact HLN.out)
      go_wp2_with fail
      go_loopw [5, 6] (fun i _ wr => ∃ (j : Nat), j ≤ m ∧ i = .int .i64 j ∧ Hid (Below w1.heap.size w1 wr)) (fun i _ _ => m - (intOf i).toNat)
      case atStart => exact ⟨0, Nat.zero_le _, rfl, Lib.hid (Below.refl _ _)⟩
      case round =>
        rename World => wr
        obtain ⟨j, hj, rfl, HB⟩ := hrel
        by_cases hlt : j < m
        · have hji : (j : Int) < (m : Int) := by omega
          have hkl : j < U.length := by rw [← HM.out]; exact hlt
          have hx : U[j]? = some U[j] := List.getElem?_eq_getElem hkl
          have HRB := Lib.hid ((rightX_iff _).2 (HRI.out _ (List.getElem_mem hkl)))
          have HPW := Lib.hid (fun (k : Nat) (hk : k < j) => List.pairwise_iff_getElem.1 HAP.out k j (by omega) hkl hk)
          obtain ⟨g, o, rfl, hg, a0, a1, a2, a3⟩ := (HUR.out.below HB.out).rect hx
          have HX := Lib.hid hx
          generalize U[j] = x at *
          have hjw : wrap64 ((j : Int) + 1) = (j : Int) + 1 := by have := HMB.out; unfold wrap64; omega
          clear hx hg
          go_wp2_with fail
          refine (right_any _ _ _ _ _).mono ?_
          rintro e w2 ⟨rfl, hb⟩
          have HB2 := Lib.hid (below_trans HB.out hb)
          clear hb a0 a1 a2 a3 HB
          have hrb : rightB x.x0 x.y0 x.x1 x.y1 = true := HRB.out
          rw [hrb]
          clear hrb
          go_wp2_with fail
          go_loopw [6] (fun i wx => ∃ (k : Nat), k ≤ j ∧ i = .int .i64 k ∧ Hid (Below w1.heap.size w1 wx)) (fun i _ => j - (intOf i).toNat)
          case atStart => exact ⟨0, Nat.zero_le _, rfl, HB2⟩
          case round =>
            rename World => wx
            obtain ⟨k, hk, rfl, HB⟩ := hrel
            by_cases hlt2 : k < j
            · have hki : (k : Int) < (j : Int) := by omega
              have hkm : (k : Int) < (m : Int) := by omega
              have hkl2 : k < U.length := by omega
              have hy : U[k]? = some U[k] := List.getElem?_eq_getElem hkl2
              have HRC := Lib.hid ((rightX_iff _).2 (HRI.out _ (List.getElem_mem hkl2)))
              have HPK := Lib.hid (apart_right (HPW.out k hlt2))
              obtain ⟨g3, o3, e3, -, a0, a1, a2, a3⟩ := (HUR.out.below HB.out).rect HX.out
              obtain ⟨g4, o4, e4, -, b0, b1, b2, b3⟩ := (HUR.out.below HB.out).rect hy
              simp only [Option.some.injEq, Addr.mk.injEq, and_true] at e3 e4
              obtain ⟨rfl, rfl⟩ := e3
              obtain ⟨rfl, rfl⟩ := e4
              generalize U[k] = y at *
              have hkw : wrap64 ((k : Int) + 1) = (k : Int) + 1 := by have := HMB.out; unfold wrap64; omega
              clear hy
              go_upto_region 14 with fail
              go_region_law ((go_simp; go_at_call 21; refine (meets_no3 x.x0 x.y0 x.x1 x.y1 y.x0 y.y0 y.x1 y.y1 HRB.out HRC.out HPK.out _).mono ?_; rintro e w9 ⟨rfl, hb⟩; have HB9 := Lib.hid (show Below w1.heap.size w1 w9 from below_trans HB.out (below_trans (below_drawn (Below.refl wx.heap.size wx) 1) hb)); clear hb))
              all_goals
                clear a0 a1 a2 a3 b0 b1 b2 b3
                go_wp2_with fail
                go_roundw
                case rel => exact ⟨k + 1, by omega, by go_num, HB9⟩
                case measure =>
                  try rw [hkw]
                  simp only [intOf]
                  omega
            · obtain rfl : k = j := by omega
              go_wp2_with fail
              go_roundw
              case rel => exact ⟨k + 1, by omega, by go_num, HB⟩
              case measure =>
                try rw [hjw]
                simp only [intOf]
                omega
        · obtain rfl : j = m := by omega
          have HB0 := Lib.hid (below_trans HF.out.bel HB.out)
          have HU2 := Lib.hid (union_any wr _ U (by have h9 := HUR.out.below HB.out; exact h9) (by rw [← HM.out]; exact HMB.out) (fun h9 => by have := (chk2_zero.1 h9).1; omega))
          by_cases hbig : 256 < j
          · have hbb : (256 : Int) < (j : Int) := by omega
            have HC2 := Lib.hid (show chk2 U [] = 2 from by unfold chk2; rw [if_pos (.inl (by rw [← HM.out]; exact hbig))])
            rw [HC2.out] at HU2
            clear hbig
            go_wp2_with fail
            refine HU2.out.mono ?_
            rintro e w2 ⟨v2, V, rfl, hf2, -, -, -⟩
            have HB2 := Lib.hid (below_trans HB0.out hf2.bel)
            clear hf2
            go_wp2_with fail
            refine (known13_any _).mono ?_
            rintro e w5 ⟨rfl, hb5⟩
            have HB5 := Lib.hid (below_trans HB2.out hb5)
            go_wp2
            go_ret
            exact ⟨rfl, HB5.out⟩
          · have hbb : ¬ (256 : Int) < (j : Int) := by omega
            have HC2 := Lib.hid (show chk2 U [] = 0 from chk2_zero.2 ⟨by rw [← HM.out]; omega, by simp, HRI.out, fun r hr => by simp at hr⟩)
            rw [HC2.out] at HU2
            clear hbig
            go_wp2_with fail
            refine HU2.out.mono ?_
            rintro e w2 ⟨v2, V, rfl, hf2, hok2, -, -⟩
            have HB2 := Lib.hid (below_trans HB0.out hf2.bel)
            have HEQ := Lib.hid (show U = V from by
              have g2 := form_union (hok2 rfl)
              have e1 : ∀ x y, cA L x y = true ↔ cA U x y = true := fun x y => by rw [cA_iff U]; exact HFO.out.iff x y
              exact HFO.out.uniq (g2.congr fun x y => (e1 x y).symm))
            have HR1 := Lib.hid (HUR.out.below (below_trans HB.out hf2.bel))
            have HR2 := Lib.hid (hf2.read elR_ok)
            rw [← HEQ.out] at HR2
            have HSR := Lib.hid (rrects13_any w2 _ _ U HR1.out HR2.out)
            clear hf2 hok2 HU2
            go_wp2_with fail
            refine HSR.out.mono ?_
            rintro e w3 ⟨rfl, hb3⟩
            have HB3 := Lib.hid (below_trans HB2.out hb3)
            clear hb3
            go_wp2_with fail
            refine (known13_any _).mono ?_
            rintro e w5 ⟨rfl, hb5⟩
            have HB5 := Lib.hid (below_trans HB3.out hb5)
            go_wp2
            go_ret
            exact ⟨rfl, HB5.out⟩
    · have hcb : (c != 0) = true := by simpa using h0
      have hU : U = [] := HNO.out h0
      subst hU
      obtain ⟨A2, c2, rfl, -, -⟩ := HUR.out.shape
      clear h0
      go_wp2_with fail
      refine (known13_any _).mono ?_
      rintro e w5 ⟨rfl, hb5⟩
      have HB5 := Lib.hid (below_trans HF.out.bel hb5)
      go_wp2
      go_ret
      exact ⟨rfl, HB5.out⟩
theorem walk (a : Option Addr) (n c : Nat) (w : World) (h : IsSl w 4 okBx a n c) :
    Calls Try.prog 5 #[.slice a n c] w fun e w' => e = .returned (.bool true) ∧ Below w.heap.size w w' := by
  obtain ⟨L, h1, h2⟩ := bxs_of h
  exact walkN _ L w h1
theorem own : ownKnob Try.prog.godebug = none := by kernel_rfl
theorem laidOut : laidOutB Try.prog = true := by kernel_rfl
set_option maxRecDepth 100000 in
theorem lifted (os : Os) (started : os.Started) (H : Type) (enc : TypeId × Value → H) :
    ReturnsInHanded {} Try.checked os 5 .any (Rows.regionApartSpec.pre6 enc Try.prog Try.f5 Rows.regionApartRow.domain false) (Rows.regionApartSpec.post enc Try.prog Try.f5 false true false false) := by
  refine returnsInHanded_of_change_sized (C := Try.checked) own started (by kernel_rfl) Try.func5
    (ChangeSpec.witness6 (enc := enc) (C := Try.checked) false ⟨#[], #[.slice none 0 0], []⟩ 8 (by kernel_rfl) (by kernel_rfl) (by kernel_rfl) (by kernel_rfl)) ?_
  intro W base args ds gs before hval0 hW hcnd hsz0 _
  have hval : ∀ (j : Nat) t v, Try.f5.params[j]? = some t → args[j]? = some v → Value.okWide Try.prog W .any base t v := hval0
  have hW' := hW
  obtain ⟨p, q, hA0, hV, rfl, hfz, hnd⟩ := hW
  have hA : DataW.TrodAll enc Try.prog W 0 (fun _ => true) true Try.f5.params.toList args.toList ds p := hA0
  rw [Try.params5] at hA hval
  obtain ⟨v0, vs0, d0, ds0, p0, q0, hargs, rfl, rfl, h0, r0⟩ := trodAll_cons hA
  obtain ⟨rfl, rfl, rfl⟩ := trodAll_nil r0
  obtain rfl : args = #[v0] := by cases args; simp_all
  obtain ⟨rfl, rfl⟩ := trodVars_none hV
  have k0 := h0
  have lt0 : ∀ x ∈ p0, x.block < W.heap.size := by obtain ⟨m, hm⟩ := k0; exact DataW.trod_lt m _ _ _ hm
  obtain ⟨a0, len0, cap0, rfl⟩ := okWide_slice Try.underlying22 (hval 0 22 v0 rfl rfl)
  have w0 : IsSl W 4 (okBxW W) a0 len0 cap0 := by
    obtain ⟨fuel, hf⟩ := h0
    exact isSl_of Try.underlying22 (by kernel_rfl) okBxP hf (fun n hn => of_decide_eq_true (List.all_eq_true.1 hsz0 n (DataW.weights_mem_each (j := 0) (t := 22) (d := d0) rfl rfl n hn)))
  clear hA0 hval0
  refine (walk a0 len0 cap0 W w0).mono fun e W' ⟨he, bel⟩ => ?_
  subst he
  exact ⟨_, rfl, _, _, _, [], _, [], hW', trodAll_mk1 (shut_bool Try.underlying4 _), (trodAll_cons_mk (Below.trod laidOut (by kernel_rfl) (of_decide_eq_true (by kernel_rfl)) k0 bel lt0) trodAll_mk0), rfl, bel.frame _, fun h => by cases h⟩
theorem over : Rows.regionApartRow.holds Try.pinned (OpenSpec.ofChange Rows.regionApartSpec) :=
  OpenClaim.holds_of_wide 5 Try.f5 rfl rfl rfl rfl rfl rfl rfl ⟨rfl, rfl, rfl, rfl, rfl⟩ rfl rfl rfl rfl rfl (by kernel_rfl) Try.func5 (by kernel_rfl)
    (of_decide_eq_true (by kernel_rfl)) (by unfold Func.isWrapper; first | (rw [if_pos (by decide +kernel)]; kernel_rfl) | (rw [if_neg (by decide +kernel)]; exact ⟨rfl, rfl⟩))
    (fun os started H enc _ => lifted os started H enc)
/-- The statement. -/
theorem proved : Rows.RegionApartSaid := over
#print axioms proved
end Go.Proofs.Ytimfcgnnfgoaaaa.regionApart
