/- RegionCovers: (P13.2) a region has all points of a rectangle just if it has as many in common with it as that has. Conditions: none. -/
import Derived.Test.YtimfcgnnfgoaaaaRgQ
import Derived.Test.YtimfcgnnfgoaaaaRgS
import Derived.Test.YtimfcgnnfgoaaaaRgH0
import Derived.Test.YtimfcgnnfgoaaaaGeomArea
import Derived.Test.YtimfcgnnfgoaaaaGeomRef
import Derived.Lib.SmallJoins
import Derived.Deep.DeepCutAuto
namespace Go.Proofs.Ytimfcgnnfgoaaaa.regionCovers
set_option linter.unusedVariables false
set_option linter.unusedSimpArgs false
open Go.ChangeShapes Go.WideShapes Go.ChangeAt Go.RowKit
open Go.ChangeMaps (open_string shut_string)
theorem how2 : cHow 2 = fun p q : Bool => p && q := by funext p q; simp [cHow]
theorem sumB_pos {g : Int → Int} (h : ∀ u : Int, 0 ≤ g u) {z : Int} (h0 : 0 ≤ z) (hp : 0 < g z) : ∀ n : Nat, z < n → 0 < sumB g n
  | 0, hn => by omega
  | n + 1, hn => by
    unfold sumB
    have h1 := sumB_nonneg n h
    have h2 := h n
    by_cases e : z = n
    · rw [← e]
      rw [e] at hp h0
      have : 0 < g z := by rw [e]; exact hp
      omega
    · have := sumB_pos h h0 hp n (by omega)
      omega
theorem b2i_nn (b : Bool) : 0 ≤ b2i b := by cases b <;> decide
theorem tot_zero {c : Int → Int → Bool} (hg : ∀ x y, c x y = true → 0 ≤ x ∧ x ≤ 65535 ∧ 0 ≤ y ∧ y ≤ 65535) : tot c = 0 ↔ ∀ x y, c x y = false := by
  constructor
  · intro h x y
    cases hc : c x y with
    | false => rfl
    | true =>
      exfalso
      obtain ⟨h1, h2, h3, h4⟩ := hg x y hc
      have h5 : 0 < sumB (fun u => b2i (c u y)) 65536 := sumB_pos (fun u => b2i_nn _) h1 (by show 0 < b2i (c x y); rw [hc]; decide) 65536 (by show x < (65536 : Int); omega)
      have h6 : 0 < tot c := sumB_pos (g := fun y => sumB (fun u => b2i (c u y)) 65536) (fun u => sumB_nonneg _ fun _ => b2i_nn _) h3 h5 65536 (by show y < (65536 : Int); omega)
      omega
  · intro h
    unfold tot
    rw [sumB_congr (h := fun _ => 0) _ (fun y _ _ => by
      rw [sumB_congr (h := fun _ => 0) _ (fun x _ _ => by rw [h x y]; rfl)]
      exact sumB_zero _)]
    exact sumB_zero _
theorem cts_and (a b : List Bx) (x y : Int) : Cts (fun p q : Bool => p && q) a b x y ↔ (cA a x y && cA b x y) = true := Iff.rfl
theorem one_form {r : Bx} (h : rightR r) : FormOf (fun x y => cA [r] x y = true) [r] := (form_one r h).congr fun x y => by
  rw [cA_iff]
  constructor
  · intro h2; exact ⟨r, by simp, h2⟩
  · rintro ⟨q, hq, h2⟩
    simp at hq; subst hq; exact h2
theorem right_one {r : Bx} (h : rightR r) : rightA [r] := fun q hq => by simp at hq; subst hq; exact h
/-- The heart: as many in common as it has. -/
theorem heart {L : List Bx} {r : Bx} {X : List Bx} (hL : rightA L) (hr : rightR r) (hX : FormOf (Cts (cHow 2) L [r]) X) : (areaL X = areaR r ↔ ∀ x y, ¬ Cts (fun p q : Bool => p && !q) [r] L x y) ∧ rightA X ∧ 0 ≤ areaL X ∧ areaL X ≤ 4294967296 := by
  rw [how2] at hX
  have g0 := cA_grid (right_one hr)
  have hX2 : FormOf (fun x y => (cA L x y && cA [r] x y) = true) X := hX.congr (cts_and L [r])
  have hg : ∀ x y, (cA L x y && cA [r] x y) = true → 0 ≤ x ∧ x ≤ 65535 ∧ 0 ≤ y ∧ y ≤ 65535 := fun x y h => by
    rw [Bool.and_eq_true] at h; exact g0 x y h.2
  have e1 := hX2.area hg
  have e2 : areaR r = tot (cA [r]) := by
    have h9 := (one_form hr).area g0
    rw [areaL_cons, areaL_nil] at h9
    omega
  have e3 : tot (cA [r]) = tot (fun x y => cA L x y && cA [r] x y) + tot (fun x y => cA [r] x y && !cA L x y) := tot_add fun x y => by
    cases cA [r] x y <;> cases cA L x y <;> rfl
  have e4 := tot_zero (c := fun x y => cA [r] x y && !cA L x y) fun x y h => by
    rw [Bool.and_eq_true] at h; exact g0 x y h.1
  have e5 := tot_range (fun x y => cA L x y && cA [r] x y)
  refine ⟨⟨fun h x y hc => ?_, fun h => ?_⟩, form_right hX2 hg, by rw [e1]; exact e5.1, by rw [e1]; exact e5.2⟩
  · have h8 := e4.1 (by omega) x y
    have h7 : (cA [r] x y && !cA L x y) = true := hc
    rw [h7] at h8
    cases h8
  · have h8 := e4.2 fun x y => by
      cases h7 : (cA [r] x y && !cA L x y) with
      | false => rfl
      | true => exact absurd h7 (h x y)
    omega
set_option maxHeartbeats 1000000 in
theorem rarea_yes3 (a b c d : Int) (h1 : rightB a b c d = true) (w : World) : Calls Try.prog 25 #[.agg #[.int .i64 a, .int .i64 b, .int .i64 c, .int .i64 d]] w fun e w' => e = .returned (.int .u64 ((c - a + 1) * (d - b + 1))) ∧ Below w.heap.size w w' := by
  obtain ⟨r1, r2, r3, r4, r5, r6⟩ := (rightB_iff a b c d).1 h1
  obtain ⟨m1, m2⟩ := mul_bd (c - a + 1) (d - b + 1) (by omega) (by omega) (by omega) (by omega)
  have m3 : (c - a + 1) * (d - b + 1) ≤ 18446744073709551615 := by omega
  go_enter Try.func25, Try.ntmps25
  go_wp2_with ((go_at_call 30; refine (ref_right _ _ _ _ _).mono ?_; rintro e w1 ⟨rfl, hb⟩; have hB : Below w.heap.size w w1 := below_trans (by go_grown) hb; have hz := hb.size; (try simp at hz); obtain ⟨hc, hf⟩ := bcell hb; have hz0 : w.heap.size < w1.heap.size := (by omega)))
  go_ret
  exact ⟨rfl, by go_grown⟩
set_option maxRecDepth 100000 in
set_option maxHeartbeats 8000000 in
theorem walkN (v : Value) (L : List Bx) (r : Bx) (w : World) (h : ERd elR w v L) :
    Calls Try.prog 8 #[v, .agg #[.int .i64 r.x0, .int .i64 r.y0, .int .i64 r.x1, .int .i64 r.y1]] w fun e w' => e = .returned (.bool true) ∧ Below w.heap.size w w' := by
  obtain ⟨A1, c1, rfl, -, -⟩ := h.shape
  have HL := Lib.hid h
  have HAL := Lib.hid (show Below w.heap.size w (w.alloc (.cells #[.int .i64 r.x0, .int .i64 r.y0, .int .i64 r.x1, .int .i64 r.y1] 39)) from (Below.refl _ _).alloc (Nat.le_refl _) _)
  have HPB := Lib.hid (Blk.new w 39 #[.int .i64 r.x0, .int .i64 r.y0, .int .i64 r.x1, .int .i64 r.y1])
  clear h
  obtain ⟨n, hn⟩ : ∃ n, n = L.length := ⟨_, rfl⟩
  rw [← hn] at HL ⊢
  have HN := Lib.hid hn; clear hn
  by_cases h1 : 12 < n
  · have h1b : (12 : Int) < (n : Int) := by omega
    clear h1
    go_enter Try.func8, Try.ntmps8
    go_wp2_with fail
    refine (known13_any _).mono ?_
    rintro e w1 ⟨rfl, hb⟩
    have HB := Lib.hid (below_trans HAL.out hb)
    go_wp2
    go_ret
    exact ⟨rfl, HB.out⟩
  · have h1b : ¬ (12 : Int) < (n : Int) := by omega
    have HNB := Lib.hid (show L.length ≤ 12 from by rw [← HN.out]; omega)
    have HCO := Lib.hid (covers_any _ _ L r (HL.out.below HAL.out) (by have := HNB.out; omega))
    have HWR := Lib.hid (fun X (hX : Below w.heap.size w X) => rwrong_any X _ L (HL.out.below hX) (by have := HNB.out; omega))
    have HCR := Lib.hid (fun X (hX : Below (w.alloc (.cells #[.int .i64 r.x0, .int .i64 r.y0, .int .i64 r.x1, .int .i64 r.y1] 39)).heap.size (w.alloc (.cells #[.int .i64 r.x0, .int .i64 r.y0, .int .i64 r.x1, .int .i64 r.y1] 39)) X) => (show X.cell? ⟨w.heap.size, 0, none⟩ = some (.int .i64 r.x0) ∧ X.cell? ⟨w.heap.size, 1, none⟩ = some (.int .i64 r.y0) ∧ X.cell? ⟨w.heap.size, 2, none⟩ = some (.int .i64 r.x1) ∧ X.cell? ⟨w.heap.size, 3, none⟩ = some (.int .i64 r.y1) from ⟨(HPB.out.thru0 hX).cell 0, (HPB.out.thru0 hX).cell 1, (HPB.out.thru0 hX).cell 2, (HPB.out.thru0 hX).cell 3⟩))
    have HWN := Lib.hid (show wrongN L = 0 ↔ L.length ≤ 256 ∧ rightA L from wrongN_zero)
    have HCH := Lib.hid (show chk2 [r] L = 0 ↔ wrongN L = 0 ∧ rightB r.x0 r.y0 r.x1 r.y1 = true from by
      rw [chk2_zero, wrongN_zero]
      constructor
      · rintro ⟨g1, g2, g3, g4⟩; exact ⟨⟨g2, g4⟩, (rightX_iff r).2 (g3 r (by simp))⟩
      · rintro ⟨⟨g2, g4⟩, g5⟩; exact ⟨by simp, g2, right_one ((rightX_iff r).1 g5), g4⟩)
    clear h1
    generalize wrongN L = x at *
    go_enter Try.func8, Try.ntmps8
    go_wp2_with fail
    refine HCO.out.mono ?_
    rintro e w1 ⟨ok, rfl, hb1, hok⟩
    have HD1 := Lib.hid hb1
    have HOK := Lib.hid hok
    clear hb1 hok HCO
    go_wp2_with fail
    refine (HWR.out w1 (below_trans HAL.out HD1.out)).mono ?_
    rintro e w2 ⟨rfl, hb2⟩
    have HD2 := Lib.hid (below_trans HD1.out hb2)
    obtain ⟨k0, k1, k2, k3⟩ := HCR.out w2 HD2.out
    clear hb2 HWR
    by_cases hx : x = 0
    · have hxb : (x != 0) = false := by simp [hx]
      have HX0 := Lib.hid hx
      clear hx
      go_wp2_with fail
      refine (right_any _ _ _ _ _).mono ?_
      rintro e w3 ⟨rfl, hb3⟩
      have HD3 := Lib.hid (below_trans HD2.out hb3)
      clear hb3 k0 k1 k2 k3
      obtain ⟨k0, k1, k2, k3⟩ := HCR.out w3 HD3.out
      cases hr : rightB r.x0 r.y0 r.x1 r.y1 with
      | false =>
        have hokf : ok = false := by
          cases hk : ok with
          | false => rfl
          | true =>
            have h9 := (HCH.out.1 (HOK.out.1 hk).1).2
            rw [hr] at h9
            cases h9
        subst hokf
        clear hr
        go_wp2_with fail
        refine (known13_any _).mono ?_
        rintro e w5 ⟨rfl, hb5⟩
        have HB5 := Lib.hid (below_trans HAL.out (below_trans HD3.out hb5))
        go_wp2
        go_ret
        exact ⟨rfl, HB5.out⟩
      | true =>
        have HRT := Lib.hid hr
        have HRR := Lib.hid ((rightX_iff r).1 hr)
        have HLA := Lib.hid (HWN.out.1 HX0.out).2
        have HOK2 := Lib.hid (show ok = true ↔ ∀ x y, ¬ Cts (fun p q : Bool => p && !q) [r] L x y from ⟨fun h9 => (HOK.out.1 h9).2, fun h9 => HOK.out.2 ⟨HCH.out.2 ⟨HX0.out, HRT.out⟩, h9⟩⟩)
        have HA3 := Lib.hid (show Below w3.heap.size w3 (w3.alloc (.cells #[.int .i64 r.x0, .int .i64 r.y0, .int .i64 r.x1, .int .i64 r.y1] 39)) from (Below.refl _ _).alloc (Nat.le_refl _) _)
        have HDA := Lib.hid (below_trans HD3.out HA3.out)
        have HFO := Lib.hid (rform_any _ _ (.slice (some ⟨w3.heap.size, 0, none⟩) 1 1) L [r] 2 (HL.out.below (below_trans HAL.out HDA.out)) (show ERd elR (w3.alloc (.cells #[.int .i64 r.x0, .int .i64 r.y0, .int .i64 r.x1, .int .i64 r.y1] 39)) (.slice (some ⟨w3.heap.size, 0, none⟩) 1 1) [r] from row_new w3 _ [r] rfl (by simp) rfl) (by have := HNB.out; simp; omega) HLA.out (right_one HRR.out))
        clear hr HOK HCH HWN HX0
        go_wp2_with fail
        refine HFO.out.mono ?_
        rintro e w4 ⟨v4, X, rfl, hf4, hfo4, hlx⟩
        have HD4 := Lib.hid (below_trans HDA.out hf4.bel)
        have HRX := Lib.hid (hf4.read elR_ok)
        have HHE := Lib.hid (heart HLA.out HRR.out hfo4)
        have HLX := Lib.hid hlx
        clear hf4 hfo4 hlx HFO k0 k1 k2 k3
        obtain ⟨A4, c4, rfl, -, -⟩ := HRX.out.shape
        obtain ⟨m, hm⟩ : ∃ m, m = X.length := ⟨_, rfl⟩
        rw [← hm] at HRX ⊢
        have HM := Lib.hid hm; clear hm
        have HMB := Lib.hid (show m ≤ 1000000 from by rw [HM.out]; exact HLX.out)
        go_wp2_with fail
        go_loopw [6, 8] (fun s i wr => ∃ (j : Nat), j ≤ m ∧ s = .int .u64 (areaL (X.take j)) ∧ i = .int .i64 j ∧ Hid (Below w4.heap.size w4 wr)) (fun _ i _ => m - (intOf i).toNat)
        case atStart => exact ⟨0, Nat.zero_le _, rfl, rfl, Lib.hid (Below.refl _ _)⟩
        case round =>
          rename World => wr
          obtain ⟨j, hj, rfl, rfl, HB⟩ := hrel
          by_cases hlt : j < m
          · have hji : (j : Int) < (m : Int) := by omega
            have hkl : j < X.length := by rw [← HM.out]; exact hlt
            have hx : X[j]? = some X[j] := List.getElem?_eq_getElem hkl
            have hrx := HHE.out.2.1 _ (List.getElem_mem hkl)
            have HTK := Lib.hid (areaL_take hkl)
            have hp1 := areaL_part (L := X) (fun r hr => ⟨(HHE.out.2.1 r hr).2.1, (HHE.out.2.1 r hr).2.2.2.2.1⟩) (j + 1)
            have hp0 := areaL_part (L := X) (fun r hr => ⟨(HHE.out.2.1 r hr).2.1, (HHE.out.2.1 r hr).2.2.2.2.1⟩) j
            have htr := HHE.out.2.2
            rw [areaL_take hkl] at hp1
            obtain ⟨g, o, rfl, hg, a0, a1, a2, a3⟩ := (HRX.out.below HB.out).rect hx
            generalize X[j] = q at *
            have HRB := Lib.hid ((rightX_iff q).2 hrx)
            unfold areaR at hp1
            generalize hAS : areaL (X.take j) = AS at *
            have hwr : IntKind.u64.wrap (AS + (q.x1 - q.x0 + 1) * (q.y1 - q.y0 + 1)) = AS + (q.x1 - q.x0 + 1) * (q.y1 - q.y0 + 1) := by
              have e : IntKind.u64.wrap (AS + (q.x1 - q.x0 + 1) * (q.y1 - q.y0 + 1)) = (AS + (q.x1 - q.x0 + 1) * (q.y1 - q.y0 + 1)) % 18446744073709551616 := rfl
              rw [e]
              omega
            have hkw : wrap64 ((j : Int) + 1) = (j : Int) + 1 := wrap_nat1 (Nat.le_trans hj HMB.out)
            have HHW := Lib.hid hwr
            clear hx hg hrx hp1 hp0 htr hAS hkl
            go_wp2_with fail
            refine (rarea_yes3 _ _ _ _ HRB.out _).mono ?_
            rintro e w5 ⟨rfl, hb⟩
            have HB2 := Lib.hid (below_trans HB.out hb)
            clear hb a0 a1 a2 a3
            generalize hM : (q.x1 - q.x0 + 1) * (q.y1 - q.y0 + 1) = M at *
            go_wp2_with fail
            go_roundw
            case rel => exact ⟨j + 1, by omega, by rw [HTK.out]; unfold areaR; rw [hM], by go_num, HB2⟩
            case measure => exact meas_lt hlt hkw
          · obtain rfl : j = m := by omega
            have HE := Lib.hid (show areaL (X.take j) = areaL X from by rw [List.take_of_length_le (by rw [← HM.out]; omega)])
            rw [HE.out]
            have HD5 := Lib.hid (below_trans HD4.out HB.out)
            obtain ⟨k0, k1, k2, k3⟩ := HCR.out wr HD5.out
            have HEQ := Lib.hid (show (ok == (areaL X == (r.x1 - r.x0 + 1) * (r.y1 - r.y0 + 1))) = true from by
              have h9 := HOK2.out.trans HHE.out.1.symm
              unfold areaR at h9
              cases hk : ok with
              | true => rw [hk] at h9; simp [h9.1 rfl]
              | false =>
                rw [hk] at h9
                have h8 : ¬ areaL X = (r.x1 - r.x0 + 1) * (r.y1 - r.y0 + 1) := fun h7 => by have := h9.2 h7; cases this
                simp [h8])
            clear hlt
            go_wp2_with fail
            refine (rarea_yes3 _ _ _ _ HRT.out _).mono ?_
            rintro e w6 ⟨rfl, hb6⟩
            have HD6 := Lib.hid (below_trans HD5.out hb6)
            clear hb6 k0 k1 k2 k3
            have heq := HEQ.out
            obtain ⟨k0, k1, k2, k3⟩ := HCR.out w6 HD6.out
            have HA6 := Lib.hid (show Below w6.heap.size w6 (w6.alloc (.cells #[.int .i64 r.x0, .int .i64 r.y0, .int .i64 r.x1, .int .i64 r.y1] 39)) from (Below.refl _ _).alloc (Nat.le_refl _) _)
            have HD7 := Lib.hid (below_trans HD6.out HA6.out)
            obtain ⟨z0, z1, z2, z3⟩ := HCR.out _ HD7.out
            have HC2 := Lib.hid (covers_any _ (.slice (some ⟨w6.heap.size, 0, none⟩) 1 1) [r] r (show ERd elR (w6.alloc (.cells #[.int .i64 r.x0, .int .i64 r.y0, .int .i64 r.x1, .int .i64 r.y1] 39)) (.slice (some ⟨w6.heap.size, 0, none⟩) 1 1) [r] from row_new w6 _ [r] rfl (by simp) rfl) (by simp))
            have HSF := Lib.hid (show chk2 [r] [r] = 0 ∧ ∀ x y, ¬ Cts (fun p q : Bool => p && !q) [r] [r] x y from ⟨chk2_zero.2 ⟨by simp, by simp, right_one HRR.out, right_one HRR.out⟩, fun x y => by unfold Cts; simp⟩)
            go_wp2_with fail
            refine HC2.out.mono ?_
            rintro e w8 ⟨ok2, rfl, hb8, hok8⟩
            have h8 : ok2 = true := hok8.2 HSF.out
            subst h8
            have HD8 := Lib.hid (below_trans HD7.out hb8)
            clear hb8 hok8 k0 k1 k2 k3 z0 z1 z2 z3
            go_wp2_with fail
            refine (known13_any _).mono ?_
            rintro e w9 ⟨rfl, hb9⟩
            have HB9 := Lib.hid (below_trans HAL.out (below_trans HD8.out hb9))
            go_wp2
            go_ret
            exact ⟨rfl, HB9.out⟩
    · have hxb : (x != 0) = true := by simpa using hx
      have hokf : ok = false := by
        cases hk : ok with
        | false => rfl
        | true => exact absurd (HCH.out.1 (HOK.out.1 hk).1).1 hx
      subst hokf
      clear hx
      go_wp2_with fail
      refine (known13_any _).mono ?_
      rintro e w5 ⟨rfl, hb5⟩
      have HB5 := Lib.hid (below_trans HAL.out (below_trans HD2.out hb5))
      go_wp2
      go_ret
      exact ⟨rfl, HB5.out⟩
theorem walk (a : Option Addr) (n c : Nat) (x0 y0 x1 y1 : Int) (w : World) (h : IsSl w 4 okBx a n c) (hx0 : -9223372036854775808 ≤ x0 ∧ x0 ≤ 9223372036854775807) (hy0 : -9223372036854775808 ≤ y0 ∧ y0 ≤ 9223372036854775807) (hx1 : -9223372036854775808 ≤ x1 ∧ x1 ≤ 9223372036854775807) (hy1 : -9223372036854775808 ≤ y1 ∧ y1 ≤ 9223372036854775807) :
    Calls Try.prog 8 #[.slice a n c, .agg #[.int .i64 x0, .int .i64 y0, .int .i64 x1, .int .i64 y1]] w fun e w' => e = .returned (.bool true) ∧ Below w.heap.size w w' := by
  obtain ⟨L, h1, -⟩ := bxs_of h
  exact walkN _ L ⟨x0, y0, x1, y1⟩ w h1
theorem own : ownKnob Try.prog.godebug = none := by kernel_rfl
theorem laidOut : laidOutB Try.prog = true := by kernel_rfl
set_option maxRecDepth 100000 in
theorem lifted (os : Os) (started : os.Started) (H : Type) (enc : TypeId × Value → H) :
    ReturnsInHanded {} Try.checked os 8 .any (Rows.regionCoversSpec.pre6 enc Try.prog Try.f8 Rows.regionCoversRow.domain false) (Rows.regionCoversSpec.post enc Try.prog Try.f8 false true false false) := by
  refine returnsInHanded_of_change_sized (C := Try.checked) own started (by kernel_rfl) Try.func8
    (ChangeSpec.witness6 (enc := enc) (C := Try.checked) false ⟨#[], #[.slice none 0 0, .agg #[.int .i64 0, .int .i64 0, .int .i64 0, .int .i64 0]], []⟩ 8 (by kernel_rfl) (by kernel_rfl) (by kernel_rfl) (by kernel_rfl)) ?_
  intro W base args ds gs before hval0 hW hcnd hsz0 _
  have hval : ∀ (j : Nat) t v, Try.f8.params[j]? = some t → args[j]? = some v → Value.okWide Try.prog W .any base t v := hval0
  have hW' := hW
  obtain ⟨p, q, hA0, hV, rfl, hfz, hnd⟩ := hW
  have hA : DataW.TrodAll enc Try.prog W 0 (fun _ => true) true Try.f8.params.toList args.toList ds p := hA0
  rw [Try.params8] at hA hval
  obtain ⟨v0, vs0, d0, ds0, p0, q0, hargs, rfl, rfl, h0, r0⟩ := trodAll_cons hA
  obtain ⟨v1, vs1, d1, ds1, p1, q1, rfl, rfl, rfl, h1, r1⟩ := trodAll_cons r0
  obtain ⟨rfl, rfl, rfl⟩ := trodAll_nil r1
  obtain rfl : args = #[v0, v1] := by cases args; simp_all
  obtain ⟨rfl, rfl⟩ := trodVars_none hV
  have k0 := h0
  have lt0 : ∀ x ∈ p0, x.block < W.heap.size := by obtain ⟨m, hm⟩ := k0; exact DataW.trod_lt m _ _ _ hm
  obtain ⟨a0, len0, cap0, rfl⟩ := okWide_slice Try.underlying22 (hval 0 22 v0 rfl rfl)
  have w0 : IsSl W 4 (okBxW W) a0 len0 cap0 := by
    obtain ⟨fuel, hf⟩ := h0
    exact isSl_of Try.underlying22 (by kernel_rfl) okBxP hf (fun n hn => of_decide_eq_true (List.all_eq_true.1 hsz0 n (DataW.weights_mem_each (j := 0) (t := 22) (d := d0) rfl rfl n hn)))
  have k1 := h1
  have lt1 : ∀ x ∈ p1, x.block < W.heap.size := by obtain ⟨m, hm⟩ := k1; exact DataW.trod_lt m _ _ _ hm
  obtain ⟨c1_0, c1_1, c1_2, c1_3, y1_0, y1_1, y1_2, y1_3, m1, rfl, rfl, rfl, hy1_0, hy1_1, hy1_2, hy1_3⟩ := Joins.open_agg4 Try.underlying39 (by kernel_rfl) (by kernel_rfl) (hval 1 39 v1 rfl rfl) h1
  obtain ⟨a1_0, e1_0, rfl, w1_0⟩ := DataW.trod_int Try.underlying3 hy1_0
  simp only [List.cons.injEq, and_true] at e1_0
  subst e1_0
  obtain ⟨a1_1, e1_1, rfl, w1_1⟩ := DataW.trod_int Try.underlying3 hy1_1
  simp only [List.cons.injEq, and_true] at e1_1
  subst e1_1
  obtain ⟨a1_2, e1_2, rfl, w1_2⟩ := DataW.trod_int Try.underlying3 hy1_2
  simp only [List.cons.injEq, and_true] at e1_2
  subst e1_2
  obtain ⟨a1_3, e1_3, rfl, w1_3⟩ := DataW.trod_int Try.underlying3 hy1_3
  simp only [List.cons.injEq, and_true] at e1_3
  subst e1_3
  clear hA0 hval0
  refine (walk a0 len0 cap0 a1_0 a1_1 a1_2 a1_3 W w0 (bounds_i64 w1_0) (bounds_i64 w1_1) (bounds_i64 w1_2) (bounds_i64 w1_3)).mono fun e W' ⟨he, bel⟩ => ?_
  subst he
  exact ⟨_, rfl, _, _, _, [], _, [], hW', trodAll_mk1 (shut_bool Try.underlying4 _), (trodAll_cons_mk (Below.trod laidOut (by kernel_rfl) (of_decide_eq_true (by kernel_rfl)) k0 bel lt0) (trodAll_cons_mk (Below.trod laidOut (by kernel_rfl) (of_decide_eq_true (by kernel_rfl)) k1 bel lt1) trodAll_mk0)), rfl, bel.frame _, fun h => by cases h⟩
theorem over : Rows.regionCoversRow.holds Try.pinned (OpenSpec.ofChange Rows.regionCoversSpec) :=
  OpenClaim.holds_of_wide 8 Try.f8 rfl rfl rfl rfl rfl rfl rfl ⟨rfl, rfl, rfl, rfl, rfl⟩ rfl rfl rfl rfl rfl (by kernel_rfl) Try.func8 (by kernel_rfl)
    (of_decide_eq_true (by kernel_rfl)) (by unfold Func.isWrapper; first | (rw [if_pos (by decide +kernel)]; kernel_rfl) | (rw [if_neg (by decide +kernel)]; exact ⟨rfl, rfl⟩))
    (fun os started H enc _ => lifted os started H enc)
/-- The statement. -/
theorem proved : Rows.RegionCoversSaid := over
#print axioms proved
end Go.Proofs.Ytimfcgnnfgoaaaa.regionCovers
