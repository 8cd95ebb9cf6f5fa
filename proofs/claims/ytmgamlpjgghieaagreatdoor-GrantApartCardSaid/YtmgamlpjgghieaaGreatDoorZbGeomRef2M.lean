/- Texts: GeomRef2, GrantApartWalk. -/
import Derived.Test.YtmgamlpjgghieaaGreatDoorZbGeomRef
import Derived.Test.YtmgamlpjgghieaaGreatDoorZbHzLM
import Derived.Test.YtmgamlpjgghieaaGreatDoorZbHzHM
namespace Go.Proofs.YtmgamlpjgghieaaGreatDoor
section
set_option linter.unusedVariables false
set_option linter.unusedSimpArgs false
open Go.RowKit
set_option maxHeartbeats 1000000 in
theorem rmeet_no1 (a b c d a1 b1 c1 d1 : Int) (h1 : rightB a b c d = false) (w : World) :
    Calls Tryz.prog 23 #[.agg #[.int .i64 a, .int .i64 b, .int .i64 c, .int .i64 d], .agg #[.int .i64 a1, .int .i64 b1, .int .i64 c1, .int .i64 d1]] w fun e w' => e = .returned (.tuple #[.agg #[.int .i64 0, .int .i64 0, .int .i64 0, .int .i64 0], .bool false]) ∧ Below w.heap.size w w' := by
  go_enter Tryz.func23, Tryz.ntmps23
  go_wp2_with (fail)
  go_region_held3 (fun w' => (w'.cell? ⟨w.heap.size, 0, none⟩ = some (.int .i64 a)) ∧ (w'.cell? ⟨w.heap.size, 1, none⟩ = some (.int .i64 b)) ∧ (w'.cell? ⟨w.heap.size, 2, none⟩ = some (.int .i64 c)) ∧ (w'.cell? ⟨w.heap.size, 3, none⟩ = some (.int .i64 d)) ∧ (w'.cell? ⟨w.heap.size + 1, 0, none⟩ = some (.int .i64 a1)) ∧ (w'.cell? ⟨w.heap.size + 1, 1, none⟩ = some (.int .i64 b1)) ∧ (w'.cell? ⟨w.heap.size + 1, 2, none⟩ = some (.int .i64 c1)) ∧ (w'.cell? ⟨w.heap.size + 1, 3, none⟩ = some (.int .i64 d1))) (go_keep) (first | (go_at_call 47; refine (ref_more _ _ _).mono ?_; rintro e w9 ⟨rfl, rfl⟩) | (go_at_call 48; refine (ref_less _ _ _).mono ?_; rintro e w9 ⟨rfl, rfl⟩))
  all_goals
    go_wp2_with ((go_at_call 22; refine (ref_right _ _ _ _ _).mono ?_; rintro e w1 ⟨rfl, hb⟩; have hB : Below w.heap.size w w1 := below_trans (by go_grown) hb; have hz := hb.size; (try simp at hz); obtain ⟨hc, hf⟩ := bcell hb; have hz0 : w.heap.size < w1.heap.size := (by omega); have hz1 : w.heap.size + 1 < w1.heap.size := (by omega); have hz2 : w.heap.size + 2 < w1.heap.size := (by omega); have hz3 : w.heap.size + 3 < w1.heap.size := (by omega)))
    refine bodyPost_ret (v := .tuple #[.agg #[.int .i64 0, .int .i64 0, .int .i64 0, .int .i64 0], .bool false]) ?_ rfl ⟨rfl, ?_⟩
    · simp [results, Tryz.results23, go_sem, *]
    · go_grown
set_option maxHeartbeats 1000000 in
theorem rmeet_no2 (a b c d a1 b1 c1 d1 : Int) (h1 : rightB a b c d = true) (h2 : rightB a1 b1 c1 d1 = false) (w : World) :
    Calls Tryz.prog 23 #[.agg #[.int .i64 a, .int .i64 b, .int .i64 c, .int .i64 d], .agg #[.int .i64 a1, .int .i64 b1, .int .i64 c1, .int .i64 d1]] w fun e w' => e = .returned (.tuple #[.agg #[.int .i64 0, .int .i64 0, .int .i64 0, .int .i64 0], .bool false]) ∧ Below w.heap.size w w' := by
  go_enter Tryz.func23, Tryz.ntmps23
  go_wp2_with (fail)
  go_region_held3 (fun w' => (w'.cell? ⟨w.heap.size, 0, none⟩ = some (.int .i64 a)) ∧ (w'.cell? ⟨w.heap.size, 1, none⟩ = some (.int .i64 b)) ∧ (w'.cell? ⟨w.heap.size, 2, none⟩ = some (.int .i64 c)) ∧ (w'.cell? ⟨w.heap.size, 3, none⟩ = some (.int .i64 d)) ∧ (w'.cell? ⟨w.heap.size + 1, 0, none⟩ = some (.int .i64 a1)) ∧ (w'.cell? ⟨w.heap.size + 1, 1, none⟩ = some (.int .i64 b1)) ∧ (w'.cell? ⟨w.heap.size + 1, 2, none⟩ = some (.int .i64 c1)) ∧ (w'.cell? ⟨w.heap.size + 1, 3, none⟩ = some (.int .i64 d1))) (go_keep) (first | (go_at_call 47; refine (ref_more _ _ _).mono ?_; rintro e w9 ⟨rfl, rfl⟩) | (go_at_call 48; refine (ref_less _ _ _).mono ?_; rintro e w9 ⟨rfl, rfl⟩))
  all_goals
    go_wp2_with ((go_at_call 22; refine (ref_right _ _ _ _ _).mono ?_; rintro e w1 ⟨rfl, hb⟩; have hB : Below w.heap.size w w1 := below_trans (by go_grown) hb; have hz := hb.size; (try simp at hz); obtain ⟨hc, hf⟩ := bcell hb; have hz0 : w.heap.size < w1.heap.size := (by omega); have hz1 : w.heap.size + 1 < w1.heap.size := (by omega); have hz2 : w.heap.size + 2 < w1.heap.size := (by omega); have hz3 : w.heap.size + 3 < w1.heap.size := (by omega)))
    refine bodyPost_ret (v := .tuple #[.agg #[.int .i64 0, .int .i64 0, .int .i64 0, .int .i64 0], .bool false]) ?_ rfl ⟨rfl, ?_⟩
    · simp [results, Tryz.results23, go_sem, *]
    · go_grown
set_option maxHeartbeats 1000000 in
theorem rmeet_no3 (a b c d a1 b1 c1 d1 : Int) (h1 : rightB a b c d = true) (h2 : rightB a1 b1 c1 d1 = true) (h3 : rightB (max a a1) (max b b1) (min c c1) (min d d1) = false) (w : World) :
    Calls Tryz.prog 23 #[.agg #[.int .i64 a, .int .i64 b, .int .i64 c, .int .i64 d], .agg #[.int .i64 a1, .int .i64 b1, .int .i64 c1, .int .i64 d1]] w fun e w' => e = .returned (.tuple #[.agg #[.int .i64 0, .int .i64 0, .int .i64 0, .int .i64 0], .bool false]) ∧ Below w.heap.size w w' := by
  go_enter Tryz.func23, Tryz.ntmps23
  go_wp2_with (fail)
  go_region_held3 (fun w' => (w'.cell? ⟨w.heap.size, 0, none⟩ = some (.int .i64 a)) ∧ (w'.cell? ⟨w.heap.size, 1, none⟩ = some (.int .i64 b)) ∧ (w'.cell? ⟨w.heap.size, 2, none⟩ = some (.int .i64 c)) ∧ (w'.cell? ⟨w.heap.size, 3, none⟩ = some (.int .i64 d)) ∧ (w'.cell? ⟨w.heap.size + 1, 0, none⟩ = some (.int .i64 a1)) ∧ (w'.cell? ⟨w.heap.size + 1, 1, none⟩ = some (.int .i64 b1)) ∧ (w'.cell? ⟨w.heap.size + 1, 2, none⟩ = some (.int .i64 c1)) ∧ (w'.cell? ⟨w.heap.size + 1, 3, none⟩ = some (.int .i64 d1))) (go_keep) (first | (go_at_call 47; refine (ref_more _ _ _).mono ?_; rintro e w9 ⟨rfl, rfl⟩) | (go_at_call 48; refine (ref_less _ _ _).mono ?_; rintro e w9 ⟨rfl, rfl⟩))
  all_goals
    go_wp2_with ((go_at_call 22; refine (ref_right _ _ _ _ _).mono ?_; rintro e w1 ⟨rfl, hb⟩; have hB : Below w.heap.size w w1 := below_trans (by go_grown) hb; have hz := hb.size; (try simp at hz); obtain ⟨hc, hf⟩ := bcell hb; have hz0 : w.heap.size < w1.heap.size := (by omega); have hz1 : w.heap.size + 1 < w1.heap.size := (by omega); have hz2 : w.heap.size + 2 < w1.heap.size := (by omega); have hz3 : w.heap.size + 3 < w1.heap.size := (by omega)))
    refine bodyPost_ret (v := .tuple #[.agg #[.int .i64 0, .int .i64 0, .int .i64 0, .int .i64 0], .bool false]) ?_ rfl ⟨rfl, ?_⟩
    · simp [results, Tryz.results23, go_sem, *]
    · go_grown
end
section
set_option linter.unusedVariables false
set_option linter.unusedSimpArgs false
open Go.RowKit Go.Maps
theorem wf_I64 {n : Int} (h : (Lit.int .i64 n).wf = true) : I64 n := by
  have e1 : IntKind.i64.min = -9223372036854775808 := by kernel_rfl
  have e2 : IntKind.i64.max = 9223372036854775807 := by kernel_rfl
  simp only [Lit.wf, Bool.and_eq_true, decide_eq_true_eq] at h
  unfold I64
  omega
theorem apart_meet {p q : Pa} (hp : bxR (paBx0 p) = true) (hq : bxR (paBx0 q) = true) (h : ∀ x y, hasP q x y → ¬ hasP p x y) : rightB (max p.x0 q.x0) (max p.y0 q.y0) (min p.x1 q.x1) (min p.y1 q.y1) = false := by
  have h1 := bx_right hp
  have h2 := bx_right hq
  simp only [paBx0] at h1 h2
  rw [← Bool.not_eq_true, rightB_iff]
  intro h3
  exact h (max p.x0 q.x0) (max p.y0 q.y0) ⟨by omega, by omega, by omega, by omega⟩ ⟨by omega, by omega, by omega, by omega⟩
theorem bxN_filt (acc : List (Rc × RV)) (ro ti la : Int) : (edM ((acc.filter fun a => forB a.1 ro ti la).map (·.1))).length ≤ 2 * bxN acc := by
  induction acc with
  | nil => simp [edM, bxN]
  | cons a acc ih =>
    have e : bxN (a :: acc) = a.1.bx.length + bxN acc := by unfold bxN; simp
    rw [List.filter_cons, e]
    split
    · rw [List.map_cons]
      have e2 : ∀ (r : Rc) (M : List Rc), edM (r :: M) = edL r.k r.zoom r.bx ++ edM M := fun r M => rfl
      rw [e2, List.length_append, edL_len]
      omega
    · omega
theorem bxN_map {l m : List (Rc × RV)} (h : l.map (·.1) = m.map (·.1)) : bxN l = bxN m := by
  unfold bxN
  have e : ∀ l : List (Rc × RV), (l.map fun a => a.1.bx.length) = (l.map (·.1)).map fun r => r.bx.length := fun l => by rw [List.map_map]; rfl
  rw [e, e, h]
set_option maxRecDepth 100000 in
set_option maxHeartbeats 16000000 in
theorem grantApart_walk (w : World) (v : Value) (acc : List (Rc × RV)) (ro ti la : Int) (h : RRd w v acc) (hby : ∀ x ∈ acc, x.1.bx.length * elR.by_ ≤ 140737488355328) (i1 : I64 ro) (i2 : I64 ti) (i3 : I64 la) (hT : TzOk w) :
    Calls Tryz.prog 5 #[v, .agg #[.int .i64 ro, .int .i64 ti, .int .i64 la]] w fun e w' => e = .returned (.bool true) ∧ Below w.heap.size w w' := by
  obtain ⟨A1, c1, rfl, -, -, -⟩ := id h.1
  have HA := Lib.hid (show Below w.heap.size w (w.alloc (.cells #[.int .i64 ro, .int .i64 ti, .int .i64 la] 24)) from (Below.refl _ _).alloc (Nat.le_refl _) _)
  have H1 := Lib.hid (Blk.new w 24 #[.int .i64 ro, .int .i64 ti, .int .i64 la])
  have HR := Lib.hid (h.below HA.out)
  have HN := Lib.hid (new_any _ _ acc (h.below HA.out) hby)
  have HKN := Lib.hid (fun (W : World) (hb : Below w.heap.size w W) => known_any W (hT.below hb))
  have HT := Lib.hid (hT.below HA.out)
  have HBY := Lib.hid hby
  have HI := Lib.hid (And.intro i1 (And.intro i2 i3))
  clear h hby hT i1 i2 i3
  go_enter Tryz.func5, Tryz.ntmps5
  go_upto_region 1 with fail
  generalize (w.alloc (.cells #[.int .i64 ro, .int .i64 ti, .int .i64 la] 24)) = W0 at *
  obtain ⟨kb, hkb⟩ : ∃ kb, w.heap.size = kb := ⟨_, rfl⟩
  rw [hkb] at H1
  (try rw [hkb])
  clear hkb
  go_wp2_with fail
  refine HN.out.mono ?_
  intro e W1 hq
  unfold NewP at hq
  obtain ⟨hb, hq⟩ := hq
  have HB1 := Lib.hid (HA.out.trans (hb.mono HA.out.size))
  have HR1 := Lib.hid (HR.out.below hb)
  have HW1 := Lib.hid (Blk.thru0 H1.out hb)
  have HT1 := Lib.hid (HT.out.below hb)
  have HTB := Lib.hid HT.out.lt
  have HSZ := Lib.hid hb.size
  clear hb HN HR H1 HT
  split at hq
  · subst hq
    go_wp2_with fail
    refine (HKN.out _ HB1.out).mono ?_
    rintro e w9 ⟨rfl, hb9⟩
    have HB9 := Lib.hid (HB1.out.trans (hb9.mono HB1.out.size))
    clear hb9
    go_wp2_with fail
    go_ret
    exact ⟨rfl, HB9.out⟩
  · split at hq
    · rename_i h32 hra
      obtain ⟨t, m, rv, acc', rfl, hmap, hTA⟩ := hq
      have HTA := Lib.hid (hTA PNc)
      have HMP := Lib.hid hmap
      have H32 := Lib.hid (show acc'.length ≤ 32 from by have := congrArg List.length hmap; simp only [List.length_map] at this; omega)
      have HSM := Lib.hid (small_any W1 _ acc HR1.out HBY.out)
      clear hTA hmap h32 hra HR1 HBY
      go_wp2_with fail
      refine HSM.out.mono ?_
      rintro e W2 ⟨⟨b, rfl, hbs⟩, hb2⟩
      have HB2 := Lib.hid (HB1.out.trans (hb2.mono HB1.out.size))
      cases b
      · go_wp2_with fail
        refine (HKN.out _ HB2.out).mono ?_
        rintro e w9 ⟨rfl, hb9⟩
        have HB9 := Lib.hid (HB2.out.trans (hb9.mono HB2.out.size))
        clear hb9
        go_wp2_with fail
        go_ret
        exact ⟨rfl, HB9.out⟩
      · have HSB := Lib.hid (show bxN acc' ≤ 12 from by rw [bxN_map HMP.out]; exact (hbs rfl).1)
        have HTA2 := Lib.hid (HTA.out.below hb2)
        have HT2 := Lib.hid (HT1.out.below hb2)
        have HW2 := Lib.hid (Blk.thru0 HW1.out hb2)
        have HPC := Lib.hid (tpatches_any HTA2.out H32.out (by unfold maxLen; omega) (Nat.le_trans HSZ.out hb2.size) ro ti la HI.out.1 HI.out.2.1 HI.out.2.2 PNc_nil (PNc_len (filt_ok acc' ro ti la))
          (hpa_of (filt_ok acc' ro ti la) H32.out (by have := bxN_filt acc' ro ti la; have := HSB.out; omega) HT2.out HTB.out HTA2.out.lo))
        have HPO := Lib.hid (PNc_pat (filt_ok acc' ro ti la))
        have HPR := Lib.hid (fun p hp => HPO.out.right (filt_ok acc' ro ti la) (p := p) hp)
        clear hbs hb2 HTA HT1 HW1 HSM HTA2
        have q0 := HW2.out.cell 0
        have q1 := HW2.out.cell 1
        have q2 := HW2.out.cell 2
        simp only [List.getElem?_toArray, List.getElem?_cons_zero, List.getElem?_cons_succ] at q0 q1 q2
        go_wp2_with fail
        refine HPC.out.mono ?_
        rintro e W3 ⟨v3, n', H', rfl, -, hT3, hO3, -, hb3⟩
        have HB3 := Lib.hid (But.toBelow HB2.out hb3 (Nat.le_trans HA.out.size hT3.lo.2) HB2.out.size)
        have HAP := Lib.hid HPO.out.apart
        have HO := Lib.hid hO3
        obtain ⟨A3, c3, rfl, -, -⟩ := hO3.slice
        clear hT3 hO3 hb3 HPC HPO HT2 HW2 HB2 HB1 q0 q1 q2 HSB HSZ HTB HMP H32
        generalize PNc ((acc'.filter fun a => forB a.1 ro ti la).map (·.1)) = L at *
        obtain ⟨n, hn⟩ : ∃ n, n = L.length := ⟨_, rfl⟩
        rw [← hn] at HO
        have HN := Lib.hid hn
        (try rw [← hn])
        clear hn
        have HBE := Lib.hid (ERd.of_own elPa_ok HO.out)
        have hnb : (n : Int) ≤ 9223372036854775807 := by
          obtain ⟨_, _, h9, h8, h7⟩ := HO.out.slice
          simp only [Value.slice.injEq] at h9
          unfold maxLen at h7
          omega
        have HB0 := Lib.hid (Below.refl W3.heap.size W3)
        go_wp2_with fail
        go_loopw [8] (fun i wr => ∃ (j : Nat), j ≤ n ∧ i = .int .i64 j ∧ Hid (Below W3.heap.size W3 wr)) (fun i _ => n - (intOf i).toNat)
        case atStart => exact ⟨0, Nat.zero_le _, rfl, HB0⟩
        case round =>
          rename World => wr
          clear HB0
          obtain ⟨j, hj, rfl, HB⟩ := hrel
          by_cases hlt : j < n
          · have hji : (j : Int) < (n : Int) := by omega
            have hkl : j < L.length := by rw [← HN.out]; exact hlt
            have hx : L[j]? = some L[j] := List.getElem?_eq_getElem hkl
            have hpr := HPR.out _ (List.getElem_mem hkl)
            have HAJ := Lib.hid (fun (k : Nat) (hk : k < j) => (show ∀ x y, hasP (L[k]'(by omega)) x y → ¬ hasP L[j] x y from List.pairwise_iff_getElem.1 HAP.out k j (by omega) hkl hk))
            have HCJ := Lib.hid (fun V (hV : Below W3.heap.size W3 V) => (HBE.out.below hV).pa5 hx)
            generalize L[j] = p at *
            obtain ⟨p0, p1, p2, p3, p4⟩ := p
            clear hx
            obtain ⟨g, o, rfl, -⟩ := HCJ.out W3 (Below.refl _ _)
            have HCJ2 := Lib.hid (fun V (hV : Below W3.heap.size W3 V) => (show V.cell? ⟨g, o + j * 5, none⟩ = some (.int .i64 p0) ∧ V.cell? ⟨g, o + j * 5 + 1, none⟩ = some (.int .i64 p1) ∧ V.cell? ⟨g, o + j * 5 + 2, none⟩ = some (.int .i64 p2) ∧ V.cell? ⟨g, o + j * 5 + 3, none⟩ = some (.int .i64 p3) ∧ V.cell? ⟨g, o + j * 5 + 4, none⟩ = some (.int .i64 p4) from by
              obtain ⟨g', o', h9, -, h8⟩ := HCJ.out V hV
              cases h9
              exact h8))
            clear HCJ
            obtain ⟨a0, a1, a2, a3, a4⟩ := HCJ2.out wr HB.out
            have HRG := Lib.hid (ref_right p0 p1 p2 p3 wr)
            rw [show rightB p0 p1 p2 p3 = true from hpr.1] at HRG
            have z1 : ¬ p4 < 1 := by have := hpr.2.1; simp only at this; omega
            have z2 : ¬ 16 < p4 := by have := hpr.2.2; simp only at this; omega
            have HPJ := Lib.hid hpr.1
            clear hpr
            go_wp2_with fail
            refine HRG.out.mono ?_
            rintro e w4 ⟨rfl, hb4⟩
            have HB4 := Lib.hid (HB.out.trans (hb4.mono HB.out.size))
            clear hb4 HRG a0 a1 a2 a3 a4 HB
            obtain ⟨a0, a1, a2, a3, a4⟩ := HCJ2.out w4 HB4.out
            go_wp2_with fail
            clear a0 a1 a2 a3 a4
            go_loopw [9] (fun i wr => ∃ (k : Nat), k ≤ j ∧ i = .int .i64 k ∧ Hid (Below W3.heap.size W3 wr)) (fun i _ => j - (intOf i).toNat)
            case atStart => exact ⟨0, Nat.zero_le _, rfl, HB4⟩
            case round =>
              rename World => wx
              clear HB4
              obtain ⟨k, hk, rfl, HB⟩ := hrel
              by_cases hlk : k < j
              · have hki : (k : Int) < (j : Int) := by omega
                have hkn : (k : Int) < (n : Int) := by omega
                have hkk : k < L.length := by rw [← HN.out]; omega
                have hx : L[k]? = some L[k] := List.getElem?_eq_getElem hkk
                have hqr := (HPR.out _ (List.getElem_mem hkk)).1
                have haj := HAJ.out k hlk
                have HCK := Lib.hid (fun V (hV : Below W3.heap.size W3 V) => (HBE.out.below hV).pa5 hx)
                generalize L[k] = q at *
                obtain ⟨q0, q1, q2, q3, q4⟩ := q
                clear hx
                have HC := Lib.hid (fun V (hV : Below W3.heap.size W3 V) => (show (V.cell? ⟨g, o + j * 5, none⟩ = some (.int .i64 p0) ∧ V.cell? ⟨g, o + j * 5 + 1, none⟩ = some (.int .i64 p1) ∧ V.cell? ⟨g, o + j * 5 + 2, none⟩ = some (.int .i64 p2) ∧ V.cell? ⟨g, o + j * 5 + 3, none⟩ = some (.int .i64 p3)) ∧ V.cell? ⟨g, o + k * 5, none⟩ = some (.int .i64 q0) ∧ V.cell? ⟨g, o + k * 5 + 1, none⟩ = some (.int .i64 q1) ∧ V.cell? ⟨g, o + k * 5 + 2, none⟩ = some (.int .i64 q2) ∧ V.cell? ⟨g, o + k * 5 + 3, none⟩ = some (.int .i64 q3) from by
                  obtain ⟨g', o', h9, -, h8, h7, h6, h5, -⟩ := HCK.out V hV
                  cases h9
                  have h1 := HCJ2.out V hV
                  exact ⟨⟨h1.1, h1.2.1, h1.2.2.1, h1.2.2.2.1⟩, h8, h7, h6, h5⟩))
                clear HCK
                obtain ⟨⟨a0, a1, a2, a3⟩, b0, b1, b2, b3⟩ := HC.out wx HB.out
                have HMT := Lib.hid (fun V => rmeet_no3 p0 p1 p2 p3 q0 q1 q2 q3 HPJ.out hqr (apart_meet (p := ⟨p0, p1, p2, p3, p4⟩) (q := ⟨q0, q1, q2, q3, q4⟩) HPJ.out hqr haj) V)
                clear hqr haj
                go_upto_region 13 with fail
                clear a0 a1 a2 a3 b0 b1 b2 b3
                go_region_held3 (fun w' => (w'.cell? ⟨g, o + j * 5, none⟩ = some (.int .i64 p0) ∧ w'.cell? ⟨g, o + j * 5 + 1, none⟩ = some (.int .i64 p1) ∧ w'.cell? ⟨g, o + j * 5 + 2, none⟩ = some (.int .i64 p2) ∧ w'.cell? ⟨g, o + j * 5 + 3, none⟩ = some (.int .i64 p3)) ∧ w'.cell? ⟨g, o + k * 5, none⟩ = some (.int .i64 q0) ∧ w'.cell? ⟨g, o + k * 5 + 1, none⟩ = some (.int .i64 q1) ∧ w'.cell? ⟨g, o + k * 5 + 2, none⟩ = some (.int .i64 q2) ∧ w'.cell? ⟨g, o + k * 5 + 3, none⟩ = some (.int .i64 q3))
                  (first | exact HC.out _ ((((HB8.out.setCell (p := ⟨wx.heap.size, 0, none⟩) HB.out.size _).setCell (p := ⟨wx.heap.size, 1, none⟩) HB.out.size _).setCell (p := ⟨wx.heap.size, 2, none⟩) HB.out.size _).setCell (p := ⟨wx.heap.size, 3, none⟩) HB.out.size _) | exact HC.out _ HB8.out | exact HC.out _ HB8.out.drew | exact HC.out _ (HB8.out.alloc HB8.out.size _) | exact HC.out _ HB.out | exact HC.out _ HB.out.drew | exact HC.out _ (HB.out.alloc HB.out.size _) | exact HC.out _ (HB.out.drew.alloc HB.out.size _))
                  (first | (go_at_call 23; (with_reducible refine Calls.mono (HMT.out _) ?_); rintro e w8 ⟨rfl, hb8⟩; have HB8 : Hid (Below W3.heap.size W3 w8) := Lib.hid (by first | exact HB.out.trans (hb8.mono HB.out.size) | exact HB.out.drew.trans (hb8.mono HB.out.size) | exact (HB.out.alloc HB.out.size _).trans (hb8.mono (HB.out.alloc HB.out.size _).size) | exact (HB.out.drew.alloc HB.out.size _).trans (hb8.mono (HB.out.drew.alloc HB.out.size _).size)); obtain ⟨hc8, hf8⟩ := bcell hb8; have hz8 := hb8.size; (try simp at hz8); (first | (have hz9 : wx.heap.size < w8.heap.size := (by omega)) | skip); clear hb8))
                all_goals
                  go_wp2_with fail
                  go_roundw
                  case rel => exact ⟨k + 1, by omega, by go_num, Lib.hid (by first | exact HB8.out.alloc HB8.out.size _ | exact (HB8.out.alloc HB8.out.size _).drew | exact ((((HB8.out.setCell (p := ⟨wx.heap.size, 0, none⟩) HB.out.size _).setCell (p := ⟨wx.heap.size, 1, none⟩) HB.out.size _).setCell (p := ⟨wx.heap.size, 2, none⟩) HB.out.size _).setCell (p := ⟨wx.heap.size, 3, none⟩) HB.out.size _))⟩
                  case measure => simp [intOf]; omega
              · obtain rfl : k = j := by omega
                go_wp2_with fail
                go_roundw
                case rel => exact ⟨k + 1, by omega, by go_num, HB⟩
                case measure => simp [intOf]; omega
          · obtain rfl : j = n := by omega
            have HKE := Lib.hid (HKN.out wr (HB3.out.trans (HB.out.mono HB3.out.size)))
            have HBF := Lib.hid (HB3.out.trans (HB.out.mono HB3.out.size))
            go_wp2_with fail
            refine HKE.out.mono ?_
            rintro e w9 ⟨rfl, hb9⟩
            have HB9 := Lib.hid (HBF.out.trans (hb9.mono HBF.out.size))
            clear hb9
            go_wp2_with fail
            go_ret
            exact ⟨rfl, HB9.out⟩
    · subst hq
      go_wp2_with fail
      refine (HKN.out _ HB1.out).mono ?_
      rintro e w9 ⟨rfl, hb9⟩
      have HB9 := Lib.hid (HB1.out.trans (hb9.mono HB1.out.size))
      clear hb9
      go_wp2_with fail
      go_ret
      exact ⟨rfl, HB9.out⟩
end
end Go.Proofs.YtmgamlpjgghieaaGreatDoor
