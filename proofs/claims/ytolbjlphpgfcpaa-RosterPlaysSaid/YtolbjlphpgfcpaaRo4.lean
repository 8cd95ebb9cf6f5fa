/- roster: change by contract; Profile, Quota, Spend. -/
import Derived.Test.YtolbjlphpgfcpaaRo3
namespace Go.Proofs.Ytolbjlphpgfcpaa
set_option linter.unusedVariables false
set_option linter.unusedSimpArgs false
open Go.RowKit
/-- What a change tells, and who is there behind it. -/
def chE (H : Int → Option Mb) (u : Int) (Ef : Mb → Int) : Int := if fiB H u = false then 21 else Ef (fiM H u)
def chH (H : Int → Option Mb) (u : Int) (Mf : Mb → Mb) (Ef : Mb → Int) : Int → Option Mb := if fiB H u = true ∧ Ef (fiM H u) = 0 ∧ u ≠ 0 then putH H u (Mf (fiM H u)) else H
def ChP (y : Nat) (o : Option Nat) (w : World) (n : Nat) (H : Int → Option Mb) (c : Nat) (u : Int) (Mf : Mb → Mb) (Ef : Mb → Int) (e : Ending) (w' : World) : Prop :=
  ∃ n', n' ≤ n + 1 ∧ e = .returned (.int .i64 (chE H u Ef)) ∧ RA y o w o n' (chH H u Mf Ef) c w'
theorem fi_wf {H : Int → Option Mb} (h : WFH H) {u : Int} (hb : fiB H u = true) : (fiM H u).user = u ∧ 0 ≤ (fiM H u).quota ∧ (fiM H u).quota ≤ 65535 := by
  unfold fiB at hb
  unfold fiM
  by_cases h0 : u = 0
  · rw [if_pos h0]; subst h0; decide
  · rw [if_neg h0] at hb ⊢
    cases hu : H u with
    | none => rw [hu] at hb; cases hb
    | some m => obtain ⟨h1, _, _, h4, h5⟩ := h u m hu; exact ⟨h1, h4, h5⟩
theorem put_wf {H : Int → Option Mb} (h : WFH H) {u : Int} {m : Mb} (hu : m.user = u) (h1 : 1 ≤ u) (h2 : u ≤ 65534) (h3 : 0 ≤ m.quota) (h4 : m.quota ≤ 65535) : WFH (putH H u m) := by
  intro j q hq
  unfold putH at hq
  by_cases hj : j = u
  · rw [if_pos hj] at hq; cases hq; subst hj; exact ⟨hu, h1, h2, h3, h4⟩
  · rw [if_neg hj] at hq; exact h j q hq
theorem RA.set_map {w w' : World} {y mp n c : Nat} {H : Int → Option Mb} {u : Int} {m : Mb} (h : RS w y (some mp) n H c) (hm : MapM w' mp (n + 1) (putH H u m) (if (H u).isSome then c else c + 1)) (hg : w.grownBy w' (some mp)) (hw : WFH (putH H u m)) : RA y (some mp) w (some mp) (n + 1) (putH H u m) (if (H u).isSome then c else c + 1) w' := by
  have hne : mp ≠ y := by
    rcases h.mp with ⟨h1, _⟩ | ⟨q, e, hq, _⟩
    · cases h1
    · cases e; exact hq
  exact ⟨⟨h.blk.grown hg (by simpa using fun e => hne e.symm), .inr ⟨mp, rfl, hne, hm⟩, hw⟩, ⟨hg.os, hg.tape, hg.output, hg.size, fun k hk h1 h2 => hg.block k hk (fun e => h2 e.symm)⟩, fun i hi => .inl hi⟩
theorem Blk.set6 {w : World} {g : Nat} {t : TypeId} {x0 x1 x2 x3 x4 x5 : Value} (h : Blk w g t #[x0, x1, x2, x3, x4, x5]) (v0 v1 v2 v3 v4 v5 : Value) : Blk ((((((w.setCell ⟨g, 0, none⟩ v0).setCell ⟨g, 1, none⟩ v1).setCell ⟨g, 2, none⟩ v2).setCell ⟨g, 3, none⟩ v3).setCell ⟨g, 4, none⟩ v4).setCell ⟨g, 5, none⟩ v5) g t #[v0, v1, v2, v3, v4, v5] := by
  have := (((((h.set_ 0 v0).set_ 1 v1).set_ 2 v2).set_ 3 v3).set_ 4 v4).set_ 5 v5
  simpa using this
theorem set6_below {B : Nat} {w0 w : World} {g : Nat} (h : Below B w0 w) (hg : B ≤ g) (v0 v1 v2 v3 v4 v5 : Value) : Below B w0 ((((((w.setCell ⟨g, 0, none⟩ v0).setCell ⟨g, 1, none⟩ v1).setCell ⟨g, 2, none⟩ v2).setCell ⟨g, 3, none⟩ v3).setCell ⟨g, 4, none⟩ v4).setCell ⟨g, 5, none⟩ v5) :=
  (((((h.setCell (p := ⟨g, 0, none⟩) hg v0).setCell (p := ⟨g, 1, none⟩) hg v1).setCell (p := ⟨g, 2, none⟩) hg v2).setCell (p := ⟨g, 3, none⟩) hg v3).setCell (p := ⟨g, 4, none⟩) hg v4).setCell (p := ⟨g, 5, none⟩) hg v5
theorem spend_keeps  (m : Mb) (h1 : 0 ≤ m.quota) (h2 : m.quota ≤ 65535) (h0 : (spE) m = 0) : ((spM) m).user = m.user ∧ 0 ≤ ((spM) m).quota ∧ ((spM) m).quota ≤ 65535 := by
  unfold spM spE at *
  split at h0
  · cases h0
  · rename_i h3
    rw [if_neg h3]
    exact ⟨rfl, (by simp only; omega), (by simp only; omega)⟩
set_option maxRecDepth 100000 in
set_option maxHeartbeats 8000000 in
theorem change_spend (w : World) (y n c : Nat) (o : Option Nat) (H : Int → Option Mb) (u : Int)  (h : RS w y o n H c) (hu : -9223372036854775808 ≤ u ∧ u ≤ 9223372036854775807) (hn : n ≤ 1000000) :
    Calls Try.prog 29 #[ptrA y, .int .i64 u, .func (.func 30) #[] #[]] w (ChP y o w n H c u (spM) (spE)) := by
  have HR := Lib.hid h
  have HU := Lib.hid hu
  have HW := Lib.hid (wf_i64 hu)
  have HFI := Lib.hid (rfind_any w y n c o H u h hu)
  skip
  cases hb : fiB H u with
  | false =>
    rw [hb] at HFI
    have e1 : chE H u (spE) = 21 := if_pos hb
    have e2 : chH H u (spM) (spE) = H := if_neg (by rw [hb]; simp)
    unfold ChP
    rw [e1, e2]
    clear h hu  e1 e2 hb
    generalize fiM H u = m at *
    obtain ⟨m0, m1, m2, m3, m4, m5⟩ := m
    simp only [Mb.V] at HFI
    go_enter Try.func29, Try.ntmps29
    go_wp2_with fail
    refine HFI.out.mono ?_
    rintro e w1 ⟨rfl, hb1⟩
    have HB1 := Lib.hid hb1
    clear hb1
    go_wp2
    go_ret
    exact ⟨n, Nat.le_succ n, rfl, RA.start HR.out (HB1.out.alloc HB1.out.size _)⟩
  | true =>
    rw [hb] at HFI
    have HQ := Lib.hid (fi_wf h.wf hb).2
    have HUS := Lib.hid (fi_wf h.wf hb).1
    have HB := Lib.hid hb
    obtain ⟨er, her⟩ : ∃ er, (spE) (fiM H u) = er := ⟨_, rfl⟩
    have HE := Lib.hid her
    obtain ⟨mm, hmm⟩ : ∃ mm, (spM) (fiM H u) = mm := ⟨_, rfl⟩
    have HM := Lib.hid hmm
    have HKE := Lib.hid (spend_keeps  (fiM H u) HQ.out.1 HQ.out.2)
    unfold ChP
    rw [show chE H u (spE) = er by rw [chE, hb, her]; rfl]
    rw [show chH H u (spM) (spE) = (if er = 0 ∧ u ≠ 0 then putH H u mm else H) by rw [chH, hb, her, hmm]; simp]
    obtain ⟨H', hH'⟩ : ∃ H', (if er = 0 ∧ u ≠ 0 then putH H u mm else H) = H' := ⟨_, rfl⟩
    rw [hH']
    have HH := Lib.hid hH'
    clear hH'
    clear h hu  her hmm hb
    generalize fiM H u = m at *
    obtain ⟨m0, m1, m2, m3, m4, m5⟩ := m
    simp only [Mb.V] at HFI HQ
    go_enter Try.func29, Try.ntmps29
    go_wp2_with fail
    refine HFI.out.mono ?_
    rintro e w1 ⟨rfl, hb1⟩
    have HB1 := Lib.hid hb1
    clear hb1 HFI
    go_upto_region 6 with fail
    have HT := Lib.hid (Blk.new w1 34 #[.int .i64 m0, .int .i64 m1, .int .i64 m2, .int .i64 m3, .int .i64 m4, .int .u64 m5])
    have HB2 := Lib.hid (show Below w.heap.size w (w1.alloc (.cells #[.int .i64 m0, .int .i64 m1, .int .i64 m2, .int .i64 m3, .int .i64 m4, .int .u64 m5] 34)) from HB1.out.alloc HB1.out.size _)
    have HZ := Lib.hid (show w.heap.size ≤ w1.heap.size from HB1.out.size)
    clear HB1
    generalize (w1.alloc (.cells #[.int .i64 m0, .int .i64 m1, .int .i64 m2, .int .i64 m3, .int .i64 m4, .int .u64 m5] 34)) = W2 at *
    generalize w1.heap.size = tb at *
    have t0 := HT.out.cell 0
    have t1 := HT.out.cell 1
    have t2 := HT.out.cell 2
    have t3 := HT.out.cell 3
    have t4 := HT.out.cell 4
    have t5 := HT.out.cell 5
    simp only [List.getElem?_toArray, List.getElem?_cons_zero, List.getElem?_cons_succ] at t0 t1 t2 t3 t4 t5
    have HCL := Lib.hid (spendc_any W2 ⟨m0, m1, m2, m3, m4, m5⟩ HQ.out.1 HQ.out.2)
    rw [HE.out, HM.out] at HCL
    obtain ⟨n0, n1, n2, n3, n4, n5⟩ := mm
    simp only [Mb.V] at HCL
    go_wp2_with fail
    refine HCL.out.mono ?_
    rintro e w3 ⟨rfl, hb3⟩
    have HB3 := Lib.hid (below_trans HB2.out hb3)
    have HT3 := Lib.hid (Blk.thru0 HT.out hb3)
    have HR3 := Lib.hid (HR.out.below HB3.out)
    clear hb3 t0 t1 t2 t3 t4 t5 HT HB2 HCL
    have t0 := HT3.out.cell 0
    have t1 := HT3.out.cell 1
    have t2 := HT3.out.cell 2
    have t3 := HT3.out.cell 3
    have t4 := HT3.out.cell 4
    have t5 := HT3.out.cell 5
    have f0 := HT3.out.frozen 0
    have f1 := HT3.out.frozen 1
    have f2 := HT3.out.frozen 2
    have f3 := HT3.out.frozen 3
    have f4 := HT3.out.frozen 4
    have f5 := HT3.out.frozen 5
    simp only [List.getElem?_toArray, List.getElem?_cons_zero, List.getElem?_cons_succ] at t0 t1 t2 t3 t4 t5
    have zt := HT3.out.lt
    have HT4 := Lib.hid (HT3.out.set6 (.int .i64 n0) (.int .i64 n1) (.int .i64 n2) (.int .i64 n3) (.int .i64 n4) (.int .u64 n5))
    have HB4 := Lib.hid (set6_below HB3.out HZ.out (.int .i64 n0) (.int .i64 n1) (.int .i64 n2) (.int .i64 n3) (.int .i64 n4) (.int .u64 n5))
    go_upto_region 7 with fail
    clear t0 t1 t2 t3 t4 t5 f0 f1 f2 f3 f4 f5 zt
    generalize ((((((w3.setCell ⟨tb, 0, none⟩ (.int .i64 n0)).setCell ⟨tb, 1, none⟩ (.int .i64 n1)).setCell ⟨tb, 2, none⟩ (.int .i64 n2)).setCell ⟨tb, 3, none⟩ (.int .i64 n3)).setCell ⟨tb, 4, none⟩ (.int .i64 n4)).setCell ⟨tb, 5, none⟩ (.int .u64 n5)) = W4 at *
    have HR4 := Lib.hid (HR.out.below HB4.out)
    by_cases h0 : er = 0
    · subst h0
      have HK := Lib.hid (HKE.out HE.out)
      rw [HM.out] at HK
      by_cases hu0 : u = 0
      · have hue : (u != 0) = false := by simpa using hu0
        have HEN := Lib.hid (show H = H' by have h9 := HH.out; rw [if_neg (by simp [hu0])] at h9; exact h9)
        clear hu0
        go_wp2
        go_ret
        exact ⟨n, Nat.le_succ n, rfl, by rw [← HEN.out]; exact RA.start HR.out HB4.out⟩
      · have hue : (u != 0) = true := by simpa using hu0
        have HEN := Lib.hid (show putH H u ⟨n0, n1, n2, n3, n4, n5⟩ = H' by have h9 := HH.out; rw [if_pos ⟨rfl, hu0⟩] at h9; exact h9)
        have HSO := Lib.hid (show (H u).isSome = true by have h9 := HB.out; rw [fiB, if_neg hu0] at h9; exact h9)
        clear hu0
        rcases HR4.out.mp with ⟨_, hH, _⟩ | ⟨mp, rfl, hne, hm⟩
        · exact absurd HSO.out (by rw [hH]; simp)
        · obtain ⟨w5, hst, hm5, hg5⟩ := hm.store u HW.out ⟨n0, n1, n2, n3, n4, n5⟩ (by unfold maxLen; omega)
          obtain ⟨w6, hst6, hm6, hg6⟩ := hm.drew.store u HW.out ⟨n0, n1, n2, n3, n4, n5⟩ (by unfold maxLen; omega)
          have HUB := Lib.hid (show 1 ≤ u ∧ u ≤ 65534 by
            obtain ⟨q, hq⟩ := Option.isSome_iff_exists.1 HSO.out
            have := HR.out.wf u q hq
            exact ⟨this.2.1, this.2.2.1⟩)
          have HWF := Lib.hid (put_wf HR.out.wf (u := u) (m := ⟨n0, n1, n2, n3, n4, n5⟩) (HK.out.1.trans HUS.out) HUB.out.1 HUB.out.2 HK.out.2.1 HK.out.2.2)
          have HA5 := Lib.hid (show RA y (some mp) W4 (some mp) (n + 1) (putH H u ⟨n0, n1, n2, n3, n4, n5⟩) c w5 by have h9 := RA.set_map HR4.out hm5 hg5 HWF.out; rw [if_pos HSO.out] at h9; exact h9)
          have HA6 := Lib.hid (show RA y (some mp) W4.drew (some mp) (n + 1) (putH H u ⟨n0, n1, n2, n3, n4, n5⟩) c w6 by have h9 := RA.set_map (HR4.out.below (below_drawn (Below.refl _ _) 1)) hm6 hg6 HWF.out; rw [if_pos HSO.out] at h9; exact h9)
          clear hm5 hg5 hm6 hg6 hm HR4
          simp only [Mb.V] at hst hst6
          have k0 : W4.cell? ⟨y, 0, none⟩ = some (.map (some mp)) := (Blk.thru0 HR.out.blk HB4.out).cell 0
          have hyz := (Blk.thru0 HR.out.blk HB4.out).lt
          have t0 := HT4.out.cell 0
          have t1 := HT4.out.cell 1
          have t2 := HT4.out.cell 2
          have t3 := HT4.out.cell 3
          have t4 := HT4.out.cell 4
          have t5 := HT4.out.cell 5
          simp only [List.getElem?_toArray, List.getElem?_cons_zero, List.getElem?_cons_succ] at t0 t1 t2 t3 t4 t5
          have zt := HT4.out.lt
          go_upto_region 8 with fail
          go_region
          all_goals
            clear t0 t1 t2 t3 t4 t5 k0 hst hst6
            go_wp2
            go_ret
            exact ⟨n + 1, Nat.le_refl _, rfl, by rw [← HEN.out]; first | exact (RA.start HR.out HB4.out).trans HA5.out | exact (RA.start HR.out (below_drawn HB4.out 1)).trans HA6.out | exact ((RA.start HR.out HB4.out).trans HA5.out).below (below_drawn (Below.refl _ _) 1)⟩
    · have hee : (er == 0) = false := by simpa using h0
      have HEN := Lib.hid (show H = H' by have h9 := HH.out; rw [if_neg (by simp [h0])] at h9; exact h9)
      clear h0
      go_wp2
      go_ret
      exact ⟨n, Nat.le_succ n, rfl, by rw [← HEN.out]; exact RA.start HR.out HB4.out⟩
theorem quota_keeps (q : Int) (m : Mb) (h1 : 0 ≤ m.quota) (h2 : m.quota ≤ 65535) (h0 : (quE q) m = 0) : ((quM q) m).user = m.user ∧ 0 ≤ ((quM q) m).quota ∧ ((quM q) m).quota ≤ 65535 := by
  unfold quM quE at *
  split at h0
  · cases h0
  · rename_i h3
    rw [if_neg h3]
    simp only [not_or, Bool.not_eq_false] at h3; have := h3.2; unfold wiB at this; simp only [Bool.and_eq_true, decide_eq_true_eq] at this; exact ⟨rfl, this.1, this.2⟩
set_option maxRecDepth 100000 in
set_option maxHeartbeats 8000000 in
theorem change_quota (w : World) (y n c : Nat) (o : Option Nat) (H : Int → Option Mb) (u : Int) (b : Nat) (q : Int) (hbx : Blk w b 3 #[.int .i64 q]) (h : RS w y o n H c) (hu : -9223372036854775808 ≤ u ∧ u ≤ 9223372036854775807) (hn : n ≤ 1000000) :
    Calls Try.prog 29 #[ptrA y, .int .i64 u, .func (.func 31) #[] #[ptrA b]] w (ChP y o w n H c u (quM q) (quE q)) := by
  have HR := Lib.hid h
  have HU := Lib.hid hu
  have HW := Lib.hid (wf_i64 hu)
  have HFI := Lib.hid (rfind_any w y n c o H u h hu)
  have HX := Lib.hid hbx
  cases hb : fiB H u with
  | false =>
    rw [hb] at HFI
    have e1 : chE H u (quE q) = 21 := if_pos hb
    have e2 : chH H u (quM q) (quE q) = H := if_neg (by rw [hb]; simp)
    unfold ChP
    rw [e1, e2]
    clear h hu hbx e1 e2 hb
    generalize fiM H u = m at *
    obtain ⟨m0, m1, m2, m3, m4, m5⟩ := m
    simp only [Mb.V] at HFI
    go_enter Try.func29, Try.ntmps29
    go_wp2_with fail
    refine HFI.out.mono ?_
    rintro e w1 ⟨rfl, hb1⟩
    have HB1 := Lib.hid hb1
    clear hb1
    go_wp2
    go_ret
    exact ⟨n, Nat.le_succ n, rfl, RA.start HR.out (HB1.out.alloc HB1.out.size _)⟩
  | true =>
    rw [hb] at HFI
    have HQ := Lib.hid (fi_wf h.wf hb).2
    have HUS := Lib.hid (fi_wf h.wf hb).1
    have HB := Lib.hid hb
    obtain ⟨er, her⟩ : ∃ er, (quE q) (fiM H u) = er := ⟨_, rfl⟩
    have HE := Lib.hid her
    obtain ⟨mm, hmm⟩ : ∃ mm, (quM q) (fiM H u) = mm := ⟨_, rfl⟩
    have HM := Lib.hid hmm
    have HKE := Lib.hid (quota_keeps q (fiM H u) HQ.out.1 HQ.out.2)
    unfold ChP
    rw [show chE H u (quE q) = er by rw [chE, hb, her]; rfl]
    rw [show chH H u (quM q) (quE q) = (if er = 0 ∧ u ≠ 0 then putH H u mm else H) by rw [chH, hb, her, hmm]; simp]
    obtain ⟨H', hH'⟩ : ∃ H', (if er = 0 ∧ u ≠ 0 then putH H u mm else H) = H' := ⟨_, rfl⟩
    rw [hH']
    have HH := Lib.hid hH'
    clear hH'
    clear h hu hbx her hmm hb
    generalize fiM H u = m at *
    obtain ⟨m0, m1, m2, m3, m4, m5⟩ := m
    simp only [Mb.V] at HFI HQ
    go_enter Try.func29, Try.ntmps29
    go_wp2_with fail
    refine HFI.out.mono ?_
    rintro e w1 ⟨rfl, hb1⟩
    have HB1 := Lib.hid hb1
    clear hb1 HFI
    go_upto_region 6 with fail
    have HT := Lib.hid (Blk.new w1 34 #[.int .i64 m0, .int .i64 m1, .int .i64 m2, .int .i64 m3, .int .i64 m4, .int .u64 m5])
    have HB2 := Lib.hid (show Below w.heap.size w (w1.alloc (.cells #[.int .i64 m0, .int .i64 m1, .int .i64 m2, .int .i64 m3, .int .i64 m4, .int .u64 m5] 34)) from HB1.out.alloc HB1.out.size _)
    have HZ := Lib.hid (show w.heap.size ≤ w1.heap.size from HB1.out.size)
    clear HB1
    generalize (w1.alloc (.cells #[.int .i64 m0, .int .i64 m1, .int .i64 m2, .int .i64 m3, .int .i64 m4, .int .u64 m5] 34)) = W2 at *
    generalize w1.heap.size = tb at *
    have t0 := HT.out.cell 0
    have t1 := HT.out.cell 1
    have t2 := HT.out.cell 2
    have t3 := HT.out.cell 3
    have t4 := HT.out.cell 4
    have t5 := HT.out.cell 5
    simp only [List.getElem?_toArray, List.getElem?_cons_zero, List.getElem?_cons_succ] at t0 t1 t2 t3 t4 t5
    have HCL := Lib.hid (quotac_any W2 b q ⟨m0, m1, m2, m3, m4, m5⟩ (Blk.thru0 HX.out HB2.out))
    rw [HE.out, HM.out] at HCL
    obtain ⟨n0, n1, n2, n3, n4, n5⟩ := mm
    simp only [Mb.V] at HCL
    go_wp2_with fail
    refine HCL.out.mono ?_
    rintro e w3 ⟨rfl, hb3⟩
    have HB3 := Lib.hid (below_trans HB2.out hb3)
    have HT3 := Lib.hid (Blk.thru0 HT.out hb3)
    have HR3 := Lib.hid (HR.out.below HB3.out)
    clear hb3 t0 t1 t2 t3 t4 t5 HT HB2 HCL
    have t0 := HT3.out.cell 0
    have t1 := HT3.out.cell 1
    have t2 := HT3.out.cell 2
    have t3 := HT3.out.cell 3
    have t4 := HT3.out.cell 4
    have t5 := HT3.out.cell 5
    have f0 := HT3.out.frozen 0
    have f1 := HT3.out.frozen 1
    have f2 := HT3.out.frozen 2
    have f3 := HT3.out.frozen 3
    have f4 := HT3.out.frozen 4
    have f5 := HT3.out.frozen 5
    simp only [List.getElem?_toArray, List.getElem?_cons_zero, List.getElem?_cons_succ] at t0 t1 t2 t3 t4 t5
    have zt := HT3.out.lt
    have HT4 := Lib.hid (HT3.out.set6 (.int .i64 n0) (.int .i64 n1) (.int .i64 n2) (.int .i64 n3) (.int .i64 n4) (.int .u64 n5))
    have HB4 := Lib.hid (set6_below HB3.out HZ.out (.int .i64 n0) (.int .i64 n1) (.int .i64 n2) (.int .i64 n3) (.int .i64 n4) (.int .u64 n5))
    go_upto_region 7 with fail
    clear t0 t1 t2 t3 t4 t5 f0 f1 f2 f3 f4 f5 zt
    generalize ((((((w3.setCell ⟨tb, 0, none⟩ (.int .i64 n0)).setCell ⟨tb, 1, none⟩ (.int .i64 n1)).setCell ⟨tb, 2, none⟩ (.int .i64 n2)).setCell ⟨tb, 3, none⟩ (.int .i64 n3)).setCell ⟨tb, 4, none⟩ (.int .i64 n4)).setCell ⟨tb, 5, none⟩ (.int .u64 n5)) = W4 at *
    have HR4 := Lib.hid (HR.out.below HB4.out)
    by_cases h0 : er = 0
    · subst h0
      have HK := Lib.hid (HKE.out HE.out)
      rw [HM.out] at HK
      by_cases hu0 : u = 0
      · have hue : (u != 0) = false := by simpa using hu0
        have HEN := Lib.hid (show H = H' by have h9 := HH.out; rw [if_neg (by simp [hu0])] at h9; exact h9)
        clear hu0
        go_wp2
        go_ret
        exact ⟨n, Nat.le_succ n, rfl, by rw [← HEN.out]; exact RA.start HR.out HB4.out⟩
      · have hue : (u != 0) = true := by simpa using hu0
        have HEN := Lib.hid (show putH H u ⟨n0, n1, n2, n3, n4, n5⟩ = H' by have h9 := HH.out; rw [if_pos ⟨rfl, hu0⟩] at h9; exact h9)
        have HSO := Lib.hid (show (H u).isSome = true by have h9 := HB.out; rw [fiB, if_neg hu0] at h9; exact h9)
        clear hu0
        rcases HR4.out.mp with ⟨_, hH, _⟩ | ⟨mp, rfl, hne, hm⟩
        · exact absurd HSO.out (by rw [hH]; simp)
        · obtain ⟨w5, hst, hm5, hg5⟩ := hm.store u HW.out ⟨n0, n1, n2, n3, n4, n5⟩ (by unfold maxLen; omega)
          obtain ⟨w6, hst6, hm6, hg6⟩ := hm.drew.store u HW.out ⟨n0, n1, n2, n3, n4, n5⟩ (by unfold maxLen; omega)
          have HUB := Lib.hid (show 1 ≤ u ∧ u ≤ 65534 by
            obtain ⟨q, hq⟩ := Option.isSome_iff_exists.1 HSO.out
            have := HR.out.wf u q hq
            exact ⟨this.2.1, this.2.2.1⟩)
          have HWF := Lib.hid (put_wf HR.out.wf (u := u) (m := ⟨n0, n1, n2, n3, n4, n5⟩) (HK.out.1.trans HUS.out) HUB.out.1 HUB.out.2 HK.out.2.1 HK.out.2.2)
          have HA5 := Lib.hid (show RA y (some mp) W4 (some mp) (n + 1) (putH H u ⟨n0, n1, n2, n3, n4, n5⟩) c w5 by have h9 := RA.set_map HR4.out hm5 hg5 HWF.out; rw [if_pos HSO.out] at h9; exact h9)
          have HA6 := Lib.hid (show RA y (some mp) W4.drew (some mp) (n + 1) (putH H u ⟨n0, n1, n2, n3, n4, n5⟩) c w6 by have h9 := RA.set_map (HR4.out.below (below_drawn (Below.refl _ _) 1)) hm6 hg6 HWF.out; rw [if_pos HSO.out] at h9; exact h9)
          clear hm5 hg5 hm6 hg6 hm HR4
          simp only [Mb.V] at hst hst6
          have k0 : W4.cell? ⟨y, 0, none⟩ = some (.map (some mp)) := (Blk.thru0 HR.out.blk HB4.out).cell 0
          have hyz := (Blk.thru0 HR.out.blk HB4.out).lt
          have t0 := HT4.out.cell 0
          have t1 := HT4.out.cell 1
          have t2 := HT4.out.cell 2
          have t3 := HT4.out.cell 3
          have t4 := HT4.out.cell 4
          have t5 := HT4.out.cell 5
          simp only [List.getElem?_toArray, List.getElem?_cons_zero, List.getElem?_cons_succ] at t0 t1 t2 t3 t4 t5
          have zt := HT4.out.lt
          go_upto_region 8 with fail
          go_region
          all_goals
            clear t0 t1 t2 t3 t4 t5 k0 hst hst6
            go_wp2
            go_ret
            exact ⟨n + 1, Nat.le_refl _, rfl, by rw [← HEN.out]; first | exact (RA.start HR.out HB4.out).trans HA5.out | exact (RA.start HR.out (below_drawn HB4.out 1)).trans HA6.out | exact ((RA.start HR.out HB4.out).trans HA5.out).below (below_drawn (Below.refl _ _) 1)⟩
    · have hee : (er == 0) = false := by simpa using h0
      have HEN := Lib.hid (show H = H' by have h9 := HH.out; rw [if_neg (by simp [h0])] at h9; exact h9)
      clear h0
      go_wp2
      go_ret
      exact ⟨n, Nat.le_succ n, rfl, by rw [← HEN.out]; exact RA.start HR.out HB4.out⟩
theorem profile_keeps (k : Int) (a : Nat) (m : Mb) (h1 : 0 ≤ m.quota) (h2 : m.quota ≤ 65535) (h0 : (prE k) m = 0) : ((prM k a) m).user = m.user ∧ 0 ≤ ((prM k a) m).quota ∧ ((prM k a) m).quota ≤ 65535 := by
  unfold prM prE at *
  split at h0
  · cases h0
  · rename_i h3
    rw [if_neg h3]
    exact ⟨rfl, h1, h2⟩
set_option maxRecDepth 100000 in
set_option maxHeartbeats 8000000 in
theorem change_profile (w : World) (y n c : Nat) (o : Option Nat) (H : Int → Option Mb) (u : Int) (b : Nat) (k : Int) (a : Nat) (hbx : Blk w b 32 #[.int .i64 k, .int .u64 a]) (h : RS w y o n H c) (hu : -9223372036854775808 ≤ u ∧ u ≤ 9223372036854775807) (hn : n ≤ 1000000) :
    Calls Try.prog 29 #[ptrA y, .int .i64 u, .func (.func 32) #[] #[ptrA b]] w (ChP y o w n H c u (prM k a) (prE k)) := by
  have HR := Lib.hid h
  have HU := Lib.hid hu
  have HW := Lib.hid (wf_i64 hu)
  have HFI := Lib.hid (rfind_any w y n c o H u h hu)
  have HX := Lib.hid hbx
  cases hb : fiB H u with
  | false =>
    rw [hb] at HFI
    have e1 : chE H u (prE k) = 21 := if_pos hb
    have e2 : chH H u (prM k a) (prE k) = H := if_neg (by rw [hb]; simp)
    unfold ChP
    rw [e1, e2]
    clear h hu hbx e1 e2 hb
    generalize fiM H u = m at *
    obtain ⟨m0, m1, m2, m3, m4, m5⟩ := m
    simp only [Mb.V] at HFI
    go_enter Try.func29, Try.ntmps29
    go_wp2_with fail
    refine HFI.out.mono ?_
    rintro e w1 ⟨rfl, hb1⟩
    have HB1 := Lib.hid hb1
    clear hb1
    go_wp2
    go_ret
    exact ⟨n, Nat.le_succ n, rfl, RA.start HR.out (HB1.out.alloc HB1.out.size _)⟩
  | true =>
    rw [hb] at HFI
    have HQ := Lib.hid (fi_wf h.wf hb).2
    have HUS := Lib.hid (fi_wf h.wf hb).1
    have HB := Lib.hid hb
    obtain ⟨er, her⟩ : ∃ er, (prE k) (fiM H u) = er := ⟨_, rfl⟩
    have HE := Lib.hid her
    obtain ⟨mm, hmm⟩ : ∃ mm, (prM k a) (fiM H u) = mm := ⟨_, rfl⟩
    have HM := Lib.hid hmm
    have HKE := Lib.hid (profile_keeps k a (fiM H u) HQ.out.1 HQ.out.2)
    unfold ChP
    rw [show chE H u (prE k) = er by rw [chE, hb, her]; rfl]
    rw [show chH H u (prM k a) (prE k) = (if er = 0 ∧ u ≠ 0 then putH H u mm else H) by rw [chH, hb, her, hmm]; simp]
    obtain ⟨H', hH'⟩ : ∃ H', (if er = 0 ∧ u ≠ 0 then putH H u mm else H) = H' := ⟨_, rfl⟩
    rw [hH']
    have HH := Lib.hid hH'
    clear hH'
    clear h hu hbx her hmm hb
    generalize fiM H u = m at *
    obtain ⟨m0, m1, m2, m3, m4, m5⟩ := m
    simp only [Mb.V] at HFI HQ
    go_enter Try.func29, Try.ntmps29
    go_wp2_with fail
    refine HFI.out.mono ?_
    rintro e w1 ⟨rfl, hb1⟩
    have HB1 := Lib.hid hb1
    clear hb1 HFI
    go_upto_region 6 with fail
    have HT := Lib.hid (Blk.new w1 34 #[.int .i64 m0, .int .i64 m1, .int .i64 m2, .int .i64 m3, .int .i64 m4, .int .u64 m5])
    have HB2 := Lib.hid (show Below w.heap.size w (w1.alloc (.cells #[.int .i64 m0, .int .i64 m1, .int .i64 m2, .int .i64 m3, .int .i64 m4, .int .u64 m5] 34)) from HB1.out.alloc HB1.out.size _)
    have HZ := Lib.hid (show w.heap.size ≤ w1.heap.size from HB1.out.size)
    clear HB1
    generalize (w1.alloc (.cells #[.int .i64 m0, .int .i64 m1, .int .i64 m2, .int .i64 m3, .int .i64 m4, .int .u64 m5] 34)) = W2 at *
    generalize w1.heap.size = tb at *
    have t0 := HT.out.cell 0
    have t1 := HT.out.cell 1
    have t2 := HT.out.cell 2
    have t3 := HT.out.cell 3
    have t4 := HT.out.cell 4
    have t5 := HT.out.cell 5
    simp only [List.getElem?_toArray, List.getElem?_cons_zero, List.getElem?_cons_succ] at t0 t1 t2 t3 t4 t5
    have HCL := Lib.hid (profilec_any W2 b k a ⟨m0, m1, m2, m3, m4, m5⟩ (Blk.thru0 HX.out HB2.out))
    rw [HE.out, HM.out] at HCL
    obtain ⟨n0, n1, n2, n3, n4, n5⟩ := mm
    simp only [Mb.V] at HCL
    go_wp2_with fail
    refine HCL.out.mono ?_
    rintro e w3 ⟨rfl, hb3⟩
    have HB3 := Lib.hid (below_trans HB2.out hb3)
    have HT3 := Lib.hid (Blk.thru0 HT.out hb3)
    have HR3 := Lib.hid (HR.out.below HB3.out)
    clear hb3 t0 t1 t2 t3 t4 t5 HT HB2 HCL
    have t0 := HT3.out.cell 0
    have t1 := HT3.out.cell 1
    have t2 := HT3.out.cell 2
    have t3 := HT3.out.cell 3
    have t4 := HT3.out.cell 4
    have t5 := HT3.out.cell 5
    have f0 := HT3.out.frozen 0
    have f1 := HT3.out.frozen 1
    have f2 := HT3.out.frozen 2
    have f3 := HT3.out.frozen 3
    have f4 := HT3.out.frozen 4
    have f5 := HT3.out.frozen 5
    simp only [List.getElem?_toArray, List.getElem?_cons_zero, List.getElem?_cons_succ] at t0 t1 t2 t3 t4 t5
    have zt := HT3.out.lt
    have HT4 := Lib.hid (HT3.out.set6 (.int .i64 n0) (.int .i64 n1) (.int .i64 n2) (.int .i64 n3) (.int .i64 n4) (.int .u64 n5))
    have HB4 := Lib.hid (set6_below HB3.out HZ.out (.int .i64 n0) (.int .i64 n1) (.int .i64 n2) (.int .i64 n3) (.int .i64 n4) (.int .u64 n5))
    go_upto_region 7 with fail
    clear t0 t1 t2 t3 t4 t5 f0 f1 f2 f3 f4 f5 zt
    generalize ((((((w3.setCell ⟨tb, 0, none⟩ (.int .i64 n0)).setCell ⟨tb, 1, none⟩ (.int .i64 n1)).setCell ⟨tb, 2, none⟩ (.int .i64 n2)).setCell ⟨tb, 3, none⟩ (.int .i64 n3)).setCell ⟨tb, 4, none⟩ (.int .i64 n4)).setCell ⟨tb, 5, none⟩ (.int .u64 n5)) = W4 at *
    have HR4 := Lib.hid (HR.out.below HB4.out)
    by_cases h0 : er = 0
    · subst h0
      have HK := Lib.hid (HKE.out HE.out)
      rw [HM.out] at HK
      by_cases hu0 : u = 0
      · have hue : (u != 0) = false := by simpa using hu0
        have HEN := Lib.hid (show H = H' by have h9 := HH.out; rw [if_neg (by simp [hu0])] at h9; exact h9)
        clear hu0
        go_wp2
        go_ret
        exact ⟨n, Nat.le_succ n, rfl, by rw [← HEN.out]; exact RA.start HR.out HB4.out⟩
      · have hue : (u != 0) = true := by simpa using hu0
        have HEN := Lib.hid (show putH H u ⟨n0, n1, n2, n3, n4, n5⟩ = H' by have h9 := HH.out; rw [if_pos ⟨rfl, hu0⟩] at h9; exact h9)
        have HSO := Lib.hid (show (H u).isSome = true by have h9 := HB.out; rw [fiB, if_neg hu0] at h9; exact h9)
        clear hu0
        rcases HR4.out.mp with ⟨_, hH, _⟩ | ⟨mp, rfl, hne, hm⟩
        · exact absurd HSO.out (by rw [hH]; simp)
        · obtain ⟨w5, hst, hm5, hg5⟩ := hm.store u HW.out ⟨n0, n1, n2, n3, n4, n5⟩ (by unfold maxLen; omega)
          obtain ⟨w6, hst6, hm6, hg6⟩ := hm.drew.store u HW.out ⟨n0, n1, n2, n3, n4, n5⟩ (by unfold maxLen; omega)
          have HUB := Lib.hid (show 1 ≤ u ∧ u ≤ 65534 by
            obtain ⟨q, hq⟩ := Option.isSome_iff_exists.1 HSO.out
            have := HR.out.wf u q hq
            exact ⟨this.2.1, this.2.2.1⟩)
          have HWF := Lib.hid (put_wf HR.out.wf (u := u) (m := ⟨n0, n1, n2, n3, n4, n5⟩) (HK.out.1.trans HUS.out) HUB.out.1 HUB.out.2 HK.out.2.1 HK.out.2.2)
          have HA5 := Lib.hid (show RA y (some mp) W4 (some mp) (n + 1) (putH H u ⟨n0, n1, n2, n3, n4, n5⟩) c w5 by have h9 := RA.set_map HR4.out hm5 hg5 HWF.out; rw [if_pos HSO.out] at h9; exact h9)
          have HA6 := Lib.hid (show RA y (some mp) W4.drew (some mp) (n + 1) (putH H u ⟨n0, n1, n2, n3, n4, n5⟩) c w6 by have h9 := RA.set_map (HR4.out.below (below_drawn (Below.refl _ _) 1)) hm6 hg6 HWF.out; rw [if_pos HSO.out] at h9; exact h9)
          clear hm5 hg5 hm6 hg6 hm HR4
          simp only [Mb.V] at hst hst6
          have k0 : W4.cell? ⟨y, 0, none⟩ = some (.map (some mp)) := (Blk.thru0 HR.out.blk HB4.out).cell 0
          have hyz := (Blk.thru0 HR.out.blk HB4.out).lt
          have t0 := HT4.out.cell 0
          have t1 := HT4.out.cell 1
          have t2 := HT4.out.cell 2
          have t3 := HT4.out.cell 3
          have t4 := HT4.out.cell 4
          have t5 := HT4.out.cell 5
          simp only [List.getElem?_toArray, List.getElem?_cons_zero, List.getElem?_cons_succ] at t0 t1 t2 t3 t4 t5
          have zt := HT4.out.lt
          go_upto_region 8 with fail
          go_region
          all_goals
            clear t0 t1 t2 t3 t4 t5 k0 hst hst6
            go_wp2
            go_ret
            exact ⟨n + 1, Nat.le_refl _, rfl, by rw [← HEN.out]; first | exact (RA.start HR.out HB4.out).trans HA5.out | exact (RA.start HR.out (below_drawn HB4.out 1)).trans HA6.out | exact ((RA.start HR.out HB4.out).trans HA5.out).below (below_drawn (Below.refl _ _) 1)⟩
    · have hee : (er == 0) = false := by simpa using h0
      have HEN := Lib.hid (show H = H' by have h9 := HH.out; rw [if_neg (by simp [h0])] at h9; exact h9)
      clear h0
      go_wp2
      go_ret
      exact ⟨n, Nat.le_succ n, rfl, by rw [← HEN.out]; exact RA.start HR.out HB4.out⟩
end Go.Proofs.Ytolbjlphpgfcpaa
