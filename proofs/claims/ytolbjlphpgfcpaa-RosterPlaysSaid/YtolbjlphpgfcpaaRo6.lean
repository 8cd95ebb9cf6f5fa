/- roster: Enrol by contract. -/
import Derived.Test.YtolbjlphpgfcpaaRo5
namespace Go.Proofs.Ytolbjlphpgfcpaa
set_option linter.unusedVariables false
set_option linter.unusedSimpArgs false
open Go.RowKit
/-- What Enrol tells, and who is there behind it. -/
def enE (H : Int → Option Mb) (m : Mb) : Int := if rightM m = false then 1 else if (H m.user).isSome = true then 20 else 0
def enH (H : Int → Option Mb) (m : Mb) : Int → Option Mb := if enE H m = 0 then putH H m.user m else H
def enC (H : Int → Option Mb) (m : Mb) (c : Nat) : Nat := if enE H m = 0 then c + 1 else c
def EnP (y : Nat) (o : Option Nat) (w : World) (n : Nat) (H : Int → Option Mb) (c : Nat) (m : Mb) (e : Ending) (w' : World) : Prop := ∃ o' n', n' ≤ n + 1 ∧ e = .returned (.int .i64 (enE H m)) ∧ RA y o w o' n' (enH H m) (enC H m c) w'
theorem rright_lit (m : Mb) (r : Bool) (h : rightM m = r) : Hid (∀ w, Calls Try.prog 19 #[m.V] w fun e w' => e = .returned (.bool r) ∧ Below w.heap.size w w') := by
  intro w
  rw [← h]
  exact rright_any m w
/-- A map is made where there was none. -/
theorem RA.make {w : World} {y n c : Nat} {H : Int → Option Mb} (h : RS w y none n H c) : RA y none w (some w.heap.size) 0 (fun _ => none) 0 ((w.setCell ⟨y, 0, none⟩ (.map (some w.heap.size))).alloc (.map #[] 0)) := by
  have hy := h.blk.lt
  have hB := ((Below.refl 0 w).setCell (p := ⟨y, 0, none⟩) (Nat.zero_le _) (.map (some w.heap.size))).alloc (Nat.zero_le _) (.map #[] 0)
  have hm := MapM.made (w.setCell ⟨y, 0, none⟩ (.map (some w.heap.size)))
  rw [World.size_setCell] at hm
  refine ⟨⟨(h.blk.set1 _).alloc _, .inr ⟨_, rfl, by omega, hm⟩, fun u m hq => by cases hq⟩, ⟨hB.os, hB.tape, hB.output, hB.size, fun k hk h1 _ => ?_⟩, fun i hi => by cases hi; exact .inr (Nat.le_refl _)⟩
  rw [Below.heap_alloc _ _ k (by simpa using hk), Below.heap_setCell w ⟨y, 0, none⟩ _ k (by simpa using h1)]
set_option maxRecDepth 100000 in
set_option maxHeartbeats 8000000 in
theorem enrol_any (w : World) (y n c : Nat) (o : Option Nat) (H : Int → Option Mb) (m : Mb) (h : RS w y o n H c) (hu : -9223372036854775808 ≤ m.user ∧ m.user ≤ 9223372036854775807) (hn : n ≤ 1000000) :
    Calls Try.prog 17 #[ptrA y, m.V] w (EnP y o w n H c m) := by
  have HR := Lib.hid h
  have HW := Lib.hid (wf_i64 hu)
  clear h hu
  unfold EnP
  cases hr : rightM m with
  | false =>
    have HE := Lib.hid (show enE H m = 1 from if_pos hr)
    have HRI := rright_lit m false hr
    clear hr
    obtain ⟨m0, m1, m2, m3, m4, m5⟩ := m
    simp only [Mb.V] at HRI
    go_enter Try.func17, Try.ntmps17
    go_wp2_with fail
    refine (HRI.out _).mono ?_
    rintro e w2 ⟨rfl, hb⟩
    have HB := Lib.hid (below_trans (show Below w.heap.size w (w.alloc (.cells #[.int .i64 m0, .int .i64 m1, .int .i64 m2, .int .i64 m3, .int .i64 m4, .int .u64 m5] 34)) by go_grown) hb)
    clear hb
    go_wp2
    go_ret
    exact ⟨o, n, Nat.le_succ n, by rw [HE.out]; rfl, by rw [enH, enC, HE.out]; exact RA.start HR.out HB.out⟩
  | true =>
    have HRI := rright_lit m true hr
    have HRT := Lib.hid ((rightM_iff m).1 hr)
    have HRR := Lib.hid hr
    clear hr
    obtain ⟨m0, m1, m2, m3, m4, m5⟩ := m
    simp only [Mb.V] at HRI HW
    go_enter Try.func17, Try.ntmps17
    go_wp2_with fail
    refine (HRI.out _).mono ?_
    rintro e w2 ⟨rfl, hb⟩
    have HX := Lib.hid (Blk.thru0 (Blk.new w 34 #[.int .i64 m0, .int .i64 m1, .int .i64 m2, .int .i64 m3, .int .i64 m4, .int .u64 m5]) hb)
    have HB := Lib.hid (below_trans (show Below w.heap.size w (w.alloc (.cells #[.int .i64 m0, .int .i64 m1, .int .i64 m2, .int .i64 m3, .int .i64 m4, .int .u64 m5] 34)) by go_grown) hb)
    clear hb HRI
    have HR2 := Lib.hid (HR.out.below HB.out)
    obtain ⟨xb, hxb⟩ : ∃ xb, w.heap.size = xb := ⟨_, rfl⟩
    rw [hxb] at HX ⊢
    clear hxb
    have x0 := HX.out.cell 0
    simp only [List.getElem?_toArray, List.getElem?_cons_zero, List.getElem?_cons_succ] at x0
    have zx := HX.out.lt
    have t0 : w2.cell? ⟨y, 0, none⟩ = some (.map o) := HR2.out.blk.cell 0
    have hy := HR2.out.blk.lt
    rcases HR2.out.mp with ⟨rfl, rfl, rfl⟩ | ⟨mp, rfl, hne, hm⟩
    · have hl := fun w => look_none w m0 HW.out
      simp only [Mb.V, Mb.zero] at hl
      go_upto_region 5 with fail
      go_region
      all_goals
        have hal : Below w2.heap.size w2 ((w2.alloc (.cells #[.int .i64 0, .int .i64 0, .int .i64 0, .int .i64 0, .int .i64 0, .int .u64 0] 34)).drewN 1) := below_drawn ((Below.refl _ _).alloc (Nat.le_refl _) _) 1
        have HB3 := Lib.hid (below_trans HB.out hal)
        have HR3 := Lib.hid (HR2.out.below hal)
        have HX3 := Lib.hid (Blk.thru0 HX.out hal)
        have he3 : (w2.alloc (.cells #[.int .i64 0, .int .i64 0, .int .i64 0, .int .i64 0, .int .i64 0, .int .u64 0] 34)).drew = (w2.alloc (.cells #[.int .i64 0, .int .i64 0, .int .i64 0, .int .i64 0, .int .i64 0, .int .u64 0] 34)).drewN 1 := rfl
        rw [he3]
        clear he3 hal hl x0 zx t0 hy
        generalize ((w2.alloc (.cells #[.int .i64 0, .int .i64 0, .int .i64 0, .int .i64 0, .int .i64 0, .int .u64 0] 34)).drewN 1) = W3 at *
        have HE := Lib.hid (show enE (fun _ => none) ⟨m0, m1, m2, m3, m4, m5⟩ = 0 by rw [enE, HRR.out]; rfl)
        have qT : ∀ (w : World) (r : Option Nat), (binOp .eql 51 (Value.map r) (Value.map none)).run Try.prog w = .ok (.bool r.isNone) w := fun w r => run_eql_map_nil w _ _ _ r Try.underlying51
        have hmm := @run_makeMap Try.prog
        have k0 : W3.cell? ⟨y, 0, none⟩ = some (.map none) := HR3.out.blk.cell 0
        have fk0 := HR3.out.blk.frozen 0
        have hyz := HR3.out.blk.lt
        have ka : (W3.alloc (.map #[] 0)).cell? ⟨y, 0, none⟩ = some (.map none) := (HR3.out.blk.alloc _).cell 0
        have fa : (W3.alloc (.map #[] 0)).frozen? ⟨y, 0, none⟩ = false := (HR3.out.blk.alloc _).frozen 0
        go_upto_region 10 with fail
        have HS4 := Lib.hid ((RA.start HR.out HB3.out).trans (RA.make HR3.out))
        have HXY := Lib.hid (show xb ≠ y from fun e => by have h1 := HX3.out; have h2 := HR3.out.blk; rw [e] at h1; unfold Blk at h1 h2; rw [h1] at h2; simp at h2)
        have HX4 := Lib.hid (show Blk ((W3.setCell ⟨y, 0, none⟩ (.map (some W3.heap.size))).alloc (.map #[] 0)) xb 34 #[.int .i64 m0, .int .i64 m1, .int .i64 m2, .int .i64 m3, .int .i64 m4, .int .u64 m5] from (HX3.out.far1 HXY.out _).alloc _)
        have HR4 := Lib.hid HS4.out.rs
        clear k0 fk0 hyz ka fa qT
        generalize ((W3.setCell ⟨y, 0, none⟩ (.map (some W3.heap.size))).alloc (.map #[] 0)) = W4 at *
        generalize W3.heap.size = mp at *
        rcases HR4.out.mp with ⟨h1, _⟩ | ⟨mp', hmp', hne, hm⟩
        · cases h1
        cases hmp'
        obtain ⟨w5, hst, hm5, hg5⟩ := hm.store m0 HW.out ⟨m0, m1, m2, m3, m4, m5⟩ (by unfold maxLen; omega)
        obtain ⟨w6, hst6, hm6, hg6⟩ := hm.drew.store m0 HW.out ⟨m0, m1, m2, m3, m4, m5⟩ (by unfold maxLen; omega)
        have HWF := Lib.hid (put_wf HR4.out.wf (u := m0) (m := ⟨m0, m1, m2, m3, m4, m5⟩) rfl HRT.out.1 HRT.out.2.1 HRT.out.2.2.2.2.2.2.1 HRT.out.2.2.2.2.2.2.2.1)
        have HA5 := Lib.hid (RA.set_map HR4.out hm5 hg5 HWF.out)
        have HA6 := Lib.hid (RA.set_map (HR4.out.below (below_drawn (Below.refl _ _) 1)) hm6 hg6 HWF.out)
        have HNN := Lib.hid (show 0 + 1 ≤ n + 1 by omega)
        clear hm5 hg5 hm6 hg6 hm hmm
        simp only [Mb.V] at hst hst6
        have k0 : W4.cell? ⟨y, 0, none⟩ = some (.map (some mp)) := HR4.out.blk.cell 0
        have hyz := HR4.out.blk.lt
        have t0 := HX4.out.cell 0
        have t1 := HX4.out.cell 1
        have t2 := HX4.out.cell 2
        have t3 := HX4.out.cell 3
        have t4 := HX4.out.cell 4
        have t5 := HX4.out.cell 5
        simp only [List.getElem?_toArray, List.getElem?_cons_zero, List.getElem?_cons_succ] at t0 t1 t2 t3 t4 t5
        have zt := HX4.out.lt
        go_upto_region 10 with fail
        go_region
        all_goals
          clear t0 t1 t2 t3 t4 t5 k0 hst hst6
          go_wp2
          go_ret
          exact ⟨some mp, _, HNN.out, by rw [HE.out]; rfl, by rw [enH, enC, HE.out]; first | exact HS4.out.trans HA5.out | exact (HS4.out.below (below_drawn (Below.refl _ _) 1)).trans HA6.out | exact (HS4.out.trans HA5.out).below (below_drawn (Below.refl _ _) 1)⟩
    · have hl0 := hm.look_ok m0 HW.out
      have hl1 := hm.drew.look_ok m0 HW.out
      have hl2 := (hm.alloc (.cells #[.int .i64 0, .int .i64 0, .int .i64 0, .int .i64 0, .int .i64 0, .int .u64 0] 34)).look_ok m0 HW.out
      have hl3 := (hm.alloc (.cells #[.int .i64 0, .int .i64 0, .int .i64 0, .int .i64 0, .int .i64 0, .int .u64 0] 34)).drew.look_ok m0 HW.out
      have hl4 := (hm.drew.alloc (.cells #[.int .i64 0, .int .i64 0, .int .i64 0, .int .i64 0, .int .i64 0, .int .u64 0] 34)).look_ok m0 HW.out
      obtain ⟨q, hq9⟩ : ∃ m, (H m0).getD Mb.zero = m := ⟨_, rfl⟩
      rw [hq9] at hl0 hl1 hl2 hl3 hl4
      obtain ⟨q0, q1, q2, q3, q4, q5⟩ := q
      simp only [Mb.V] at hl0 hl1 hl2 hl3 hl4
      obtain ⟨b, hb9⟩ : ∃ b, (H m0).isSome = b := ⟨_, rfl⟩
      rw [hb9] at hl0 hl1 hl2 hl3 hl4
      have HHB := Lib.hid hb9
      clear hb9 hq9 hm
      go_upto_region 5 with fail
      go_region
      all_goals
        have hal : Below w2.heap.size w2 ((w2.alloc (.cells #[.int .i64 q0, .int .i64 q1, .int .i64 q2, .int .i64 q3, .int .i64 q4, .int .u64 q5] 34)).drewN 1) := below_drawn ((Below.refl _ _).alloc (Nat.le_refl _) _) 1
        have HB3 := Lib.hid (below_trans HB.out hal)
        have HR3 := Lib.hid (HR2.out.below hal)
        have HX4 := Lib.hid (Blk.thru0 HX.out hal)
        have he3 : (w2.alloc (.cells #[.int .i64 q0, .int .i64 q1, .int .i64 q2, .int .i64 q3, .int .i64 q4, .int .u64 q5] 34)).drew = (w2.alloc (.cells #[.int .i64 q0, .int .i64 q1, .int .i64 q2, .int .i64 q3, .int .i64 q4, .int .u64 q5] 34)).drewN 1 := rfl
        rw [he3]
        clear he3 hal hl0 hl1 hl2 hl3 hl4 x0 zx t0 hy
        generalize ((w2.alloc (.cells #[.int .i64 q0, .int .i64 q1, .int .i64 q2, .int .i64 q3, .int .i64 q4, .int .u64 q5] 34)).drewN 1) = W4 at *
        have HS4 := Lib.hid (RA.start HR.out HB3.out)
        have HR4 := Lib.hid HS4.out.rs
        cases b with
        | true =>
          have HE := Lib.hid (show enE H ⟨m0, m1, m2, m3, m4, m5⟩ = 20 by rw [enE, HRR.out, HHB.out]; rfl)
          go_wp2
          go_ret
          exact ⟨some mp, n, Nat.le_succ n, by rw [HE.out]; rfl, by rw [enH, enC, HE.out]; exact HS4.out⟩
        | false =>
          have HE := Lib.hid (show enE H ⟨m0, m1, m2, m3, m4, m5⟩ = 0 by rw [enE, HRR.out, HHB.out]; rfl)
          have qT : ∀ (w : World) (r : Option Nat), (binOp .eql 51 (Value.map r) (Value.map none)).run Try.prog w = .ok (.bool r.isNone) w := fun w r => run_eql_map_nil w _ _ _ r Try.underlying51
          rcases HR4.out.mp with ⟨h1, _⟩ | ⟨mp', hmp', hne, hm⟩
          · cases h1
          cases hmp'
          obtain ⟨w5, hst, hm5, hg5⟩ := hm.store m0 HW.out ⟨m0, m1, m2, m3, m4, m5⟩ (by unfold maxLen; omega)
          obtain ⟨w6, hst6, hm6, hg6⟩ := hm.drew.store m0 HW.out ⟨m0, m1, m2, m3, m4, m5⟩ (by unfold maxLen; omega)
          have HWF := Lib.hid (put_wf HR4.out.wf (u := m0) (m := ⟨m0, m1, m2, m3, m4, m5⟩) rfl HRT.out.1 HRT.out.2.1 HRT.out.2.2.2.2.2.2.1 HRT.out.2.2.2.2.2.2.2.1)
          have HA5 := Lib.hid (RA.set_map HR4.out hm5 hg5 HWF.out)
          have HA6 := Lib.hid (RA.set_map (HR4.out.below (below_drawn (Below.refl _ _) 1)) hm6 hg6 HWF.out)
          rw [HHB.out] at HA5 HA6
          have HNN := Lib.hid (show n + 1 ≤ n + 1 by omega)
          clear hm5 hg5 hm6 hg6 hm
          simp only [Mb.V] at hst hst6
          have k0 : W4.cell? ⟨y, 0, none⟩ = some (.map (some mp)) := HR4.out.blk.cell 0
          have hyz := HR4.out.blk.lt
          have t0 := HX4.out.cell 0
          have t1 := HX4.out.cell 1
          have t2 := HX4.out.cell 2
          have t3 := HX4.out.cell 3
          have t4 := HX4.out.cell 4
          have t5 := HX4.out.cell 5
          simp only [List.getElem?_toArray, List.getElem?_cons_zero, List.getElem?_cons_succ] at t0 t1 t2 t3 t4 t5
          have zt := HX4.out.lt
          go_upto_region 10 with fail
          go_region
          all_goals
            clear t0 t1 t2 t3 t4 t5 k0 hst hst6
            go_wp2
            go_ret
            exact ⟨some mp, _, HNN.out, by rw [HE.out]; rfl, by rw [enH, enC, HE.out]; first | exact HS4.out.trans HA5.out | exact (HS4.out.below (below_drawn (Below.refl _ _) 1)).trans HA6.out | exact (HS4.out.trans HA5.out).below (below_drawn (Below.refl _ _) 1)⟩
end Go.Proofs.Ytolbjlphpgfcpaa
