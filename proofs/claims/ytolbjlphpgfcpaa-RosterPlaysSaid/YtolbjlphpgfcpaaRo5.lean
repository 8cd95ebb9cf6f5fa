/- roster: Profile, Quota, Spend, Dismiss, Enrol by contract. -/
import Derived.Test.YtolbjlphpgfcpaaRo4
namespace Go.Proofs.Ytolbjlphpgfcpaa
set_option linter.unusedVariables false
set_option linter.unusedSimpArgs false
open Go.RowKit
set_option maxHeartbeats 2000000 in
theorem profile_any (w : World) (y n c : Nat) (o : Option Nat) (H : Int → Option Mb) (u k : Int) (a : Nat) (h : RS w y o n H c) (hu : -9223372036854775808 ≤ u ∧ u ≤ 9223372036854775807) (hn : n ≤ 1000000) :
    Calls Try.prog 26 #[ptrA y, .int .i64 u, .agg #[.int .i64 k, .int .u64 a]] w (ChP y o w n H c u (prM k a) (prE k)) := by
  have HR := Lib.hid h
  have HU := Lib.hid hu
  clear h hu
  have HB := Lib.hid (show Below w.heap.size w (w.alloc (.cells #[.int .i64 k, .int .u64 a] 32)) by go_grown)
  have HX := Lib.hid (Blk.new w 32 #[.int .i64 k, .int .u64 a])
  have HC := Lib.hid (change_profile _ y n c o H u w.heap.size k a HX.out (HR.out.below HB.out) HU.out hn)
  go_enter Try.func26, Try.ntmps26
  go_wp2_with fail
  refine HC.out.mono ?_
  rintro e w2 ⟨n', hn', rfl, hA⟩
  have HA := Lib.hid ((RA.start HR.out HB.out).trans hA)
  have HN := Lib.hid hn'
  clear hA hn'
  go_wp2
  go_ret
  exact ⟨n', HN.out, rfl, HA.out⟩
set_option maxHeartbeats 2000000 in
theorem quota_any (w : World) (y n c : Nat) (o : Option Nat) (H : Int → Option Mb) (u q : Int) (h : RS w y o n H c) (hu : -9223372036854775808 ≤ u ∧ u ≤ 9223372036854775807) (hn : n ≤ 1000000) :
    Calls Try.prog 21 #[ptrA y, .int .i64 u, .int .i64 q] w (ChP y o w n H c u (quM q) (quE q)) := by
  have HR := Lib.hid h
  have HU := Lib.hid hu
  clear h hu
  have HB := Lib.hid (show Below w.heap.size w (w.alloc (.cells #[.int .i64 q] 3)) by go_grown)
  have HX := Lib.hid (Blk.new w 3 #[.int .i64 q])
  have HC := Lib.hid (change_quota _ y n c o H u w.heap.size q HX.out (HR.out.below HB.out) HU.out hn)
  go_enter Try.func21, Try.ntmps21
  go_wp2_with fail
  refine HC.out.mono ?_
  rintro e w2 ⟨n', hn', rfl, hA⟩
  have HA := Lib.hid ((RA.start HR.out HB.out).trans hA)
  have HN := Lib.hid hn'
  clear hA hn'
  go_wp2
  go_ret
  exact ⟨n', HN.out, rfl, HA.out⟩
set_option maxHeartbeats 2000000 in
theorem spend_any (w : World) (y n c : Nat) (o : Option Nat) (H : Int → Option Mb) (u : Int) (h : RS w y o n H c) (hu : -9223372036854775808 ≤ u ∧ u ≤ 9223372036854775807) (hn : n ≤ 1000000) :
    Calls Try.prog 20 #[ptrA y, .int .i64 u] w (ChP y o w n H c u spM spE) := by
  have HC := Lib.hid (change_spend w y n c o H u h hu hn)
  clear h hu
  go_enter Try.func20, Try.ntmps20
  go_wp2_with fail
  refine HC.out.mono ?_
  rintro e w2 ⟨n', hn', rfl, hA⟩
  have HA := Lib.hid hA
  have HN := Lib.hid hn'
  clear hA hn'
  go_wp2
  go_ret
  exact ⟨n', HN.out, rfl, HA.out⟩
theorem change_nil (w : World) (u : Int) (f : Value) : Calls Try.prog 29 #[.pointer none, .int .i64 u, f] w fun e w' => e = .returned (.int .i64 3) ∧ w = w' := by
  go_enter Try.func29, Try.ntmps29
  go_wp2
  go_ret
  exact ⟨rfl, rfl⟩
theorem profile_nil (w : World) (u k : Int) (a : Nat) : Calls Try.prog 26 #[.pointer none, .int .i64 u, .agg #[.int .i64 k, .int .u64 a]] w fun e w' => e = .returned (.int .i64 3) ∧ Below w.heap.size w w' := by
  go_enter Try.func26, Try.ntmps26
  go_wp2_with fail
  refine (change_nil _ _ _).mono ?_
  rintro e w2 ⟨rfl, hw⟩
  subst hw
  go_wp2
  go_ret
  exact ⟨rfl, by go_grown⟩
theorem quota_nil (w : World) (u q : Int) : Calls Try.prog 21 #[.pointer none, .int .i64 u, .int .i64 q] w fun e w' => e = .returned (.int .i64 3) ∧ Below w.heap.size w w' := by
  go_enter Try.func21, Try.ntmps21
  go_wp2_with fail
  refine (change_nil _ _ _).mono ?_
  rintro e w2 ⟨rfl, hw⟩
  subst hw
  go_wp2
  go_ret
  exact ⟨rfl, by go_grown⟩
theorem spend_nil (w : World) (u : Int) : Calls Try.prog 20 #[.pointer none, .int .i64 u] w fun e w' => e = .returned (.int .i64 3) ∧ Below w.heap.size w w' := by
  go_enter Try.func20, Try.ntmps20
  go_wp2_with fail
  refine (change_nil _ _ _).mono ?_
  rintro e w2 ⟨rfl, hw⟩
  subst hw
  go_wp2
  go_ret
  exact ⟨rfl, Below.refl _ _⟩
/-- What Dismiss tells, and who is there behind it. -/
def diE (H : Int → Option Mb) (u : Int) : Int := if u = 0 then 1 else if (H u).isSome = false then 21 else 0
def diH (H : Int → Option Mb) (u : Int) : Int → Option Mb := if diE H u = 0 then delH H u else H
def diC (H : Int → Option Mb) (u : Int) (c : Nat) : Nat := if diE H u = 0 then c - 1 else c
def DiP (y : Nat) (o : Option Nat) (w : World) (n : Nat) (H : Int → Option Mb) (c : Nat) (u : Int) (e : Ending) (w' : World) : Prop := e = .returned (.int .i64 (diE H u)) ∧ RA y o w o n (diH H u) (diC H u c) w'
theorem del_wf {H : Int → Option Mb} (h : WFH H) (u : Int) : WFH (delH H u) := by
  intro j q hq
  unfold delH at hq
  by_cases hj : j = u
  · rw [if_pos hj] at hq; cases hq
  · rw [if_neg hj] at hq; exact h j q hq
theorem RA.del_map {w w' : World} {y mp n c : Nat} {H : Int → Option Mb} {u : Int} (h : RS w y (some mp) n H c) (hm : MapM w' mp n (delH H u) (c - if (H u).isSome then 1 else 0)) (hg : w.grownBy w' (some mp)) : RA y (some mp) w (some mp) n (delH H u) (c - if (H u).isSome then 1 else 0) w' := by
  have hne : mp ≠ y := by
    rcases h.mp with ⟨h1, _⟩ | ⟨q, e, hq, _⟩
    · cases h1
    · cases e; exact hq
  exact ⟨⟨h.blk.grown hg (by simpa using fun e => hne e.symm), .inr ⟨mp, rfl, hne, hm⟩, del_wf h.wf u⟩, ⟨hg.os, hg.tape, hg.output, hg.size, fun k hk h1 h2 => hg.block k hk (fun e => h2 e.symm)⟩, fun i hi => .inl hi⟩
set_option maxRecDepth 100000 in
set_option maxHeartbeats 8000000 in
theorem dismiss_any (w : World) (y n c : Nat) (o : Option Nat) (H : Int → Option Mb) (u : Int) (h : RS w y o n H c) (hu : -9223372036854775808 ≤ u ∧ u ≤ 9223372036854775807) :
    Calls Try.prog 25 #[ptrA y, .int .i64 u] w (DiP y o w n H c u) := by
  have HR := Lib.hid h
  have hw := wf_i64 hu
  have t0 : w.cell? ⟨y, 0, none⟩ = some (.map o) := h.blk.cell 0
  have hy := h.blk.lt
  unfold DiP
  by_cases h0 : u = 0
  · have he : (u == 0) = true := by simpa using h0
    have HE := Lib.hid (show diE H u = 1 from if_pos h0)
    clear h hu h0 hw
    go_enter Try.func25, Try.ntmps25
    go_wp2
    go_ret
    exact ⟨by rw [HE.out]; rfl, by rw [diH, diC, HE.out]; exact RA.start HR.out (Below.refl _ _)⟩
  · have he : (u == 0) = false := by simpa using h0
    rcases h.mp with ⟨rfl, rfl, rfl⟩ | ⟨mp, rfl, hne, hm⟩
    · have HE := Lib.hid (show diE (fun _ => none) u = 21 by rw [diE, if_neg h0]; rfl)
      have hl := fun w => look_none w u hw
      simp only [Mb.V, Mb.zero] at hl
      clear h hu h0 hw
      go_enter Try.func25, Try.ntmps25
      go_wp2
      go_ret
      exact ⟨by rw [HE.out]; rfl, by rw [diH, diC, HE.out]; exact RA.start HR.out (by go_grown)⟩
    · have hl := hm.look_ok u hw
      obtain ⟨m, hm9⟩ : ∃ m, (H u).getD Mb.zero = m := ⟨_, rfl⟩
      rw [hm9] at hl
      obtain ⟨m0, m1, m2, m3, m4, m5⟩ := m
      simp only [Mb.V] at hl
      cases hb9 : (H u).isSome with
      | false =>
        rw [hb9] at hl
        have HE := Lib.hid (show diE H u = 21 by rw [diE, if_neg h0, hb9]; rfl)
        clear h hu h0 hw hm hb9 hm9
        go_enter Try.func25, Try.ntmps25
        go_wp2
        go_ret
        exact ⟨by rw [HE.out]; rfl, by rw [diH, diC, HE.out]; exact RA.start HR.out (by go_grown)⟩
      | true =>
        rw [hb9] at hl
        have HE := Lib.hid (show diE H u = 0 by rw [diE, if_neg h0, hb9]; rfl)
        have hal : Below w.heap.size w (w.alloc (.cells #[.int .i64 m0, .int .i64 m1, .int .i64 m2, .int .i64 m3, .int .i64 m4, .int .u64 m5] 34)) := by go_grown
        obtain ⟨w5, hd5, hm5, hg5⟩ := (hm.below hal).drop u hw 0
        have HA := Lib.hid (show RA y (some mp) w (some mp) n (delH H u) (c - 1) w5 by have h9 := (RA.start h hal).trans (RA.del_map (HR.out.below hal) hm5 hg5); rw [hb9] at h9; exact h9)
        clear h hu h0 hw hm hb9 hm9 hm5 hg5 hal
        go_enter Try.func25, Try.ntmps25
        go_wp2
        go_ret
        exact ⟨by rw [HE.out]; rfl, by rw [diH, diC, HE.out]; exact HA.out⟩
theorem dismiss_nil (w : World) (u : Int) : Calls Try.prog 25 #[.pointer none, .int .i64 u] w fun e w' => e = .returned (.int .i64 3) ∧ Below w.heap.size w w' := by
  go_enter Try.func25, Try.ntmps25
  go_wp2
  go_ret
  exact ⟨rfl, Below.refl _ _⟩
theorem enrol_nil (w : World) (m : Mb) : Calls Try.prog 17 #[.pointer none, m.V] w fun e w' => e = .returned (.int .i64 3) ∧ Below w.heap.size w w' := by
  obtain ⟨m0, m1, m2, m3, m4, m5⟩ := m
  go_enter Try.func17, Try.ntmps17
  go_wp2
  go_ret
  exact ⟨rfl, by go_grown⟩
end Go.Proofs.Ytolbjlphpgfcpaa
