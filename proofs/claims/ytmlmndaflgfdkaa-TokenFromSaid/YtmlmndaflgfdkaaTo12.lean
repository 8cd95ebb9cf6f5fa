/- token: what a ticket grants, by contract. -/
import Derived.Test.YtmlmndaflgfdkaaTo11
namespace Go.Proofs.Ytmlmndaflgfdkaa
set_option linter.unusedVariables false
set_option linter.unusedSimpArgs false
open Go.RowKit
/-- What the ticket at a place grants. -/
def grI (L : List Tk) : Nat → Nat → Gt
  | 0, i => (L.getD i Tk.zero).g
  | f + 1, i => if fnd (secs L) (L.getD i Tk.zero).par < 0 then (L.getD i Tk.zero).g else meetC (L.getD i Tk.zero).g (grI L f (fnd (secs L) (L.getD i Tk.zero).par).toNat)
/-- Each stands behind what it was made of. -/
def OrdT (L : List Tk) : Prop := ∀ i, i < L.length → fnd (secs L) (L.getD i Tk.zero).par < i
set_option maxRecDepth 100000 in
set_option maxHeartbeats 8000000 in
theorem granted_step (L : List Tk) (y : Nat) (v : Value) (i : Nat) (m : Gt) (w : World) (hi : i < L.length) (hl : L.length ≤ 1000) (hs : SecOk L) (h : TB w y v L)
    (hm : Hid ((fnd (secs L) (L.getD i Tk.zero).par < 0 ∧ m = (L.getD i Tk.zero).g) ∨ (0 ≤ fnd (secs L) (L.getD i Tk.zero).par ∧ ∃ r : Gt, m = meetC (L.getD i Tk.zero).g r ∧
      ∀ W, TB W y v L → Calls Try.prog 39 #[ptrA y, .int .i64 (fnd (secs L) (L.getD i Tk.zero).par)] W fun e w' => e = .returned r.V ∧ Below W.heap.size W w'))) :
    Calls Try.prog 39 #[ptrA y, .int .i64 i] w fun e w' => e = .returned m.V ∧ Below w.heap.size w w' := by
  obtain ⟨A1, c1, rfl, hc1, hc2⟩ := h.own.slice
  have H := Lib.hid h
  have hyz := h.blk.lt
  have hx : L[i]? = some L[i] := List.getElem?_eq_getElem hi
  have hgd : L.getD i Tk.zero = L[i] := by rw [List.getD_eq_getElem?_getD, hx]; rfl
  rw [hgd] at hm
  have hsx := hs _ (List.getElem_mem hi)
  have HF := Lib.hid (fun W (h : TB W y (.slice A1 L.length c1) L) => tfind_any W y _ L L[i].par hsx.2 h hl hs)
  have hal : Below w.heap.size w (w.alloc (.cells #[.int .i64 0, .int .i64 0, .int .i64 0, .int .i64 0, .int .i64 0, .int .i64 0, .bool false, .int .i64 0] 30)) := (Below.refl _ _).alloc (Nat.le_refl _) _
  have HA := Lib.hid hal
  have HR := Lib.hid (Blk.new w 30 #[.int .i64 0, .int .i64 0, .int .i64 0, .int .i64 0, .int .i64 0, .int .i64 0, .bool false, .int .i64 0])
  obtain ⟨g, rfl, a0, a1, a2, a3, a4, a5, a6, a7, a8, a9⟩ := (H.out.own.below hal).ten hx
  have t0 := (H.out.blk.alloc (.cells #[.int .i64 0, .int .i64 0, .int .i64 0, .int .i64 0, .int .i64 0, .int .i64 0, .bool false, .int .i64 0] 30)).cell 0
  simp only [List.getElem?_toArray, List.getElem?_cons_zero] at t0
  generalize L[i] = x at *
  clear hal h hx hgd hsx hc2
  obtain ⟨xs, xp, ⟨g0, g1, g2, g3, g4, g5, g6, g7⟩⟩ := x
  simp only at a0 a1 a2 a3 a4 a5 a6 a7 a8 a9 HF hm
  have hil : (i : Int) < L.length := by omega
  go_enter Try.func39, Try.ntmps39
  go_upto_region 2 with fail
  have HZ := Lib.hid (show (w.alloc (.cells #[.int .i64 0, .int .i64 0, .int .i64 0, .int .i64 0, .int .i64 0, .int .i64 0, .bool false, .int .i64 0] 30)).heap.size = w.heap.size + 1 by simp)
  have HK := Lib.hid (show Blk ((w.alloc (.cells #[.int .i64 0, .int .i64 0, .int .i64 0, .int .i64 0, .int .i64 0, .int .i64 0, .bool false, .int .i64 0] 30)).alloc (.cells #[.int .u64 xs, .int .u64 xp, .int .i64 g0, .int .i64 g1, .int .i64 g2, .int .i64 g3, .int .i64 g4, .int .i64 g5, .bool g6, .int .i64 g7] 35)) (w.heap.size + 1) 35 #[.int .u64 xs, .int .u64 xp, .int .i64 g0, .int .i64 g1, .int .i64 g2, .int .i64 g3, .int .i64 g4, .int .i64 g5, .bool g6, .int .i64 g7] from Blk.newAt HZ.out)
  have HR3 := Lib.hid (HR.out.alloc (.cells #[.int .u64 xs, .int .u64 xp, .int .i64 g0, .int .i64 g1, .int .i64 g2, .int .i64 g3, .int .i64 g4, .int .i64 g5, .bool g6, .int .i64 g7] 35))
  have HA3 := Lib.hid (HA.out.alloc (by have := HA.out.size; omega) (.cells #[.int .u64 xs, .int .u64 xp, .int .i64 g0, .int .i64 g1, .int .i64 g2, .int .i64 g3, .int .i64 g4, .int .i64 g5, .bool g6, .int .i64 g7] 35))
  clear a0 a1 a2 a3 a4 a5 a6 a7 a8 a9 t0 HA HR HZ
  generalize ((w.alloc (.cells #[.int .i64 0, .int .i64 0, .int .i64 0, .int .i64 0, .int .i64 0, .int .i64 0, .bool false, .int .i64 0] 30)).alloc (.cells #[.int .u64 xs, .int .u64 xp, .int .i64 g0, .int .i64 g1, .int .i64 g2, .int .i64 g3, .int .i64 g4, .int .i64 g5, .bool g6, .int .i64 g7] 35)) = W3 at *
  have r0 := HK.out.cell 0
  have r1 := HK.out.cell 1
  have r2 := HK.out.cell 2
  have r3 := HK.out.cell 3
  have r4 := HK.out.cell 4
  have r5 := HK.out.cell 5
  have r6 := HK.out.cell 6
  have r7 := HK.out.cell 7
  have r8 := HK.out.cell 8
  have r9 := HK.out.cell 9
  simp only [List.getElem?_toArray, List.getElem?_cons_zero, List.getElem?_cons_succ] at r0 r1 r2 r3 r4 r5 r6 r7 r8 r9
  obtain ⟨p, hp⟩ : ∃ p, fnd (secs L) xp = p := ⟨_, rfl⟩
  rw [hp] at HF hm
  clear hp
  go_wp2_with fail
  refine (HF.out _ (H.out.below HA3.out)).mono ?_
  rintro e w4 ⟨rfl, hb4⟩
  have HK4 := Lib.hid (Blk.thru0 HK.out hb4)
  have HR4 := Lib.hid (Blk.thru0 HR3.out hb4)
  have HA4 := Lib.hid (below_trans HA3.out hb4)
  clear r0 r1 r2 r3 r4 r5 r6 r7 r8 r9 hb4 HK HR3 HA3 HF
  rcases hm.out with ⟨hp, hme⟩ | ⟨hp, r, hme, hcall⟩
  · obtain rfl := hme
    have r0 := HK4.out.cell 0
    have r1 := HK4.out.cell 1
    have r2 := HK4.out.cell 2
    have r3 := HK4.out.cell 3
    have r4 := HK4.out.cell 4
    have r5 := HK4.out.cell 5
    have r6 := HK4.out.cell 6
    have r7 := HK4.out.cell 7
    have r8 := HK4.out.cell 8
    have r9 := HK4.out.cell 9
    simp only [List.getElem?_toArray, List.getElem?_cons_zero, List.getElem?_cons_succ] at r0 r1 r2 r3 r4 r5 r6 r7 r8 r9
    have q0 := HR4.out.cell 0
    have q1 := HR4.out.cell 1
    have q2 := HR4.out.cell 2
    have q3 := HR4.out.cell 3
    have q4 := HR4.out.cell 4
    have q5 := HR4.out.cell 5
    have q6 := HR4.out.cell 6
    have q7 := HR4.out.cell 7
    simp only [List.getElem?_toArray, List.getElem?_cons_zero, List.getElem?_cons_succ] at q0 q1 q2 q3 q4 q5 q6 q7
    have fq0 := HR4.out.frozen 0
    have fq1 := HR4.out.frozen 1
    have fq2 := HR4.out.frozen 2
    have fq3 := HR4.out.frozen 3
    have fq4 := HR4.out.frozen 4
    have fq5 := HR4.out.frozen 5
    have fq6 := HR4.out.frozen 6
    have fq7 := HR4.out.frozen 7
    have hzk := HK4.out.lt
    have hzr := HR4.out.lt
    go_wp2
    refine bodyPost_ret (v := Gt.V ⟨g0, g1, g2, g3, g4, g5, g6, g7⟩) ?_ rfl ⟨rfl, ?_⟩
    · simp [results, Try.results39, go_sem, *]
    · have hb := HA4.out
      go_grown
  · have HC := Lib.hid hcall
    have HT4 := Lib.hid (H.out.below HA4.out)
    have hp' : ¬ p < 0 := by omega
    obtain ⟨m0, m1, m2, m3, m4, m5, m6, m7⟩ := m
    have HM := Lib.hid (fun W => tmeet_any ⟨g0, g1, g2, g3, g4, g5, g6, g7⟩ r W)
    rw [← hme] at HM
    obtain ⟨q0, q1, q2, q3, q4, q5, q6, q7⟩ := r
    simp only [Gt.V] at HC HM ⊢
    clear hme hcall hm
    have r0 := HK4.out.cell 0
    have r1 := HK4.out.cell 1
    have r2 := HK4.out.cell 2
    have r3 := HK4.out.cell 3
    have r4 := HK4.out.cell 4
    have r5 := HK4.out.cell 5
    have r6 := HK4.out.cell 6
    have r7 := HK4.out.cell 7
    have r8 := HK4.out.cell 8
    have r9 := HK4.out.cell 9
    simp only [List.getElem?_toArray, List.getElem?_cons_zero, List.getElem?_cons_succ] at r0 r1 r2 r3 r4 r5 r6 r7 r8 r9
    have hzk := HK4.out.lt
    have hzr := HR4.out.lt
    go_upto_region 5 with fail
    go_region_with (first | (go_at_call 39; refine (HC.out _ (by first | exact HT4.out | exact HT4.out.below (below_drawn (Below.refl _ _) 1))).mono ?_; rintro e w5 ⟨rfl, hb5⟩; have HK5 := (Blk.thru0 (by first | exact HK4.out | exact HK4.out.drew) hb5); have HR5 := (Blk.thru0 (by first | exact HR4.out | exact HR4.out.drew) hb5); have k0 := HK5.cell 0; have k1 := HK5.cell 1; have k2 := HK5.cell 2; have k3 := HK5.cell 3; have k4 := HK5.cell 4; have k5 := HK5.cell 5; have k6 := HK5.cell 6; have k7 := HK5.cell 7; have k8 := HK5.cell 8; have k9 := HK5.cell 9; simp only [List.getElem?_toArray, List.getElem?_cons_zero, List.getElem?_cons_succ] at k0 k1 k2 k3 k4 k5 k6 k7 k8 k9; have HB5 := Lib.hid (show Below w4.heap.size w4 w5 from by first | exact hb5 | exact bdrewT hb5); clear hb5) | (go_at_call 24; refine (HM.out _).mono ?_; rintro e w6 ⟨rfl, hb6⟩; have HR6 := (Blk.thru0 (by first | exact HR5 | exact HR5.drew) hb6); have s0 := HR6.cell 0; have s1 := HR6.cell 1; have s2 := HR6.cell 2; have s3 := HR6.cell 3; have s4 := HR6.cell 4; have s5 := HR6.cell 5; have s6 := HR6.cell 6; have s7 := HR6.cell 7; simp only [List.getElem?_toArray, List.getElem?_cons_zero, List.getElem?_cons_succ] at s0 s1 s2 s3 s4 s5 s6 s7; have fs0 := HR6.frozen 0; have fs1 := HR6.frozen 1; have fs2 := HR6.frozen 2; have fs3 := HR6.frozen 3; have fs4 := HR6.frozen 4; have fs5 := HR6.frozen 5; have fs6 := HR6.frozen 6; have fs7 := HR6.frozen 7; have HB6 := Lib.hid (show Below w5.heap.size w5 w6 from by first | exact hb6 | exact bdrewT hb6); clear hb6; clear k0 k1 k2 k3 k4 k5 k6 k7 k8 k9 r0 r1 r2 r3 r4 r5 r6 r7 r8 r9))
    all_goals
      have hb6 := below_trans HA4.out (below_trans HB5.out HB6.out)
      clear HA4
      go_wp2
      refine bodyPost_ret (v := .agg #[.int .i64 m0, .int .i64 m1, .int .i64 m2, .int .i64 m3, .int .i64 m4, .int .i64 m5, .bool m6, .int .i64 m7]) ?_ rfl ⟨rfl, ?_⟩
      · simp [results, Try.results39, go_sem, *]
      · first | (go_grown; done) | exact below_drawn (by go_grown) _
end Go.Proofs.Ytmlmndaflgfdkaa
