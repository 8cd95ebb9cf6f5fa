/- RosterQuota: (P18.4) a member with some quota may spend just so often. Conditions: none. -/
import Derived.Test.YtolbjlphpgfcpaaRo8
namespace Go.Proofs.Ytolbjlphpgfcpaa.rosterQuota
set_option linter.unusedVariables false
set_option linter.unusedSimpArgs false
open Go.ChangeShapes Go.WideShapes Go.ChangeAt Go.RowKit
open Go.ChangeMaps (open_string shut_string)
def Hq (m : Mb) (j : Int) : Int → Option Mb := putH (fun _ => none) m.user { m with quota := j }
theorem put_put (H : Int → Option Mb) (u : Int) (a b : Mb) : putH (putH H u a) u b = putH H u b := by
  funext j
  unfold putH
  split <;> rfl
theorem hq_fi (m : Mb) (j : Int) (h : 1 ≤ m.user) : fiB (Hq m j) m.user = true ∧ fiM (Hq m j) m.user = { m with quota := j } := by
  have h0 : ¬ m.user = 0 := by omega
  constructor
  · rw [fiB, if_neg h0]; simp [Hq, putH]
  · rw [fiM, if_neg h0]; simp [Hq, putH]
theorem hq_spend (m : Mb) (j : Int) (h : 1 ≤ m.user) (hj : j ≠ 0) : chE (Hq m j) m.user spE = 0 ∧ chH (Hq m j) m.user spM spE = Hq m (j - 1) := by
  obtain ⟨h1, h2⟩ := hq_fi m j h
  have e : spE { m with quota := j } = 0 := if_neg hj
  constructor
  · rw [chE, h1, h2, if_neg (by decide), e]
  · rw [chH, h1, h2, if_pos ⟨rfl, e, by omega⟩, Hq, put_put, spM, if_neg hj]; rfl
theorem hq_zero (m : Mb) (h : 1 ≤ m.user) : chE (Hq m 0) m.user spE = 41 := by
  obtain ⟨h1, h2⟩ := hq_fi m 0 h
  rw [chE, h1, h2, if_neg (by decide)]
  rfl
theorem hq_zeroH (m : Mb) (h : 1 ≤ m.user) : chH (Hq m 0) m.user spM spE = Hq m 0 := by
  obtain ⟨h1, h2⟩ := hq_fi m 0 h
  rw [chH, h1, h2, if_neg]
  rintro ⟨_, h3, _⟩
  cases h3
theorem hq_quota (m : Mb) (j : Int) (h : 1 ≤ m.user) : chE (Hq m j) m.user (quE 1) = 0 ∧ chH (Hq m j) m.user (quM 1) (quE 1) = Hq m 1 := by
  obtain ⟨h1, h2⟩ := hq_fi m j h
  have hn : ¬ (({ m with quota := j } : Mb).user = 0 ∨ wiB 1 0 65535 = false) := by
    rintro (h3 | h3)
    · simp only at h3; omega
    · cases h3
  have e : quE 1 { m with quota := j } = 0 := if_neg hn
  constructor
  · rw [chE, h1, h2, if_neg (by decide), e]
  · rw [chH, h1, h2, if_pos ⟨rfl, e, by omega⟩, Hq, put_put, quM, if_neg hn]; rfl
theorem refright_lit (m : Mb) (r : Bool) (h : rightM m = r) : Hid (∀ w, Calls Try.prog 18 #[m.V] w fun e w' => e = .returned (.bool r) ∧ Below w.heap.size w w') := by
  intro w
  rw [← h]
  exact refright_any m w
theorem en_new (m : Mb) : enE (fun _ => none) m = if rightM m = false then 1 else 0 := by
  unfold enE
  split
  · rfl
  · simp
set_option maxRecDepth 100000 in
set_option maxHeartbeats 16000000 in
theorem walk (m : Mb) (w : World) (h : m.I) :
    Calls Try.prog 4 #[m.V] w fun e w' => e = .returned (.bool true) ∧ Below w.heap.size w w' := by
  have HU := Lib.hid h.user
  have HQB := Lib.hid h.quota
  clear h
  cases hr : rightM m with
  | false =>
    have HE := Lib.hid (show enE (fun _ => none) m = 1 by rw [en_new, hr]; rfl)
    have HH := Lib.hid (show enH (fun _ => none) m = fun _ => none by rw [enH, HE.out]; rfl)
    have HR1 := refright_lit m false hr
    have HR2 := rright_lit m false hr
    have HEN := Lib.hid (fun w y h => enrol_any w y 0 0 none (fun _ => none) m h HU.out (by decide))
    unfold EnP at HEN
    rw [HE.out] at HEN
    clear hr
    obtain ⟨m0, m1, m2, m3, m4, m5⟩ := m
    simp only [Mb.V] at HR1 HR2 HEN
    go_enter Try.func4, Try.ntmps4
    have HX := Lib.hid (Blk.new w 34 #[.int .i64 m0, .int .i64 m1, .int .i64 m2, .int .i64 m3, .int .i64 m4, .int .u64 m5])
    have HB := Lib.hid (show Below w.heap.size w (w.alloc (.cells #[.int .i64 m0, .int .i64 m1, .int .i64 m2, .int .i64 m3, .int .i64 m4, .int .u64 m5] 34)) by go_grown)
    go_wp2_with fail
    refine (rnew_any _).mono ?_
    rintro e w1 ⟨rfl, hR, hb⟩
    obtain ⟨xb, hxb⟩ : ∃ xb, w.heap.size = xb := ⟨_, rfl⟩
    have HXB := Lib.hid hxb
    rw [hxb] at HX ⊢
    clear hxb
    have HB1 := Lib.hid (below_trans HB.out hb)
    have HX1 := Lib.hid (Blk.thru0 HX.out hb)
    have HS1 := Lib.hid hR
    have HYW := Lib.hid (show w.heap.size ≤ (w.alloc (.cells #[.int .i64 m0, .int .i64 m1, .int .i64 m2, .int .i64 m3, .int .i64 m4, .int .u64 m5] 34)).heap.size by simp)
    clear hR hb HX HB
    generalize (w.alloc (.cells #[.int .i64 m0, .int .i64 m1, .int .i64 m2, .int .i64 m3, .int .i64 m4, .int .u64 m5] 34)).heap.size = y at *
    have c0 := HX1.out.cell 0
    have c1 := HX1.out.cell 1
    have c2 := HX1.out.cell 2
    have c3 := HX1.out.cell 3
    have c4 := HX1.out.cell 4
    have c5 := HX1.out.cell 5
    simp only [List.getElem?_toArray, List.getElem?_cons_zero, List.getElem?_cons_succ] at c0 c1 c2 c3 c4 c5
    go_wp2_with fail
    refine (HEN.out _ _ HS1.out).mono ?_
    rintro e w2 ⟨o2, n2, hn2, rfl, hA⟩
    have HF2 := Lib.hid (hA.farB HB1.out.size (fun i hi => by cases hi))
    have HB2 := Lib.hid (hA.ke.bel HB1.out HYW.out (fun i hi => by cases hi))
    have HXY := Lib.hid (show xb ≠ y from fun e => by have h1 := HX1.out; have h2 := HS1.out.blk; rw [e] at h1; unfold Blk at h1 h2; rw [h1] at h2; simp at h2)
    have HX2 := Lib.hid (show Blk w2 xb 34 #[.int .i64 m0, .int .i64 m1, .int .i64 m2, .int .i64 m3, .int .i64 m4, .int .u64 m5] from (hA.ke.block xb HX1.out.lt HXY.out (by simp)).trans HX1.out)
    have HS2 := Lib.hid hA.rs
    have HN2 := Lib.hid hn2
    clear hA c0 c1 c2 c3 c4 c5 HB1 HX1 HS1 hn2 HEN
    have c0 := HX2.out.cell 0
    have c1 := HX2.out.cell 1
    have c2 := HX2.out.cell 2
    have c3 := HX2.out.cell 3
    have c4 := HX2.out.cell 4
    have c5 := HX2.out.cell 5
    simp only [List.getElem?_toArray, List.getElem?_cons_zero, List.getElem?_cons_succ] at c0 c1 c2 c3 c4 c5
    go_wp2_with fail
    refine (HR1.out _).mono ?_
    rintro e w3 ⟨rfl, hb⟩
    have HB3 := Lib.hid (below_trans HB2.out hb)
    have HX3 := Lib.hid (Blk.thru0 HX2.out hb)
    have HS3 := Lib.hid (HS2.out.below hb)
    clear hb c0 c1 c2 c3 c4 c5 HB2 HX2 HS2
    have hB := HB3.out
    have c0 := HX3.out.cell 0
    have c1 := HX3.out.cell 1
    have c2 := HX3.out.cell 2
    have c3 := HX3.out.cell 3
    have c4 := HX3.out.cell 4
    have c5 := HX3.out.cell 5
    simp only [List.getElem?_toArray, List.getElem?_cons_zero, List.getElem?_cons_succ] at c0 c1 c2 c3 c4 c5
    have zx := HX3.out.lt
    clear HX3 HS3 HB3
    go_upto_region 4 with fail
    go_region_held3 (fun w' => (w'.cell? ⟨xb, 0, none⟩ = some (.int .i64 m0)) ∧ (w'.cell? ⟨xb, 1, none⟩ = some (.int .i64 m1)) ∧ (w'.cell? ⟨xb, 2, none⟩ = some (.int .i64 m2)) ∧ (w'.cell? ⟨xb, 3, none⟩ = some (.int .i64 m3)) ∧ (w'.cell? ⟨xb, 4, none⟩ = some (.int .i64 m4)) ∧ (w'.cell? ⟨xb, 5, none⟩ = some (.int .u64 m5)) ∧ (Below w.heap.size w w')) (first | (go_split_ands; refine ⟨?_, ?_, ?_, ?_, ?_, ?_, ?_⟩ <;> first | (exact cell_later (by assumption) (by assumption)) | (exact below_then (by assumption) (by assumption)) | (go_grown; done) | go_keep)) (first | (go_at_call 18; refine (HR1.out _).mono ?_; rintro e w9 ⟨rfl, hb9⟩) | (go_at_call 19; refine (HR2.out _).mono ?_; rintro e w9 ⟨rfl, hb9⟩) | (go_at_call 16; refine (rknown_any _).mono ?_; rintro e w9 ⟨rfl, hb9⟩))
    all_goals
      rename_i hS
      have h9 := hS.2.2.2.2.2.2
      clear hS c0 c1 c2 c3 c4 c5 hB
      go_wp2
      go_ret
      exact ⟨rfl, h9⟩
  | true =>
    have HRT := Lib.hid ((rightM_iff m).1 hr)
    have HE := Lib.hid (show enE (fun _ => none) m = 0 by rw [en_new, hr]; rfl)
    have HR1 := refright_lit m true hr
    have HR2 := rright_lit m true hr
    have HEN := Lib.hid (fun w y h => enrol_any w y 0 0 none (fun _ => none) m h HU.out (by decide))
    unfold EnP at HEN
    rw [HE.out] at HEN
    have HHQ := Lib.hid (show enH (fun _ => none) m = Hq m m.quota by rw [enH, HE.out, if_pos rfl]; rfl)
    by_cases h300 : 300 < m.quota
    · clear hr
      obtain ⟨m0, m1, m2, m3, m4, m5⟩ := m
      simp only [Mb.V] at HR1 HR2 HEN
      simp only at h300
      go_enter Try.func4, Try.ntmps4
      have HX := Lib.hid (Blk.new w 34 #[.int .i64 m0, .int .i64 m1, .int .i64 m2, .int .i64 m3, .int .i64 m4, .int .u64 m5])
      have HB := Lib.hid (show Below w.heap.size w (w.alloc (.cells #[.int .i64 m0, .int .i64 m1, .int .i64 m2, .int .i64 m3, .int .i64 m4, .int .u64 m5] 34)) by go_grown)
      go_wp2_with fail
      refine (rnew_any _).mono ?_
      rintro e w1 ⟨rfl, hR, hb⟩
      obtain ⟨xb, hxb⟩ : ∃ xb, w.heap.size = xb := ⟨_, rfl⟩
      have HXB := Lib.hid hxb
      rw [hxb] at HX ⊢
      clear hxb
      have HB1 := Lib.hid (below_trans HB.out hb)
      have HX1 := Lib.hid (Blk.thru0 HX.out hb)
      have HS1 := Lib.hid hR
      have HYW := Lib.hid (show w.heap.size ≤ (w.alloc (.cells #[.int .i64 m0, .int .i64 m1, .int .i64 m2, .int .i64 m3, .int .i64 m4, .int .u64 m5] 34)).heap.size by simp)
      clear hR hb HX HB
      generalize (w.alloc (.cells #[.int .i64 m0, .int .i64 m1, .int .i64 m2, .int .i64 m3, .int .i64 m4, .int .u64 m5] 34)).heap.size = y at *
      have c0 := HX1.out.cell 0
      have c1 := HX1.out.cell 1
      have c2 := HX1.out.cell 2
      have c3 := HX1.out.cell 3
      have c4 := HX1.out.cell 4
      have c5 := HX1.out.cell 5
      simp only [List.getElem?_toArray, List.getElem?_cons_zero, List.getElem?_cons_succ] at c0 c1 c2 c3 c4 c5
      go_wp2_with fail
      refine (HEN.out _ _ HS1.out).mono ?_
      rintro e w2 ⟨o2, n2, hn2, rfl, hA⟩
      have HF2 := Lib.hid (hA.farB HB1.out.size (fun i hi => by cases hi))
      have HB2 := Lib.hid (hA.ke.bel HB1.out HYW.out (fun i hi => by cases hi))
      have HXY := Lib.hid (show xb ≠ y from fun e => by have h1 := HX1.out; have h2 := HS1.out.blk; rw [e] at h1; unfold Blk at h1 h2; rw [h1] at h2; simp at h2)
      have HX2 := Lib.hid (show Blk w2 xb 34 #[.int .i64 m0, .int .i64 m1, .int .i64 m2, .int .i64 m3, .int .i64 m4, .int .u64 m5] from (hA.ke.block xb HX1.out.lt HXY.out (by simp)).trans HX1.out)
      have HS2 := Lib.hid hA.rs
      have HN2 := Lib.hid hn2
      clear hA c0 c1 c2 c3 c4 c5 HB1 HX1 HS1 hn2 HEN
      have c0 := HX2.out.cell 0
      have c1 := HX2.out.cell 1
      have c2 := HX2.out.cell 2
      have c3 := HX2.out.cell 3
      have c4 := HX2.out.cell 4
      have c5 := HX2.out.cell 5
      simp only [List.getElem?_toArray, List.getElem?_cons_zero, List.getElem?_cons_succ] at c0 c1 c2 c3 c4 c5
      go_wp2_with fail
      refine (HR1.out _).mono ?_
      rintro e w3 ⟨rfl, hb⟩
      have HB3 := Lib.hid (below_trans HB2.out hb)
      have HX3 := Lib.hid (Blk.thru0 HX2.out hb)
      have HS3 := Lib.hid (HS2.out.below hb)
      clear hb c0 c1 c2 c3 c4 c5 HB2 HX2 HS2
      have hB := HB3.out
      have c0 := HX3.out.cell 0
      have c1 := HX3.out.cell 1
      have c2 := HX3.out.cell 2
      have c3 := HX3.out.cell 3
      have c4 := HX3.out.cell 4
      have c5 := HX3.out.cell 5
      simp only [List.getElem?_toArray, List.getElem?_cons_zero, List.getElem?_cons_succ] at c0 c1 c2 c3 c4 c5
      have zx := HX3.out.lt
      clear HX3 HS3 HB3
      go_upto_region 4 with fail
      go_region_held3 (fun w' => (w'.cell? ⟨xb, 0, none⟩ = some (.int .i64 m0)) ∧ (w'.cell? ⟨xb, 1, none⟩ = some (.int .i64 m1)) ∧ (w'.cell? ⟨xb, 2, none⟩ = some (.int .i64 m2)) ∧ (w'.cell? ⟨xb, 3, none⟩ = some (.int .i64 m3)) ∧ (w'.cell? ⟨xb, 4, none⟩ = some (.int .i64 m4)) ∧ (w'.cell? ⟨xb, 5, none⟩ = some (.int .u64 m5)) ∧ (Below w.heap.size w w')) (first | (go_split_ands; refine ⟨?_, ?_, ?_, ?_, ?_, ?_, ?_⟩ <;> first | (exact cell_later (by assumption) (by assumption)) | (exact below_then (by assumption) (by assumption)) | (go_grown; done) | go_keep)) (first | (go_at_call 18; refine (HR1.out _).mono ?_; rintro e w9 ⟨rfl, hb9⟩) | (go_at_call 19; refine (HR2.out _).mono ?_; rintro e w9 ⟨rfl, hb9⟩) | (go_at_call 16; refine (rknown_any _).mono ?_; rintro e w9 ⟨rfl, hb9⟩))
      all_goals
        rename_i hS
        have h9 := hS.2.2.2.2.2.2
        clear hS c0 c1 c2 c3 c4 c5 hB
        go_wp2
        go_ret
        exact ⟨rfl, h9⟩
    · have h300' : ¬ 300 < m.quota := h300
      have hm1 : 1 ≤ m.user := HRT.out.1
      have hq0 : 0 ≤ m.quota := HRT.out.2.2.2.2.2.2.1
      have HSP := Lib.hid (fun j hj => hq_spend m j hm1 hj)
      have HZE := Lib.hid (hq_zero m hm1)
      have HZH := Lib.hid (hq_zeroH m hm1)
      have HQU := Lib.hid (fun j => hq_quota m j hm1)
      have HM := Lib.hid (fun j => (rfl : Hq m j = Hq m j))
      obtain ⟨hq, hhq⟩ : ∃ hq, Hq m = hq := ⟨_, rfl⟩
      rw [hhq] at HSP HZE HZH HQU HHQ
      clear hr hhq HM h300
      obtain ⟨m0, m1, m2, m3, m4, m5⟩ := m
      simp only [Mb.V] at HR1 HR2 HEN HSP HZE HZH HQU HHQ HU
      simp only at h300' hq0 hm1
      go_enter Try.func4, Try.ntmps4
      have HX := Lib.hid (Blk.new w 34 #[.int .i64 m0, .int .i64 m1, .int .i64 m2, .int .i64 m3, .int .i64 m4, .int .u64 m5])
      have HB := Lib.hid (show Below w.heap.size w (w.alloc (.cells #[.int .i64 m0, .int .i64 m1, .int .i64 m2, .int .i64 m3, .int .i64 m4, .int .u64 m5] 34)) by go_grown)
      go_wp2_with fail
      refine (rnew_any _).mono ?_
      rintro e w1 ⟨rfl, hR, hb⟩
      obtain ⟨xb, hxb⟩ : ∃ xb, w.heap.size = xb := ⟨_, rfl⟩
      have HXB := Lib.hid hxb
      rw [hxb] at HX ⊢
      clear hxb
      have HB1 := Lib.hid (below_trans HB.out hb)
      have HX1 := Lib.hid (Blk.thru0 HX.out hb)
      have HS1 := Lib.hid hR
      have HYW := Lib.hid (show w.heap.size ≤ (w.alloc (.cells #[.int .i64 m0, .int .i64 m1, .int .i64 m2, .int .i64 m3, .int .i64 m4, .int .u64 m5] 34)).heap.size by simp)
      clear hR hb HX HB
      generalize (w.alloc (.cells #[.int .i64 m0, .int .i64 m1, .int .i64 m2, .int .i64 m3, .int .i64 m4, .int .u64 m5] 34)).heap.size = y at *
      have c0 := HX1.out.cell 0
      have c1 := HX1.out.cell 1
      have c2 := HX1.out.cell 2
      have c3 := HX1.out.cell 3
      have c4 := HX1.out.cell 4
      have c5 := HX1.out.cell 5
      simp only [List.getElem?_toArray, List.getElem?_cons_zero, List.getElem?_cons_succ] at c0 c1 c2 c3 c4 c5
      go_wp2_with fail
      refine (HEN.out _ _ HS1.out).mono ?_
      rintro e w2 ⟨o2, n2, hn2, rfl, hA⟩
      have HF2 := Lib.hid (hA.farB HB1.out.size (fun i hi => by cases hi))
      have HB2 := Lib.hid (hA.ke.bel HB1.out HYW.out (fun i hi => by cases hi))
      have HXY := Lib.hid (show xb ≠ y from fun e => by have h1 := HX1.out; have h2 := HS1.out.blk; rw [e] at h1; unfold Blk at h1 h2; rw [h1] at h2; simp at h2)
      have HX2 := Lib.hid (show Blk w2 xb 34 #[.int .i64 m0, .int .i64 m1, .int .i64 m2, .int .i64 m3, .int .i64 m4, .int .u64 m5] from (hA.ke.block xb HX1.out.lt HXY.out (by simp)).trans HX1.out)
      have HS2 := Lib.hid hA.rs
      have HN2 := Lib.hid hn2
      clear hA c0 c1 c2 c3 c4 c5 HB1 HX1 HS1 hn2 HEN
      have c0 := HX2.out.cell 0
      have c1 := HX2.out.cell 1
      have c2 := HX2.out.cell 2
      have c3 := HX2.out.cell 3
      have c4 := HX2.out.cell 4
      have c5 := HX2.out.cell 5
      simp only [List.getElem?_toArray, List.getElem?_cons_zero, List.getElem?_cons_succ] at c0 c1 c2 c3 c4 c5
      go_wp2_with fail
      refine (HR1.out _).mono ?_
      rintro e w3 ⟨rfl, hb⟩
      have HB3 := Lib.hid (below_trans HB2.out hb)
      have HX3 := Lib.hid (Blk.thru0 HX2.out hb)
      have HS3 := Lib.hid (HS2.out.below hb)
      clear hb c0 c1 c2 c3 c4 c5 HB2 HX2 HS2
      rw [HHQ.out] at HS3
      have c0 := HX3.out.cell 0
      have c1 := HX3.out.cell 1
      have c2 := HX3.out.cell 2
      have c3 := HX3.out.cell 3
      have c4 := HX3.out.cell 4
      have c5 := HX3.out.cell 5
      simp only [List.getElem?_toArray, List.getElem?_cons_zero, List.getElem?_cons_succ] at c0 c1 c2 c3 c4 c5
      go_upto_region 5 with fail
      clear c0 c1 c2 c3 c4 c5
      go_wp2_with fail
      go_loopw [5] (fun i wr => ∃ (k n' c' : Nat), (k : Int) ≤ m3 ∧ i = .int .i64 k ∧ n' ≤ k + 1 ∧ Hid (Below w.heap.size w wr) ∧ Hid (RS wr y o2 n' (hq (m3 - k)) c') ∧ Hid (Blk wr xb 34 #[.int .i64 m0, .int .i64 m1, .int .i64 m2, .int .i64 m3, .int .i64 m4, .int .u64 m5])) (fun i _ => m3.toNat - (intOf i).toNat)
      case atStart => exact ⟨0, n2, _, by omega, rfl, by have := HN2.out; omega, HB3.out, by simpa [Hid] using HS3.out, HX3.out⟩
      case round =>
        rename World => wr
        clear HB3 HS3 HX3
        obtain ⟨k, n', c', hk, rfl, hn', HB, HS, HX⟩ := hrel
        have c0 := HX.out.cell 0
        have c1 := HX.out.cell 1
        have c2 := HX.out.cell 2
        have c3 := HX.out.cell 3
        have c4 := HX.out.cell 4
        have c5 := HX.out.cell 5
        simp only [List.getElem?_toArray, List.getElem?_cons_zero, List.getElem?_cons_succ] at c0 c1 c2 c3 c4 c5
        have HXY2 := Lib.hid (show ∀ i, o2 = some i → xb = i → False from fun i e hi => by
          rcases HS.out.mp with ⟨h1, _⟩ | ⟨mp, h1, _, h3⟩
          · rw [h1] at e; cases e
          · rw [h1] at e; cases e
            obtain ⟨D, ⟨es, clock, hb, _⟩, _⟩ := h3
            have h4 := HX.out
            unfold Blk at h4
            rw [hi, hb] at h4
            cases h4)
        by_cases hlt : (k : Int) < m3
        · have hsp := HSP.out (m3 - k) (by omega)
          have HC := Lib.hid (spend_any wr y n' c' o2 (hq (m3 - k)) m0 HS.out HU.out (by omega))
          unfold ChP at HC
          rw [hsp.1, hsp.2] at HC
          clear hsp
          go_wp2_with fail
          refine HC.out.mono ?_
          rintro e w5 ⟨n5, hn5, rfl, hA⟩
          have HB5 := Lib.hid (hA.ke.bel HB.out HYW.out HF2.out)
          have HX5 := Lib.hid (show Blk w5 xb 34 #[.int .i64 m0, .int .i64 m1, .int .i64 m2, .int .i64 m3, .int .i64 m4, .int .u64 m5] from (hA.ke.block xb HX.out.lt HXY.out (fun e => HXY2.out xb e rfl)).trans HX.out)
          have HS5 := Lib.hid (show RS w5 y o2 n5 (hq (m3 - ((k + 1 : Nat) : Int))) c' by have h9 := hA.rs; rw [show m3 - (k : Int) - 1 = m3 - ((k + 1 : Nat) : Int) by omega] at h9; exact h9)
          clear hA c0 c1 c2 c3 c4 c5 HC
          have hk5 : n5 ≤ k + 1 + 1 := by omega
          go_wp2
          go_roundw
          case rel => exact ⟨k + 1, n5, c', by omega, by go_num, hk5, HB5, HS5, HX5⟩
          case measure => simp [intOf]; omega
        · obtain rfl : m3 = (k : Int) := by omega
          rw [Int.sub_self] at HS
          have HC := Lib.hid (spend_any wr y n' c' o2 (hq 0) m0 HS.out HU.out (by omega))
          unfold ChP at HC
          rw [HZE.out, HZH.out] at HC
          go_wp2_with fail
          refine HC.out.mono ?_
          rintro e w5 ⟨n5, hn5, rfl, hA⟩
          have HB5 := Lib.hid (hA.ke.bel HB.out HYW.out HF2.out)
          have HX5 := Lib.hid (show Blk w5 xb 34 #[.int .i64 m0, .int .i64 m1, .int .i64 m2, .int .i64 (k : Int), .int .i64 m4, .int .u64 m5] from (hA.ke.block xb HX.out.lt HXY.out (fun e => HXY2.out xb e rfl)).trans HX.out)
          have HS5 := Lib.hid hA.rs
          clear hA c0 c1 c2 c3 c4 c5 HC HB HX HS
          have HC := Lib.hid (quota_any w5 y n5 c' o2 (hq 0) m0 1 HS5.out HU.out (by omega))
          unfold ChP at HC
          rw [(HQU.out 0).1, (HQU.out 0).2] at HC
          have c0 := HX5.out.cell 0
          have c1 := HX5.out.cell 1
          have c2 := HX5.out.cell 2
          have c3 := HX5.out.cell 3
          have c4 := HX5.out.cell 4
          have c5 := HX5.out.cell 5
          simp only [List.getElem?_toArray, List.getElem?_cons_zero, List.getElem?_cons_succ] at c0 c1 c2 c3 c4 c5
          go_wp2_with fail
          refine HC.out.mono ?_
          rintro e w6 ⟨n6, hn6, rfl, hA⟩
          have HB6 := Lib.hid (hA.ke.bel HB5.out HYW.out HF2.out)
          have HX6 := Lib.hid (show Blk w6 xb 34 #[.int .i64 m0, .int .i64 m1, .int .i64 m2, .int .i64 (k : Int), .int .i64 m4, .int .u64 m5] from (hA.ke.block xb HX5.out.lt HXY.out (fun e => HXY2.out xb e rfl)).trans HX5.out)
          have HS6 := Lib.hid hA.rs
          clear hA c0 c1 c2 c3 c4 c5 HC HB5 HX5 HS5
          have HC := Lib.hid (spend_any w6 y n6 c' o2 (hq 1) m0 HS6.out HU.out (by omega))
          unfold ChP at HC
          rw [(HSP.out 1 (by decide)).1, (HSP.out 1 (by decide)).2] at HC
          have c0 := HX6.out.cell 0
          have c1 := HX6.out.cell 1
          have c2 := HX6.out.cell 2
          have c3 := HX6.out.cell 3
          have c4 := HX6.out.cell 4
          have c5 := HX6.out.cell 5
          simp only [List.getElem?_toArray, List.getElem?_cons_zero, List.getElem?_cons_succ] at c0 c1 c2 c3 c4 c5
          go_wp2_with fail
          refine HC.out.mono ?_
          rintro e w7 ⟨n7, hn7, rfl, hA⟩
          have HB7 := Lib.hid (hA.ke.bel HB6.out HYW.out HF2.out)
          clear hA c0 c1 c2 c3 c4 c5 HC HB6 HX6 HS6
          go_wp2_with fail
          refine (rknown_any _).mono ?_
          rintro e w8 ⟨rfl, hb⟩
          have HB8 := Lib.hid (below_trans HB7.out hb)
          clear hb
          go_wp2
          go_ret
          exact ⟨rfl, HB8.out⟩
theorem own : ownKnob Try.prog.godebug = none := by kernel_rfl
theorem laidOut : laidOutB Try.prog = true := by kernel_rfl
set_option maxRecDepth 100000 in
theorem lifted (os : Os) (started : os.Started) (H : Type) (enc : TypeId × Value → H) :
    ReturnsInHanded {} Try.checked os 4 .any (Rows.rosterQuotaSpec.pre6 enc Try.prog Try.f4 Rows.rosterQuotaRow.domain false) (Rows.rosterQuotaSpec.post enc Try.prog Try.f4 false true false false) := by
  refine returnsInHanded_of_change (C := Try.checked) own started (by kernel_rfl) Try.func4
    (ChangeSpec.witness6 (enc := enc) (C := Try.checked) false ⟨#[], #[wMb], []⟩ 8 (by kernel_rfl) (by kernel_rfl) (by kernel_rfl) (by kernel_rfl)) ?_
  intro W base args ds gs before hval0 hW hcnd _
  have hval : ∀ (j : Nat) t v, Try.f4.params[j]? = some t → args[j]? = some v → Value.okWide Try.prog W .any base t v := hval0
  have hW' := hW
  obtain ⟨p, q, hA0, hV, rfl, hfz, hnd⟩ := hW
  have hA : DataW.TrodAll enc Try.prog W 0 (fun _ => true) true Try.f4.params.toList args.toList ds p := hA0
  rw [Try.params4] at hA hval
  obtain ⟨v0, vs0, d0, ds0, p0, q0, hargs, rfl, rfl, h0, r0⟩ := trodAll_cons hA
  obtain ⟨rfl, rfl, rfl⟩ := trodAll_nil r0
  obtain rfl : args = #[v0] := by cases args; simp_all
  obtain ⟨rfl, rfl⟩ := trodVars_none hV
  have k0 := h0
  have lt0 : ∀ x ∈ p0, x.block < W.heap.size := by obtain ⟨m, hm⟩ := k0; exact DataW.trod_lt m _ _ _ hm
  obtain ⟨cs0, rfl, hc0⟩ := okWide_struct Try.underlying34 (hval 0 34 v0 rfl rfl)
  obtain ⟨a0, e0, w0⟩ : ∃ a, Value.agg cs0 = Mb.V a ∧ Mb.I a := by
    obtain ⟨fuel, hf⟩ := h0
    exact mb_of (cs := cs0) hf (by rw [hc0]; kernel_rfl)
  clear hA0 hval0
  have hw := walk a0 W w0
  rw [← e0] at hw
  refine hw.mono fun e W' ⟨he, bel⟩ => ?_
  subst he
  exact ⟨_, rfl, _, _, _, [], _, [], hW', trodAll_mk1 (shut_bool Try.underlying4 _), (trodAll_cons_mk (Below.trod laidOut (by kernel_rfl) (of_decide_eq_true (by kernel_rfl)) k0 bel lt0) trodAll_mk0), rfl, bel.frame _, fun h => by cases h⟩
theorem over : Rows.rosterQuotaRow.holds Try.pinned (OpenSpec.ofChange Rows.rosterQuotaSpec) :=
  OpenClaim.holds_of_wide 4 Try.f4 rfl rfl rfl rfl rfl rfl rfl ⟨rfl, rfl, rfl, rfl, rfl⟩ rfl rfl rfl rfl rfl (by kernel_rfl) Try.func4 (by kernel_rfl)
    (of_decide_eq_true (by kernel_rfl)) (by unfold Func.isWrapper; first | (rw [if_pos (by decide +kernel)]; kernel_rfl) | (rw [if_neg (by decide +kernel)]; exact ⟨rfl, rfl⟩))
    (fun os started H enc _ => lifted os started H enc)
/-- The statement. -/
theorem proved : Rows.RosterQuotaSaid := over
#print axioms proved
end Go.Proofs.Ytolbjlphpgfcpaa.rosterQuota
