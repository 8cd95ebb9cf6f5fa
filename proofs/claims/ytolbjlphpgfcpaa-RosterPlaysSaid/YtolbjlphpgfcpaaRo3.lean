/- roster: change with each of the three functions, by contract. -/
import Derived.Test.YtolbjlphpgfcpaaRo2
namespace Go.Proofs.Ytolbjlphpgfcpaa
set_option linter.unusedVariables false
set_option linter.unusedSimpArgs false
open Go.RowKit
set_option maxHeartbeats 1000000 in
theorem cright_any (w : World) (k : Int) (a : Nat) : Calls Try.prog 33 #[.agg #[.int .i64 k, .int .u64 a]] w fun e w' => e = .returned (.bool (wiB k 1 65535)) ∧ Below w.heap.size w w' := by
  unfold wiB
  by_cases h : 1 ≤ k
  · have hd : decide (1 ≤ k) = true := by simpa using h
    go_enter Try.func33, Try.ntmps33
    go_wp2
    go_ret
    exact ⟨by rw [hd, Bool.true_and]; rfl, by go_grown⟩
  · have hd : decide (1 ≤ k) = false := by simpa using h
    go_enter Try.func33, Try.ntmps33
    go_wp2
    go_ret
    exact ⟨by simp [hd], by go_grown⟩
theorem cright_lit (k : Int) (a : Nat) (r : Bool) (h : wiB k 1 65535 = r) : Hid (∀ w, Calls Try.prog 33 #[.agg #[.int .i64 k, .int .u64 a]] w fun e w' => e = .returned (.bool r) ∧ Below w.heap.size w w') := by
  intro w
  rw [← h]
  exact cright_any w k a
/-- What a change tells and makes. -/
def spM (m : Mb) : Mb := if m.quota = 0 then m else { m with quota := m.quota - 1 }
def spE (m : Mb) : Int := if m.quota = 0 then 41 else 0
def quM (n : Int) (m : Mb) : Mb := if m.user = 0 ∨ wiB n 0 65535 = false then m else { m with quota := n }
def quE (n : Int) (m : Mb) : Int := if m.user = 0 ∨ wiB n 0 65535 = false then 1 else 0
def prM (k : Int) (a : Nat) (m : Mb) : Mb := if m.user = 0 ∨ wiB k 1 65535 = false then m else { m with k := k, area := a }
def prE (k : Int) (m : Mb) : Int := if m.user = 0 ∨ wiB k 1 65535 = false then 1 else 0
set_option maxHeartbeats 4000000 in
theorem spendc_any (w : World) (m : Mb) (h1 : 0 ≤ m.quota) (h2 : m.quota ≤ 65535) : Calls Try.prog 30 #[m.V] w fun e w' => e = .returned (.tuple #[(spM m).V, .int .i64 (spE m)]) ∧ Below w.heap.size w w' := by
  obtain ⟨m0, m1, m2, m3, m4, m5⟩ := m
  simp only at h1 h2
  by_cases h : m3 = 0
  · have he : (m3 == 0) = true := by simpa using h
    rw [show spM ⟨m0, m1, m2, m3, m4, m5⟩ = ⟨m0, m1, m2, m3, m4, m5⟩ from if_pos h, show spE ⟨m0, m1, m2, m3, m4, m5⟩ = 41 from if_pos h]
    clear h
    go_enter Try.func30, Try.ntmps30
    go_wp2
    exact bodyPost_ret (v := .tuple #[Mb.V ⟨m0, m1, m2, m3, m4, m5⟩, .int .i64 41]) (by simp [results, Try.results30, go_sem]) rfl ⟨rfl, by go_grown⟩
  · have he : (m3 == 0) = false := by simpa using h
    rw [show spM ⟨m0, m1, m2, m3, m4, m5⟩ = ⟨m0, m1, m2, m3 - 1, m4, m5⟩ from if_neg h, show spE ⟨m0, m1, m2, m3, m4, m5⟩ = 0 from if_neg h]
    have h3 : 1 ≤ m3 := by omega
    clear h
    go_enter Try.func30, Try.ntmps30
    go_wp2
    exact bodyPost_ret (v := .tuple #[Mb.V ⟨m0, m1, m2, m3 - 1, m4, m5⟩, .int .i64 0]) (by simp [results, Try.results30, go_sem]) rfl ⟨rfl, by go_grown⟩
set_option maxRecDepth 100000 in
set_option maxHeartbeats 4000000 in
theorem quotac_any (w : World) (c : Nat) (n : Int) (m : Mb) (h : Blk w c 3 #[.int .i64 n]) : Calls Try.prog 31 #[m.V, ptrA c] w fun e w' => e = .returned (.tuple #[(quM n m).V, .int .i64 (quE n m)]) ∧ Below w.heap.size w w' := by
  obtain ⟨m0, m1, m2, m3, m4, m5⟩ := m
  have HC := Lib.hid h
  have hcz := h.lt
  clear h
  have HC2 := Lib.hid ((HC.out.alloc (.cells #[.int .i64 m0, .int .i64 m1, .int .i64 m2, .int .i64 m3, .int .i64 m4, .int .u64 m5] 34)).alloc (.cells #[.int .i64 0, .int .i64 0, .int .i64 0, .int .i64 0, .int .i64 0, .int .u64 0] 34))
  have c0 := HC2.out.cell 0
  have c1 := HC2.out.cell 1
  have HX := Lib.hid ((Blk.new w 34 #[.int .i64 m0, .int .i64 m1, .int .i64 m2, .int .i64 m3, .int .i64 m4, .int .u64 m5]).alloc (.cells #[.int .i64 0, .int .i64 0, .int .i64 0, .int .i64 0, .int .i64 0, .int .u64 0] 34))
  have HZ := Lib.hid (show Blk ((w.alloc (.cells #[.int .i64 m0, .int .i64 m1, .int .i64 m2, .int .i64 m3, .int .i64 m4, .int .u64 m5] 34)).alloc (.cells #[.int .i64 0, .int .i64 0, .int .i64 0, .int .i64 0, .int .i64 0, .int .u64 0] 34)) (w.heap.size + 1) 34 #[.int .i64 0, .int .i64 0, .int .i64 0, .int .i64 0, .int .i64 0, .int .u64 0] from Blk.newAt (by simp))
  have HB := Lib.hid (show Below w.heap.size w ((w.alloc (.cells #[.int .i64 m0, .int .i64 m1, .int .i64 m2, .int .i64 m3, .int .i64 m4, .int .u64 m5] 34)).alloc (.cells #[.int .i64 0, .int .i64 0, .int .i64 0, .int .i64 0, .int .i64 0, .int .u64 0] 34)) by go_grown)
  simp only [List.getElem?_toArray, List.getElem?_cons_zero, List.getElem?_cons_succ] at c0 c1
  by_cases h : m0 = 0
  · have he : (m0 == 0) = true := by simpa using h
    rw [show quM n ⟨m0, m1, m2, m3, m4, m5⟩ = ⟨m0, m1, m2, m3, m4, m5⟩ from if_pos (.inl h), show quE n ⟨m0, m1, m2, m3, m4, m5⟩ = 1 from if_pos (.inl h)]
    clear h
    go_enter Try.func31, Try.ntmps31
    go_wp2
    exact bodyPost_ret (v := .tuple #[Mb.V ⟨m0, m1, m2, m3, m4, m5⟩, .int .i64 1]) (by simp [results, Try.results31, go_sem]) rfl ⟨rfl, by go_grown⟩
  · have he : (m0 == 0) = false := by simpa using h
    cases hb : wiB n 0 65535 with
    | false =>
      rw [show quM n ⟨m0, m1, m2, m3, m4, m5⟩ = ⟨m0, m1, m2, m3, m4, m5⟩ from if_pos (.inr hb), show quE n ⟨m0, m1, m2, m3, m4, m5⟩ = 1 from if_pos (.inr hb)]
      have HR := within_lit n 0 65535 false hb
      clear h hb
      go_enter Try.func31, Try.ntmps31
      go_wp2_with fail
      refine (HR.out _).mono ?_
      rintro e w9 ⟨rfl, hw9⟩
      subst hw9
      have HB9 := HB
      clear HC HC2 HX HZ
      go_wp2
      exact bodyPost_ret (v := .tuple #[Mb.V ⟨m0, m1, m2, m3, m4, m5⟩, .int .i64 1]) (by simp [results, Try.results31, go_sem, *]) rfl ⟨rfl, by have h9 := HB9.out; go_grown⟩
    | true =>
      rw [show quM n ⟨m0, m1, m2, m3, m4, m5⟩ = ⟨m0, m1, m2, n, m4, m5⟩ from if_neg (by rintro (h1 | h1); exact h h1; rw [hb] at h1; cases h1), show quE n ⟨m0, m1, m2, m3, m4, m5⟩ = 0 from if_neg (by rintro (h1 | h1); exact h h1; rw [hb] at h1; cases h1)]
      have HR := within_lit n 0 65535 true hb
      clear h hb
      go_enter Try.func31, Try.ntmps31
      go_wp2_with fail
      refine (HR.out _).mono ?_
      rintro e w9 ⟨rfl, hw9⟩
      subst hw9
      have HB9 := HB
      clear HC HC2 HX HZ
      go_wp2
      exact bodyPost_ret (v := .tuple #[Mb.V ⟨m0, m1, m2, n, m4, m5⟩, .int .i64 0]) (by simp [results, Try.results31, go_sem, *]) rfl ⟨rfl, by have h9 := HB9.out; go_grown⟩
set_option maxRecDepth 100000 in
set_option maxHeartbeats 4000000 in
theorem profilec_any (w : World) (c : Nat) (k : Int) (a : Nat) (m : Mb) (h : Blk w c 32 #[.int .i64 k, .int .u64 a]) : Calls Try.prog 32 #[m.V, ptrA c] w fun e w' => e = .returned (.tuple #[(prM k a m).V, .int .i64 (prE k m)]) ∧ Below w.heap.size w w' := by
  obtain ⟨m0, m1, m2, m3, m4, m5⟩ := m
  have HC := Lib.hid h
  have hcz := h.lt
  clear h
  have HC2 := Lib.hid ((HC.out.alloc (.cells #[.int .i64 m0, .int .i64 m1, .int .i64 m2, .int .i64 m3, .int .i64 m4, .int .u64 m5] 34)).alloc (.cells #[.int .i64 0, .int .i64 0, .int .i64 0, .int .i64 0, .int .i64 0, .int .u64 0] 34))
  have c0 := HC2.out.cell 0
  have c1 := HC2.out.cell 1
  have HX := Lib.hid ((Blk.new w 34 #[.int .i64 m0, .int .i64 m1, .int .i64 m2, .int .i64 m3, .int .i64 m4, .int .u64 m5]).alloc (.cells #[.int .i64 0, .int .i64 0, .int .i64 0, .int .i64 0, .int .i64 0, .int .u64 0] 34))
  have HZ := Lib.hid (show Blk ((w.alloc (.cells #[.int .i64 m0, .int .i64 m1, .int .i64 m2, .int .i64 m3, .int .i64 m4, .int .u64 m5] 34)).alloc (.cells #[.int .i64 0, .int .i64 0, .int .i64 0, .int .i64 0, .int .i64 0, .int .u64 0] 34)) (w.heap.size + 1) 34 #[.int .i64 0, .int .i64 0, .int .i64 0, .int .i64 0, .int .i64 0, .int .u64 0] from Blk.newAt (by simp))
  have HB := Lib.hid (show Below w.heap.size w ((w.alloc (.cells #[.int .i64 m0, .int .i64 m1, .int .i64 m2, .int .i64 m3, .int .i64 m4, .int .u64 m5] 34)).alloc (.cells #[.int .i64 0, .int .i64 0, .int .i64 0, .int .i64 0, .int .i64 0, .int .u64 0] 34)) by go_grown)
  simp only [List.getElem?_toArray, List.getElem?_cons_zero, List.getElem?_cons_succ] at c0 c1
  by_cases h : m0 = 0
  · have he : (m0 == 0) = true := by simpa using h
    rw [show prM k a ⟨m0, m1, m2, m3, m4, m5⟩ = ⟨m0, m1, m2, m3, m4, m5⟩ from if_pos (.inl h), show prE k ⟨m0, m1, m2, m3, m4, m5⟩ = 1 from if_pos (.inl h)]
    clear h
    go_enter Try.func32, Try.ntmps32
    go_wp2
    exact bodyPost_ret (v := .tuple #[Mb.V ⟨m0, m1, m2, m3, m4, m5⟩, .int .i64 1]) (by simp [results, Try.results32, go_sem]) rfl ⟨rfl, by go_grown⟩
  · have he : (m0 == 0) = false := by simpa using h
    cases hb : wiB k 1 65535 with
    | false =>
      rw [show prM k a ⟨m0, m1, m2, m3, m4, m5⟩ = ⟨m0, m1, m2, m3, m4, m5⟩ from if_pos (.inr hb), show prE k ⟨m0, m1, m2, m3, m4, m5⟩ = 1 from if_pos (.inr hb)]
      have HR := cright_lit k a false hb
      clear h hb
      go_enter Try.func32, Try.ntmps32
      go_wp2_with fail
      refine (HR.out _).mono ?_
      rintro e w9 ⟨rfl, hb9⟩
      have HB9 := Lib.hid (below_trans HB.out hb9)
      have HC9 := Lib.hid (Blk.thru0 HC2.out hb9)
      have HX9 := Lib.hid (Blk.thru0 HX.out hb9)
      have HZ9 := Lib.hid (Blk.thru0 HZ.out hb9)
      have hz9 := HB9.out.size
      have hz8 := HZ9.out.lt
      clear hb9 HC HC2 HX HZ c0 c1
      have c0 := HC9.out.cell 0
      have c1 := HC9.out.cell 1
      have x0 := HX9.out.cell 0
      have x1 := HX9.out.cell 1
      have x2 := HX9.out.cell 2
      have x3 := HX9.out.cell 3
      have x4 := HX9.out.cell 4
      have x5 := HX9.out.cell 5
      have fx0 := HX9.out.frozen 0
      have fx1 := HX9.out.frozen 1
      have fx2 := HX9.out.frozen 2
      have fx3 := HX9.out.frozen 3
      have fx4 := HX9.out.frozen 4
      have fx5 := HX9.out.frozen 5
      have y0 := HZ9.out.cell 0
      have y1 := HZ9.out.cell 1
      have y2 := HZ9.out.cell 2
      have y3 := HZ9.out.cell 3
      have y4 := HZ9.out.cell 4
      have y5 := HZ9.out.cell 5
      have fy0 := HZ9.out.frozen 0
      have fy1 := HZ9.out.frozen 1
      have fy2 := HZ9.out.frozen 2
      have fy3 := HZ9.out.frozen 3
      have fy4 := HZ9.out.frozen 4
      have fy5 := HZ9.out.frozen 5
      simp only [List.getElem?_toArray, List.getElem?_cons_zero, List.getElem?_cons_succ] at c0 c1 x0 x1 x2 x3 x4 x5 y0 y1 y2 y3 y4 y5
      go_wp2
      exact bodyPost_ret (v := .tuple #[Mb.V ⟨m0, m1, m2, m3, m4, m5⟩, .int .i64 1]) (by simp [results, Try.results32, go_sem, *]) rfl ⟨rfl, by have h9 := HB9.out; go_grown⟩
    | true =>
      rw [show prM k a ⟨m0, m1, m2, m3, m4, m5⟩ = ⟨m0, m1, m2, m3, k, a⟩ from if_neg (by rintro (h1 | h1); exact h h1; rw [hb] at h1; cases h1), show prE k ⟨m0, m1, m2, m3, m4, m5⟩ = 0 from if_neg (by rintro (h1 | h1); exact h h1; rw [hb] at h1; cases h1)]
      have HR := cright_lit k a true hb
      clear h hb
      go_enter Try.func32, Try.ntmps32
      go_wp2_with fail
      refine (HR.out _).mono ?_
      rintro e w9 ⟨rfl, hb9⟩
      have HB9 := Lib.hid (below_trans HB.out hb9)
      have HC9 := Lib.hid (Blk.thru0 HC2.out hb9)
      have HX9 := Lib.hid (Blk.thru0 HX.out hb9)
      have HZ9 := Lib.hid (Blk.thru0 HZ.out hb9)
      have hz9 := HB9.out.size
      have hz8 := HZ9.out.lt
      clear hb9 HC HC2 HX HZ c0 c1
      have c0 := HC9.out.cell 0
      have c1 := HC9.out.cell 1
      have x0 := HX9.out.cell 0
      have x1 := HX9.out.cell 1
      have x2 := HX9.out.cell 2
      have x3 := HX9.out.cell 3
      have x4 := HX9.out.cell 4
      have x5 := HX9.out.cell 5
      have fx0 := HX9.out.frozen 0
      have fx1 := HX9.out.frozen 1
      have fx2 := HX9.out.frozen 2
      have fx3 := HX9.out.frozen 3
      have fx4 := HX9.out.frozen 4
      have fx5 := HX9.out.frozen 5
      have y0 := HZ9.out.cell 0
      have y1 := HZ9.out.cell 1
      have y2 := HZ9.out.cell 2
      have y3 := HZ9.out.cell 3
      have y4 := HZ9.out.cell 4
      have y5 := HZ9.out.cell 5
      have fy0 := HZ9.out.frozen 0
      have fy1 := HZ9.out.frozen 1
      have fy2 := HZ9.out.frozen 2
      have fy3 := HZ9.out.frozen 3
      have fy4 := HZ9.out.frozen 4
      have fy5 := HZ9.out.frozen 5
      simp only [List.getElem?_toArray, List.getElem?_cons_zero, List.getElem?_cons_succ] at c0 c1 x0 x1 x2 x3 x4 x5 y0 y1 y2 y3 y4 y5
      go_wp2
      exact bodyPost_ret (v := .tuple #[Mb.V ⟨m0, m1, m2, m3, k, a⟩, .int .i64 0]) (by simp [results, Try.results32, go_sem, *]) rfl ⟨rfl, by have h9 := HB9.out; go_grown⟩
end Go.Proofs.Ytolbjlphpgfcpaa
