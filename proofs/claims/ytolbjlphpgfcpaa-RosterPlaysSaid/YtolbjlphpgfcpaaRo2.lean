/- roster: Right by contract, the document's too. -/
import Derived.Test.YtolbjlphpgfcpaaRo1
namespace Go.Proofs.Ytolbjlphpgfcpaa
set_option linter.unusedVariables false
set_option linter.unusedSimpArgs false
open Go.RowKit
def wiB (a b c : Int) : Bool := decide (b ≤ a) && decide (a ≤ c)
theorem within_lit (a b c : Int) (r : Bool) (h : wiB a b c = r) : Hid (∀ w, Calls Try.prog 28 #[.int .i64 a, .int .i64 b, .int .i64 c] w fun e w' => e = .returned (.bool r) ∧ w = w') := by
  intro w
  rw [← h]
  exact within_any w a b c
theorem rightM_wi (m : Mb) : rightM m = (wiB m.user 1 65534 && wiB m.role 0 7 && wiB m.tier 0 7 && wiB m.quota 0 65535 && (decide (m.k = 0) && decide (m.area = 0))) := by
  simp only [rightM, wiB, Bool.and_assoc]
set_option maxHeartbeats 2000000 in
theorem rright_0 (m0 m1 m2 m3 m4 : Int) (m5 : Nat) (H0 : Hid (∀ w, Calls Try.prog 28 #[.int .i64 m0, .int .i64 1, .int .i64 65534] w fun e w' => e = .returned (.bool false) ∧ w = w'))  (w : World) : Calls Try.prog 19 #[.agg #[.int .i64 m0, .int .i64 m1, .int .i64 m2, .int .i64 m3, .int .i64 m4, .int .u64 m5]] w fun e w' => e = .returned (.bool false) ∧ Below w.heap.size w w' := by
  go_enter Try.func19, Try.ntmps19
  go_wp2_with fail
  refine (H0.out _).mono ?_
  rintro e w1 ⟨rfl, hw⟩
  subst hw
  go_wp2
  go_ret
  exact ⟨rfl, by go_grown⟩
set_option maxHeartbeats 2000000 in
theorem rright_1 (m0 m1 m2 m3 m4 : Int) (m5 : Nat) (H0 : Hid (∀ w, Calls Try.prog 28 #[.int .i64 m0, .int .i64 1, .int .i64 65534] w fun e w' => e = .returned (.bool true) ∧ w = w')) (H1 : Hid (∀ w, Calls Try.prog 28 #[.int .i64 m1, .int .i64 0, .int .i64 7] w fun e w' => e = .returned (.bool false) ∧ w = w'))  (w : World) : Calls Try.prog 19 #[.agg #[.int .i64 m0, .int .i64 m1, .int .i64 m2, .int .i64 m3, .int .i64 m4, .int .u64 m5]] w fun e w' => e = .returned (.bool false) ∧ Below w.heap.size w w' := by
  go_enter Try.func19, Try.ntmps19
  go_wp2_with fail
  refine (H0.out _).mono ?_
  rintro e w1 ⟨rfl, hw⟩
  subst hw
  go_wp2_with fail
  refine (H1.out _).mono ?_
  rintro e w2 ⟨rfl, hw⟩
  subst hw
  go_wp2
  go_ret
  exact ⟨rfl, by go_grown⟩
set_option maxHeartbeats 2000000 in
theorem rright_2 (m0 m1 m2 m3 m4 : Int) (m5 : Nat) (H0 : Hid (∀ w, Calls Try.prog 28 #[.int .i64 m0, .int .i64 1, .int .i64 65534] w fun e w' => e = .returned (.bool true) ∧ w = w')) (H1 : Hid (∀ w, Calls Try.prog 28 #[.int .i64 m1, .int .i64 0, .int .i64 7] w fun e w' => e = .returned (.bool true) ∧ w = w')) (H2 : Hid (∀ w, Calls Try.prog 28 #[.int .i64 m2, .int .i64 0, .int .i64 7] w fun e w' => e = .returned (.bool false) ∧ w = w'))  (w : World) : Calls Try.prog 19 #[.agg #[.int .i64 m0, .int .i64 m1, .int .i64 m2, .int .i64 m3, .int .i64 m4, .int .u64 m5]] w fun e w' => e = .returned (.bool false) ∧ Below w.heap.size w w' := by
  go_enter Try.func19, Try.ntmps19
  go_wp2_with fail
  refine (H0.out _).mono ?_
  rintro e w1 ⟨rfl, hw⟩
  subst hw
  go_wp2_with fail
  refine (H1.out _).mono ?_
  rintro e w2 ⟨rfl, hw⟩
  subst hw
  go_wp2_with fail
  refine (H2.out _).mono ?_
  rintro e w3 ⟨rfl, hw⟩
  subst hw
  go_wp2
  go_ret
  exact ⟨rfl, by go_grown⟩
set_option maxHeartbeats 2000000 in
theorem rright_3 (m0 m1 m2 m3 m4 : Int) (m5 : Nat) (H0 : Hid (∀ w, Calls Try.prog 28 #[.int .i64 m0, .int .i64 1, .int .i64 65534] w fun e w' => e = .returned (.bool true) ∧ w = w')) (H1 : Hid (∀ w, Calls Try.prog 28 #[.int .i64 m1, .int .i64 0, .int .i64 7] w fun e w' => e = .returned (.bool true) ∧ w = w')) (H2 : Hid (∀ w, Calls Try.prog 28 #[.int .i64 m2, .int .i64 0, .int .i64 7] w fun e w' => e = .returned (.bool true) ∧ w = w')) (H3 : Hid (∀ w, Calls Try.prog 28 #[.int .i64 m3, .int .i64 0, .int .i64 65535] w fun e w' => e = .returned (.bool false) ∧ w = w'))  (w : World) : Calls Try.prog 19 #[.agg #[.int .i64 m0, .int .i64 m1, .int .i64 m2, .int .i64 m3, .int .i64 m4, .int .u64 m5]] w fun e w' => e = .returned (.bool false) ∧ Below w.heap.size w w' := by
  go_enter Try.func19, Try.ntmps19
  go_wp2_with fail
  refine (H0.out _).mono ?_
  rintro e w1 ⟨rfl, hw⟩
  subst hw
  go_wp2_with fail
  refine (H1.out _).mono ?_
  rintro e w2 ⟨rfl, hw⟩
  subst hw
  go_wp2_with fail
  refine (H2.out _).mono ?_
  rintro e w3 ⟨rfl, hw⟩
  subst hw
  go_wp2_with fail
  refine (H3.out _).mono ?_
  rintro e w4 ⟨rfl, hw⟩
  subst hw
  go_wp2
  go_ret
  exact ⟨rfl, by go_grown⟩
set_option maxHeartbeats 2000000 in
theorem rright_k (m0 m1 m2 m3 m4 : Int) (m5 : Nat) (H0 : Hid (∀ w, Calls Try.prog 28 #[.int .i64 m0, .int .i64 1, .int .i64 65534] w fun e w' => e = .returned (.bool true) ∧ w = w')) (H1 : Hid (∀ w, Calls Try.prog 28 #[.int .i64 m1, .int .i64 0, .int .i64 7] w fun e w' => e = .returned (.bool true) ∧ w = w')) (H2 : Hid (∀ w, Calls Try.prog 28 #[.int .i64 m2, .int .i64 0, .int .i64 7] w fun e w' => e = .returned (.bool true) ∧ w = w')) (H3 : Hid (∀ w, Calls Try.prog 28 #[.int .i64 m3, .int .i64 0, .int .i64 65535] w fun e w' => e = .returned (.bool true) ∧ w = w')) (hk : (m4 == 0) = false) (w : World) : Calls Try.prog 19 #[.agg #[.int .i64 m0, .int .i64 m1, .int .i64 m2, .int .i64 m3, .int .i64 m4, .int .u64 m5]] w fun e w' => e = .returned (.bool false) ∧ Below w.heap.size w w' := by
  go_enter Try.func19, Try.ntmps19
  go_wp2_with fail
  refine (H0.out _).mono ?_
  rintro e w1 ⟨rfl, hw⟩
  subst hw
  go_wp2_with fail
  refine (H1.out _).mono ?_
  rintro e w2 ⟨rfl, hw⟩
  subst hw
  go_wp2_with fail
  refine (H2.out _).mono ?_
  rintro e w3 ⟨rfl, hw⟩
  subst hw
  go_wp2_with fail
  refine (H3.out _).mono ?_
  rintro e w4 ⟨rfl, hw⟩
  subst hw
  go_wp2
  go_ret
  exact ⟨rfl, by go_grown⟩
set_option maxHeartbeats 2000000 in
theorem rright_a (m0 m1 m2 m3 m4 : Int) (m5 : Nat) (H0 : Hid (∀ w, Calls Try.prog 28 #[.int .i64 m0, .int .i64 1, .int .i64 65534] w fun e w' => e = .returned (.bool true) ∧ w = w')) (H1 : Hid (∀ w, Calls Try.prog 28 #[.int .i64 m1, .int .i64 0, .int .i64 7] w fun e w' => e = .returned (.bool true) ∧ w = w')) (H2 : Hid (∀ w, Calls Try.prog 28 #[.int .i64 m2, .int .i64 0, .int .i64 7] w fun e w' => e = .returned (.bool true) ∧ w = w')) (H3 : Hid (∀ w, Calls Try.prog 28 #[.int .i64 m3, .int .i64 0, .int .i64 65535] w fun e w' => e = .returned (.bool true) ∧ w = w')) (hk : (m4 == 0) = true) (ha : ((m5 : Int) == 0) = false) (w : World) : Calls Try.prog 19 #[.agg #[.int .i64 m0, .int .i64 m1, .int .i64 m2, .int .i64 m3, .int .i64 m4, .int .u64 m5]] w fun e w' => e = .returned (.bool false) ∧ Below w.heap.size w w' := by
  go_enter Try.func19, Try.ntmps19
  go_wp2_with fail
  refine (H0.out _).mono ?_
  rintro e w1 ⟨rfl, hw⟩
  subst hw
  go_wp2_with fail
  refine (H1.out _).mono ?_
  rintro e w2 ⟨rfl, hw⟩
  subst hw
  go_wp2_with fail
  refine (H2.out _).mono ?_
  rintro e w3 ⟨rfl, hw⟩
  subst hw
  go_wp2_with fail
  refine (H3.out _).mono ?_
  rintro e w4 ⟨rfl, hw⟩
  subst hw
  go_wp2
  go_ret
  exact ⟨rfl, by go_grown⟩
set_option maxHeartbeats 2000000 in
theorem rright_y (m0 m1 m2 m3 m4 : Int) (m5 : Nat) (H0 : Hid (∀ w, Calls Try.prog 28 #[.int .i64 m0, .int .i64 1, .int .i64 65534] w fun e w' => e = .returned (.bool true) ∧ w = w')) (H1 : Hid (∀ w, Calls Try.prog 28 #[.int .i64 m1, .int .i64 0, .int .i64 7] w fun e w' => e = .returned (.bool true) ∧ w = w')) (H2 : Hid (∀ w, Calls Try.prog 28 #[.int .i64 m2, .int .i64 0, .int .i64 7] w fun e w' => e = .returned (.bool true) ∧ w = w')) (H3 : Hid (∀ w, Calls Try.prog 28 #[.int .i64 m3, .int .i64 0, .int .i64 65535] w fun e w' => e = .returned (.bool true) ∧ w = w')) (hk : (m4 == 0) = true) (ha : ((m5 : Int) == 0) = true) (w : World) : Calls Try.prog 19 #[.agg #[.int .i64 m0, .int .i64 m1, .int .i64 m2, .int .i64 m3, .int .i64 m4, .int .u64 m5]] w fun e w' => e = .returned (.bool true) ∧ Below w.heap.size w w' := by
  go_enter Try.func19, Try.ntmps19
  go_wp2_with fail
  refine (H0.out _).mono ?_
  rintro e w1 ⟨rfl, hw⟩
  subst hw
  go_wp2_with fail
  refine (H1.out _).mono ?_
  rintro e w2 ⟨rfl, hw⟩
  subst hw
  go_wp2_with fail
  refine (H2.out _).mono ?_
  rintro e w3 ⟨rfl, hw⟩
  subst hw
  go_wp2_with fail
  refine (H3.out _).mono ?_
  rintro e w4 ⟨rfl, hw⟩
  subst hw
  go_wp2
  go_ret
  exact ⟨rfl, by go_grown⟩
theorem rright_any (m : Mb) (w : World) : Calls Try.prog 19 #[m.V] w fun e w' => e = .returned (.bool (rightM m)) ∧ Below w.heap.size w w' := by
  rw [rightM_wi]
  obtain ⟨m0, m1, m2, m3, m4, m5⟩ := m
  simp only [Mb.V]
  cases h0 : wiB m0 1 65534 with
  | false => simpa using rright_0 (m0 := m0) (m1 := m1) (m2 := m2) (m3 := m3) (m4 := m4) (m5 := m5) (H0 := within_lit _ _ _ _ h0) (w := w)
  | true =>
    cases h1 : wiB m1 0 7 with
    | false => simpa using rright_1 (m0 := m0) (m1 := m1) (m2 := m2) (m3 := m3) (m4 := m4) (m5 := m5) (H0 := within_lit _ _ _ _ h0) (H1 := within_lit _ _ _ _ h1) (w := w)
    | true =>
      cases h2 : wiB m2 0 7 with
      | false => simpa using rright_2 (m0 := m0) (m1 := m1) (m2 := m2) (m3 := m3) (m4 := m4) (m5 := m5) (H0 := within_lit _ _ _ _ h0) (H1 := within_lit _ _ _ _ h1) (H2 := within_lit _ _ _ _ h2) (w := w)
      | true =>
        cases h3 : wiB m3 0 65535 with
        | false => simpa using rright_3 (m0 := m0) (m1 := m1) (m2 := m2) (m3 := m3) (m4 := m4) (m5 := m5) (H0 := within_lit _ _ _ _ h0) (H1 := within_lit _ _ _ _ h1) (H2 := within_lit _ _ _ _ h2) (H3 := within_lit _ _ _ _ h3) (w := w)
        | true =>
          by_cases h4 : m4 = 0
          · by_cases h5 : m5 = 0
            · have e4 : decide (m4 = 0) = true := by simpa using h4
              have e5 : decide (m5 = 0) = true := by simpa using h5
              rw [e4, e5]
              simpa using rright_y (m0 := m0) (m1 := m1) (m2 := m2) (m3 := m3) (m4 := m4) (m5 := m5) (H0 := within_lit _ _ _ _ h0) (H1 := within_lit _ _ _ _ h1) (H2 := within_lit _ _ _ _ h2) (H3 := within_lit _ _ _ _ h3) (hk := by simpa using h4) (ha := by simpa using h5) (w := w)
            · have e4 : decide (m4 = 0) = true := by simpa using h4
              have e5 : decide (m5 = 0) = false := by simpa using h5
              rw [e4, e5]
              simpa using rright_a (m0 := m0) (m1 := m1) (m2 := m2) (m3 := m3) (m4 := m4) (m5 := m5) (H0 := within_lit _ _ _ _ h0) (H1 := within_lit _ _ _ _ h1) (H2 := within_lit _ _ _ _ h2) (H3 := within_lit _ _ _ _ h3) (hk := by simpa using h4) (ha := by simpa using h5) (w := w)
          · have e4 : decide (m4 = 0) = false := by simpa using h4
            rw [e4]
            simpa using rright_k (m0 := m0) (m1 := m1) (m2 := m2) (m3 := m3) (m4 := m4) (m5 := m5) (H0 := within_lit _ _ _ _ h0) (H1 := within_lit _ _ _ _ h1) (H2 := within_lit _ _ _ _ h2) (H3 := within_lit _ _ _ _ h3) (hk := by simpa using h4) (w := w)
set_option maxRecDepth 100000 in
set_option maxHeartbeats 8000000 in
theorem refright_any (m : Mb) (w : World) : Calls Try.prog 18 #[m.V] w fun e w' => e = .returned (.bool (rightM m)) ∧ Below w.heap.size w w' := by
  obtain ⟨m0, m1, m2, m3, m4, m5⟩ := m
  simp only [Mb.V]
  by_cases h0 : 1 ≤ m0
  case neg =>
    have HE := Lib.hid (show rightM ⟨m0, m1, m2, m3, m4, m5⟩ = false by simp only [rightM, h0, decide_false, Bool.and_false, Bool.false_and])
    have t0 : m0 < 1 := by omega
    clear h0
    go_enter Try.func18, Try.ntmps18
    go_wp2
    go_ret
    exact ⟨by rw [HE.out]; rfl, by go_grown⟩
  have t0 : 1 ≤ m0 := h0
  by_cases h1 : m0 ≤ 65534
  case neg =>
    have HE := Lib.hid (show rightM ⟨m0, m1, m2, m3, m4, m5⟩ = false by simp only [rightM, h1, decide_false, Bool.and_false, Bool.false_and])
    have t1 : 65534 < m0 := by omega
    clear h1
    go_enter Try.func18, Try.ntmps18
    go_wp2
    go_ret
    exact ⟨by rw [HE.out]; rfl, by go_grown⟩
  have t1 : m0 ≤ 65534 := h1
  by_cases h2 : 0 ≤ m1
  case neg =>
    have HE := Lib.hid (show rightM ⟨m0, m1, m2, m3, m4, m5⟩ = false by simp only [rightM, h2, decide_false, Bool.and_false, Bool.false_and])
    have t2 : m1 < 0 := by omega
    clear h2
    go_enter Try.func18, Try.ntmps18
    go_wp2
    go_ret
    exact ⟨by rw [HE.out]; rfl, by go_grown⟩
  have t2 : 0 ≤ m1 := h2
  by_cases h3 : m1 ≤ 7
  case neg =>
    have HE := Lib.hid (show rightM ⟨m0, m1, m2, m3, m4, m5⟩ = false by simp only [rightM, h3, decide_false, Bool.and_false, Bool.false_and])
    have t3 : 7 < m1 := by omega
    clear h3
    go_enter Try.func18, Try.ntmps18
    go_wp2
    go_ret
    exact ⟨by rw [HE.out]; rfl, by go_grown⟩
  have t3 : m1 ≤ 7 := h3
  by_cases h4 : 0 ≤ m2
  case neg =>
    have HE := Lib.hid (show rightM ⟨m0, m1, m2, m3, m4, m5⟩ = false by simp only [rightM, h4, decide_false, Bool.and_false, Bool.false_and])
    have t4 : m2 < 0 := by omega
    clear h4
    go_enter Try.func18, Try.ntmps18
    go_wp2
    go_ret
    exact ⟨by rw [HE.out]; rfl, by go_grown⟩
  have t4 : 0 ≤ m2 := h4
  by_cases h5 : m2 ≤ 7
  case neg =>
    have HE := Lib.hid (show rightM ⟨m0, m1, m2, m3, m4, m5⟩ = false by simp only [rightM, h5, decide_false, Bool.and_false, Bool.false_and])
    have t5 : 7 < m2 := by omega
    clear h5
    go_enter Try.func18, Try.ntmps18
    go_wp2
    go_ret
    exact ⟨by rw [HE.out]; rfl, by go_grown⟩
  have t5 : m2 ≤ 7 := h5
  by_cases h6 : 0 ≤ m3
  case neg =>
    have HE := Lib.hid (show rightM ⟨m0, m1, m2, m3, m4, m5⟩ = false by simp only [rightM, h6, decide_false, Bool.and_false, Bool.false_and])
    have t6 : m3 < 0 := by omega
    clear h6
    go_enter Try.func18, Try.ntmps18
    go_wp2
    go_ret
    exact ⟨by rw [HE.out]; rfl, by go_grown⟩
  have t6 : 0 ≤ m3 := h6
  by_cases h7 : m3 ≤ 65535
  case neg =>
    have HE := Lib.hid (show rightM ⟨m0, m1, m2, m3, m4, m5⟩ = false by simp only [rightM, h7, decide_false, Bool.and_false, Bool.false_and])
    have t7 : 65535 < m3 := by omega
    clear h7
    go_enter Try.func18, Try.ntmps18
    go_wp2
    go_ret
    exact ⟨by rw [HE.out]; rfl, by go_grown⟩
  have t7 : m3 ≤ 65535 := h7
  by_cases h8 : m4 = 0
  case neg =>
    have HE := Lib.hid (show rightM ⟨m0, m1, m2, m3, m4, m5⟩ = false by simp only [rightM, h8, decide_false, Bool.and_false, Bool.false_and])
    have t8 : (m4 == 0) = false := by simpa using h8
    clear h8
    go_enter Try.func18, Try.ntmps18
    go_wp2
    go_ret
    exact ⟨by rw [HE.out]; rfl, by go_grown⟩
  have t8 : (m4 == 0) = true := by simpa using h8
  by_cases h9 : m5 = 0
  case neg =>
    have HE := Lib.hid (show rightM ⟨m0, m1, m2, m3, m4, m5⟩ = false by simp only [rightM, h9, decide_false, Bool.and_false, Bool.false_and])
    have t9 : ((m5 : Int) == 0) = false := by simpa using h9
    clear h9
    go_enter Try.func18, Try.ntmps18
    go_wp2
    go_ret
    exact ⟨by rw [HE.out]; rfl, by go_grown⟩
  have t9 : ((m5 : Int) == 0) = true := by simpa using h9
  have HE := Lib.hid (show rightM ⟨m0, m1, m2, m3, m4, m5⟩ = true by simp only [rightM, h0, h1, h2, h3, h4, h5, h6, h7, h8, h9, decide_true, Bool.and_true])
  clear h8 h9
  go_enter Try.func18, Try.ntmps18
  go_wp2
  go_ret
  exact ⟨by rw [HE.out]; rfl, by go_grown⟩
end Go.Proofs.Ytolbjlphpgfcpaa
