/- cell.Child, Beside, Over by contract. -/
import Derived.Test.YtpbnbnhmlpjbjaaCellRight
import Derived.IntWalk
import Derived.Laws.BitsAllLaws
import Derived.Laws.BitsLemmas
import Derived.Deep.RegionWith
import Derived.Deep.RegionHeld3
namespace Go.Proofs.Ytpbnbnhmlpjbjaa
set_option linter.unusedVariables false
set_option linter.unusedSimpArgs false
open Go.RowKit
theorem ofInt_i64 (a : Nat) (ha : a < 9223372036854775808) : (BitVec.ofInt 64 (a : Int)).toNat = a := by
  rw [BitVec.ofInt_natCast, BitVec.toNat_ofNat]; exact Nat.mod_eq_of_lt (by omega)
theorem i64_xor_nat (a b : Nat) (ha : a < 9223372036854775808) (hb : b < 9223372036854775808) : bits .xor .i64 (a : Int) (b : Int) = ((a ^^^ b : Nat) : Int) := by
  have hx : a ^^^ b < 2 ^ 63 := Nat.xor_lt_two_pow (by omega) (by omega)
  show IntKind.i64.wrap ((BitVec.ofInt 64 (a : Int) ^^^ BitVec.ofInt 64 (b : Int)).toNat : Int) = _
  rw [BitVec.toNat_xor, ofInt_i64 a ha, ofInt_i64 b hb, IntKind.wrap_i64]
  omega
theorem xor_oth (x : Int) (h0 : 0 ≤ x) (h1 : x < 65536) : bits .xor .i64 x 1 = oth x := by
  obtain ⟨n, rfl⟩ := Int.eq_ofNat_of_zero_le h0
  have := i64_xor_nat n 1 (by omega) (by omega)
  rw [xor_one] at this
  have e : ((1 : Nat) : Int) = 1 := rfl
  rw [e] at this
  rw [this]
  unfold oth
  split <;> split <;> omega
theorem okC_16 (L x y : Int) (h : okC L x y = true) : 0 ≤ L ∧ L ≤ 16 ∧ 0 ≤ x ∧ x < 65536 ∧ 0 ≤ y ∧ y < 65536 := by
  obtain ⟨h0, h1, h2, h3, h4, h5⟩ := (okC_iff _ _ _).1 h
  have := pow_le16 L.toNat (by omega)
  omega
set_option maxHeartbeats 1000000 in
theorem cchild_yes (L x y i : Int) (h : okC L x y = true) (hL : L ≠ 16) (h0 : 0 ≤ i) (h3 : i ≤ 3) (w : World) :
    Calls Try.prog 21 #[.agg #[.int .i64 L, .int .i64 x, .int .i64 y], .int .i64 i] w fun e w' => e = .returned (.tuple #[.agg #[.int .i64 (L + 1), .int .i64 (2 * x + i % 2), .int .i64 (2 * y + i / 2)], .bool true]) ∧ Below w.heap.size w w' := by
  obtain ⟨l0, l1, x0, x1, y0, y1⟩ := okC_16 L x y h
  have hne : (L == 16) = false := by simpa using hL
  have hge : ¬ (4 ≤ i) := by omega
  clear hL
  go_enter Try.func21, Try.ntmps21
  go_wp2_with ((go_at_call 16; refine (cright_any _ _ _ _).mono ?_; rintro e w1 ⟨rfl, hb⟩; have hB : Below w.heap.size w w1 := below_trans (by go_grown) hb; have hz := hb.size; (try simp at hz); obtain ⟨hc, hf⟩ := bcell hb; have hz0 : w.heap.size < w1.heap.size := (by omega); have hz1 : w.heap.size + 1 < w1.heap.size := (by omega)))
  first | (go_quiet (fail); go_wp2) | skip
  refine bodyPost_ret (v := .tuple #[.agg #[.int .i64 (L + 1), .int .i64 (2 * x + i % 2), .int .i64 (2 * y + i / 2)], .bool true]) ?_ rfl ⟨rfl, ?_⟩
  · simp [results, Try.results21, go_sem, *]
  · first | (go_grown; done) | exact below_drawn (by go_grown) _
set_option maxHeartbeats 1000000 in
theorem cchild_no1 (L x y i : Int) (h : okC L x y = false) (w : World) :
    Calls Try.prog 21 #[.agg #[.int .i64 L, .int .i64 x, .int .i64 y], .int .i64 i] w fun e w' => e = .returned (.tuple #[.agg #[.int .i64 0, .int .i64 0, .int .i64 0], .bool false]) ∧ Below w.heap.size w w' := by
  go_enter Try.func21, Try.ntmps21
  go_wp2_with ((go_at_call 16; refine (cright_any _ _ _ _).mono ?_; rintro e w1 ⟨rfl, hb⟩; have hB : Below w.heap.size w w1 := below_trans (by go_grown) hb; have hz := hb.size; (try simp at hz); obtain ⟨hc, hf⟩ := bcell hb; have hz0 : w.heap.size < w1.heap.size := (by omega); have hz1 : w.heap.size + 1 < w1.heap.size := (by omega)))
  refine bodyPost_ret (v := .tuple #[.agg #[.int .i64 0, .int .i64 0, .int .i64 0], .bool false]) ?_ rfl ⟨rfl, ?_⟩
  · simp [results, Try.results21, go_sem, *]
  · first | (go_grown; done) | exact below_drawn (by go_grown) _
set_option maxHeartbeats 1000000 in
theorem cchild_no2 (L x y i : Int) (h : okC L x y = true) (hL : L = 16) (w : World) :
    Calls Try.prog 21 #[.agg #[.int .i64 L, .int .i64 x, .int .i64 y], .int .i64 i] w fun e w' => e = .returned (.tuple #[.agg #[.int .i64 0, .int .i64 0, .int .i64 0], .bool false]) ∧ Below w.heap.size w w' := by
  subst hL
  go_enter Try.func21, Try.ntmps21
  go_wp2_with ((go_at_call 16; refine (cright_any _ _ _ _).mono ?_; rintro e w1 ⟨rfl, hb⟩; have hB : Below w.heap.size w w1 := below_trans (by go_grown) hb; have hz := hb.size; (try simp at hz); obtain ⟨hc, hf⟩ := bcell hb; have hz0 : w.heap.size < w1.heap.size := (by omega); have hz1 : w.heap.size + 1 < w1.heap.size := (by omega)))
  refine bodyPost_ret (v := .tuple #[.agg #[.int .i64 0, .int .i64 0, .int .i64 0], .bool false]) ?_ rfl ⟨rfl, ?_⟩
  · simp [results, Try.results21, go_sem, *]
  · first | (go_grown; done) | exact below_drawn (by go_grown) _
set_option maxHeartbeats 1000000 in
theorem cchild_no3 (L x y i : Int) (h : okC L x y = true) (hL : L ≠ 16) (h0 : i < 0) (w : World) :
    Calls Try.prog 21 #[.agg #[.int .i64 L, .int .i64 x, .int .i64 y], .int .i64 i] w fun e w' => e = .returned (.tuple #[.agg #[.int .i64 0, .int .i64 0, .int .i64 0], .bool false]) ∧ Below w.heap.size w w' := by
  have hne : (L == 16) = false := by simpa using hL
  clear hL
  go_enter Try.func21, Try.ntmps21
  go_wp2_with ((go_at_call 16; refine (cright_any _ _ _ _).mono ?_; rintro e w1 ⟨rfl, hb⟩; have hB : Below w.heap.size w w1 := below_trans (by go_grown) hb; have hz := hb.size; (try simp at hz); obtain ⟨hc, hf⟩ := bcell hb; have hz0 : w.heap.size < w1.heap.size := (by omega); have hz1 : w.heap.size + 1 < w1.heap.size := (by omega)))
  refine bodyPost_ret (v := .tuple #[.agg #[.int .i64 0, .int .i64 0, .int .i64 0], .bool false]) ?_ rfl ⟨rfl, ?_⟩
  · simp [results, Try.results21, go_sem, *]
  · first | (go_grown; done) | exact below_drawn (by go_grown) _
set_option maxHeartbeats 1000000 in
theorem cchild_no4 (L x y i : Int) (h : okC L x y = true) (hL : L ≠ 16) (h0 : 0 ≤ i) (h3 : 3 < i) (w : World) :
    Calls Try.prog 21 #[.agg #[.int .i64 L, .int .i64 x, .int .i64 y], .int .i64 i] w fun e w' => e = .returned (.tuple #[.agg #[.int .i64 0, .int .i64 0, .int .i64 0], .bool false]) ∧ Below w.heap.size w w' := by
  have hne : (L == 16) = false := by simpa using hL
  have hge : 4 ≤ i := by omega
  clear hL
  go_enter Try.func21, Try.ntmps21
  go_wp2_with ((go_at_call 16; refine (cright_any _ _ _ _).mono ?_; rintro e w1 ⟨rfl, hb⟩; have hB : Below w.heap.size w w1 := below_trans (by go_grown) hb; have hz := hb.size; (try simp at hz); obtain ⟨hc, hf⟩ := bcell hb; have hz0 : w.heap.size < w1.heap.size := (by omega); have hz1 : w.heap.size + 1 < w1.heap.size := (by omega)))
  refine bodyPost_ret (v := .tuple #[.agg #[.int .i64 0, .int .i64 0, .int .i64 0], .bool false]) ?_ rfl ⟨rfl, ?_⟩
  · simp [results, Try.results21, go_sem, *]
  · first | (go_grown; done) | exact below_drawn (by go_grown) _
theorem cchild_u (L x y i : Int) (w : World) : Calls Try.prog 21 #[.agg #[.int .i64 L, .int .i64 x, .int .i64 y], .int .i64 i] w fun e w' => e = .returned (.tuple #[.agg #[.int .i64 (c0 L x y i), .int .i64 (c1 L x y i), .int .i64 (c2 L x y i)], .bool (okK L x y i)]) ∧ Below w.heap.size w w' := by
  rcases Bool.eq_false_or_eq_true (okC L x y) with h | h
  · by_cases hL : L = 16
    · have hk : okK L x y i = false := by rw [okK, h, show decide (L ≠ 16 ∧ 0 ≤ i ∧ i ≤ 3) = false from decide_eq_false (by omega)]; rfl
      have := cchild_no2 L x y i h hL w
      simpa [c0, c1, c2, hk] using this
    · by_cases h0 : i < 0
      · have hk : okK L x y i = false := by rw [okK, h, show decide (L ≠ 16 ∧ 0 ≤ i ∧ i ≤ 3) = false from decide_eq_false (by omega)]; rfl
        have := cchild_no3 L x y i h hL h0 w
        simpa [c0, c1, c2, hk] using this
      · by_cases h3 : 3 < i
        · have hk : okK L x y i = false := by rw [okK, h, show decide (L ≠ 16 ∧ 0 ≤ i ∧ i ≤ 3) = false from decide_eq_false (by omega)]; rfl
          have := cchild_no4 L x y i h hL (by omega) h3 w
          simpa [c0, c1, c2, hk] using this
        · have hk : okK L x y i = true := by rw [okK, h, show decide (L ≠ 16 ∧ 0 ≤ i ∧ i ≤ 3) = true from decide_eq_true (by omega)]; rfl
          have := cchild_yes L x y i h hL (by omega) (by omega) w
          simpa [c0, c1, c2, hk] using this
  · have hk : okK L x y i = false := by rw [okK, h]; rfl
    have := cchild_no1 L x y i h w
    simpa [c0, c1, c2, hk] using this
set_option maxHeartbeats 1000000 in
theorem cbeside_yes (L x y : Int) (h : okC L x y = true) (hL : L ≠ 0) (w : World) :
    Calls Try.prog 23 #[.agg #[.int .i64 L, .int .i64 x, .int .i64 y]] w fun e w' => e = .returned (.tuple #[.agg #[.int .i64 L, .int .i64 (oth x), .int .i64 y], .bool true]) ∧ Below w.heap.size w w' := by
  obtain ⟨l0, l1, x0, x1, y0, y1⟩ := okC_16 L x y h
  have hne : (L == 0) = false := by simpa using hL
  have hxo := xor_oth x x0 x1
  clear hL
  go_enter Try.func23, Try.ntmps23
  go_wp2_with ((go_at_call 16; refine (cright_any _ _ _ _).mono ?_; rintro e w1 ⟨rfl, hb⟩; have hB : Below w.heap.size w w1 := below_trans (by go_grown) hb; have hz := hb.size; (try simp at hz); obtain ⟨hc, hf⟩ := bcell hb; have hz0 : w.heap.size < w1.heap.size := (by omega); have hz1 : w.heap.size + 1 < w1.heap.size := (by omega)))
  first | (go_quiet (fail); go_wp2) | skip
  refine bodyPost_ret (v := .tuple #[.agg #[.int .i64 L, .int .i64 (oth x), .int .i64 y], .bool true]) ?_ rfl ⟨rfl, ?_⟩
  · simp [results, Try.results23, go_sem, *]
  · first | (go_grown; done) | exact below_drawn (by go_grown) _
set_option maxHeartbeats 1000000 in
theorem cbeside_no1 (L x y : Int) (h : okC L x y = false) (w : World) :
    Calls Try.prog 23 #[.agg #[.int .i64 L, .int .i64 x, .int .i64 y]] w fun e w' => e = .returned (.tuple #[.agg #[.int .i64 0, .int .i64 0, .int .i64 0], .bool false]) ∧ Below w.heap.size w w' := by
  go_enter Try.func23, Try.ntmps23
  go_wp2_with ((go_at_call 16; refine (cright_any _ _ _ _).mono ?_; rintro e w1 ⟨rfl, hb⟩; have hB : Below w.heap.size w w1 := below_trans (by go_grown) hb; have hz := hb.size; (try simp at hz); obtain ⟨hc, hf⟩ := bcell hb; have hz0 : w.heap.size < w1.heap.size := (by omega); have hz1 : w.heap.size + 1 < w1.heap.size := (by omega)))
  refine bodyPost_ret (v := .tuple #[.agg #[.int .i64 0, .int .i64 0, .int .i64 0], .bool false]) ?_ rfl ⟨rfl, ?_⟩
  · simp [results, Try.results23, go_sem, *]
  · first | (go_grown; done) | exact below_drawn (by go_grown) _
set_option maxHeartbeats 1000000 in
theorem cbeside_no2 (L x y : Int) (h : okC L x y = true) (hL : L = 0) (w : World) :
    Calls Try.prog 23 #[.agg #[.int .i64 L, .int .i64 x, .int .i64 y]] w fun e w' => e = .returned (.tuple #[.agg #[.int .i64 0, .int .i64 0, .int .i64 0], .bool false]) ∧ Below w.heap.size w w' := by
  subst hL
  go_enter Try.func23, Try.ntmps23
  go_wp2_with ((go_at_call 16; refine (cright_any _ _ _ _).mono ?_; rintro e w1 ⟨rfl, hb⟩; have hB : Below w.heap.size w w1 := below_trans (by go_grown) hb; have hz := hb.size; (try simp at hz); obtain ⟨hc, hf⟩ := bcell hb; have hz0 : w.heap.size < w1.heap.size := (by omega); have hz1 : w.heap.size + 1 < w1.heap.size := (by omega)))
  refine bodyPost_ret (v := .tuple #[.agg #[.int .i64 0, .int .i64 0, .int .i64 0], .bool false]) ?_ rfl ⟨rfl, ?_⟩
  · simp [results, Try.results23, go_sem, *]
  · first | (go_grown; done) | exact below_drawn (by go_grown) _
theorem cbeside_u (L x y : Int) (w : World) : Calls Try.prog 23 #[.agg #[.int .i64 L, .int .i64 x, .int .i64 y]] w fun e w' => e = .returned (.tuple #[.agg #[.int .i64 (d0 L x y), .int .i64 (d1 L x y), .int .i64 (d2 L x y)], .bool (okB L x y)]) ∧ Below w.heap.size w w' := by
  rcases Bool.eq_false_or_eq_true (okC L x y) with h | h
  · by_cases hL : L = 0
    · have hk : okB L x y = false := by rw [okB, h, show decide (L ≠ 0) = false from decide_eq_false (by omega)]; rfl
      have := cbeside_no2 L x y h hL w
      simpa [d0, d1, d2, e1, e2, hk] using this
    · have hk : okB L x y = true := by rw [okB, h, show decide (L ≠ 0) = true from decide_eq_true (by omega)]; rfl
      have := cbeside_yes L x y h hL w
      simpa [d0, d1, d2, e1, e2, hk] using this
  · have hk : okB L x y = false := by rw [okB, h]; rfl
    have := cbeside_no1 L x y h w
    simpa [d0, d1, d2, e1, e2, hk] using this
set_option maxHeartbeats 1000000 in
theorem cover_yes (L x y : Int) (h : okC L x y = true) (hL : L ≠ 0) (w : World) :
    Calls Try.prog 25 #[.agg #[.int .i64 L, .int .i64 x, .int .i64 y]] w fun e w' => e = .returned (.tuple #[.agg #[.int .i64 L, .int .i64 x, .int .i64 (oth y)], .bool true]) ∧ Below w.heap.size w w' := by
  obtain ⟨l0, l1, x0, x1, y0, y1⟩ := okC_16 L x y h
  have hne : (L == 0) = false := by simpa using hL
  have hxo := xor_oth y y0 y1
  clear hL
  go_enter Try.func25, Try.ntmps25
  go_wp2_with ((go_at_call 16; refine (cright_any _ _ _ _).mono ?_; rintro e w1 ⟨rfl, hb⟩; have hB : Below w.heap.size w w1 := below_trans (by go_grown) hb; have hz := hb.size; (try simp at hz); obtain ⟨hc, hf⟩ := bcell hb; have hz0 : w.heap.size < w1.heap.size := (by omega); have hz1 : w.heap.size + 1 < w1.heap.size := (by omega)))
  first | (go_quiet (fail); go_wp2) | skip
  refine bodyPost_ret (v := .tuple #[.agg #[.int .i64 L, .int .i64 x, .int .i64 (oth y)], .bool true]) ?_ rfl ⟨rfl, ?_⟩
  · simp [results, Try.results25, go_sem, *]
  · first | (go_grown; done) | exact below_drawn (by go_grown) _
set_option maxHeartbeats 1000000 in
theorem cover_no1 (L x y : Int) (h : okC L x y = false) (w : World) :
    Calls Try.prog 25 #[.agg #[.int .i64 L, .int .i64 x, .int .i64 y]] w fun e w' => e = .returned (.tuple #[.agg #[.int .i64 0, .int .i64 0, .int .i64 0], .bool false]) ∧ Below w.heap.size w w' := by
  go_enter Try.func25, Try.ntmps25
  go_wp2_with ((go_at_call 16; refine (cright_any _ _ _ _).mono ?_; rintro e w1 ⟨rfl, hb⟩; have hB : Below w.heap.size w w1 := below_trans (by go_grown) hb; have hz := hb.size; (try simp at hz); obtain ⟨hc, hf⟩ := bcell hb; have hz0 : w.heap.size < w1.heap.size := (by omega); have hz1 : w.heap.size + 1 < w1.heap.size := (by omega)))
  refine bodyPost_ret (v := .tuple #[.agg #[.int .i64 0, .int .i64 0, .int .i64 0], .bool false]) ?_ rfl ⟨rfl, ?_⟩
  · simp [results, Try.results25, go_sem, *]
  · first | (go_grown; done) | exact below_drawn (by go_grown) _
set_option maxHeartbeats 1000000 in
theorem cover_no2 (L x y : Int) (h : okC L x y = true) (hL : L = 0) (w : World) :
    Calls Try.prog 25 #[.agg #[.int .i64 L, .int .i64 x, .int .i64 y]] w fun e w' => e = .returned (.tuple #[.agg #[.int .i64 0, .int .i64 0, .int .i64 0], .bool false]) ∧ Below w.heap.size w w' := by
  subst hL
  go_enter Try.func25, Try.ntmps25
  go_wp2_with ((go_at_call 16; refine (cright_any _ _ _ _).mono ?_; rintro e w1 ⟨rfl, hb⟩; have hB : Below w.heap.size w w1 := below_trans (by go_grown) hb; have hz := hb.size; (try simp at hz); obtain ⟨hc, hf⟩ := bcell hb; have hz0 : w.heap.size < w1.heap.size := (by omega); have hz1 : w.heap.size + 1 < w1.heap.size := (by omega)))
  refine bodyPost_ret (v := .tuple #[.agg #[.int .i64 0, .int .i64 0, .int .i64 0], .bool false]) ?_ rfl ⟨rfl, ?_⟩
  · simp [results, Try.results25, go_sem, *]
  · first | (go_grown; done) | exact below_drawn (by go_grown) _
theorem cover_u (L x y : Int) (w : World) : Calls Try.prog 25 #[.agg #[.int .i64 L, .int .i64 x, .int .i64 y]] w fun e w' => e = .returned (.tuple #[.agg #[.int .i64 (d0 L x y), .int .i64 (e1 L x y), .int .i64 (e2 L x y)], .bool (okB L x y)]) ∧ Below w.heap.size w w' := by
  rcases Bool.eq_false_or_eq_true (okC L x y) with h | h
  · by_cases hL : L = 0
    · have hk : okB L x y = false := by rw [okB, h, show decide (L ≠ 0) = false from decide_eq_false (by omega)]; rfl
      have := cover_no2 L x y h hL w
      simpa [d0, d1, d2, e1, e2, hk] using this
    · have hk : okB L x y = true := by rw [okB, h, show decide (L ≠ 0) = true from decide_eq_true (by omega)]; rfl
      have := cover_yes L x y h hL w
      simpa [d0, d1, d2, e1, e2, hk] using this
  · have hk : okB L x y = false := by rw [okB, h]; rfl
    have := cover_no1 L x y h w
    simpa [d0, d1, d2, e1, e2, hk] using this
end Go.Proofs.Ytpbnbnhmlpjbjaa
