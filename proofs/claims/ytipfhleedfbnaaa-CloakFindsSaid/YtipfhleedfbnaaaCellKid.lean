/- cell.Child, Beside, Over by contract. -/
import Derived.Test.YtipfhleedfbnaaaCellRight
import Derived.IntWalk
import Derived.Laws.BitsAllLaws
import Derived.Laws.BitsLemmas
import Derived.Deep.RegionWith
import Derived.Deep.RegionHeld3
namespace Go.Proofs.Ytipfhleedfbnaaa
set_option linter.unusedVariables false
set_option linter.unusedSimpArgs false
open Go.RowKit
theorem ofInt_i64 (a : Nat) (ha : a < 9223372036854775808) : (BitVec.ofInt 64 (a : Int)).toNat = a := by
  rw [BitVec.ofInt_natCast, BitVec.toNat_ofNat]; exact Nat.mod_eq_of_lt (by omega)
theorem i64_xor_nat (a b : Nat) (ha : a < 9223372036854775808) (hb : b < 9223372036854775808) : bits .xor .i64 (a : Int) (b : Int) = ((a ^^^ b : Nat) : Int) := by
  have hx : a ^^^ b < 2 ^ 63 := Nat.xor_lt_two_pow (by omega) (by omega)
  show IntKind.i64.wrap ((BitVec.ofInt 64 (a : Int) ^^^ BitVec.ofInt 64 (b : Int)).toNat : Int) = _
  rw [BitVec.toNat_xor, ofInt_i64 a ha, ofInt_i64 b hb, IntKind.wrap_i64]
  omega
theorem xor_oth (x : Int) (h0 : 0 ≤ x) (h1 : x < 65536) : bits .xor .i64 x 1 = oth x := by
  obtain ⟨n, rfl⟩ := Int.eq_ofNat_of_zero_le h0
  have := i64_xor_nat n 1 (by omega) (by omega)
  rw [xor_one] at this
  have e : ((1 : Nat) : Int) = 1 := rfl
  rw [e] at this
  rw [this]
  unfold oth
  split <;> split <;> omega
theorem okC_16 (L x y : Int) (h : okC L x y = true) : 0 ≤ L ∧ L ≤ 16 ∧ 0 ≤ x ∧ x < 65536 ∧ 0 ≤ y ∧ y < 65536 := by
  obtain ⟨h0, h1, h2, h3, h4, h5⟩ := (okC_iff _ _ _).1 h
  have := pow_le16 L.toNat (by omega)
  omega
set_option maxHeartbeats 1000000 in
theorem cbeside_yes (L x y : Int) (h : okC L x y = true) (hL : L ≠ 0) (w : World) :
    Calls Try.prog 47 #[.agg #[.int .i64 L, .int .i64 x, .int .i64 y]] w fun e w' => e = .returned (.tuple #[.agg #[.int .i64 L, .int .i64 (oth x), .int .i64 y], .bool true]) ∧ Below w.heap.size w w' := by
  obtain ⟨l0, l1, x0, x1, y0, y1⟩ := okC_16 L x y h
  have hne : (L == 0) = false := by simpa using hL
  have hxo := xor_oth x x0 x1
  clear hL
  go_enter Try.func47, Try.ntmps47
  go_wp2_with ((go_at_call 42; refine (cright_any _ _ _ _).mono ?_; rintro e w1 ⟨rfl, hb⟩; have hB : Below w.heap.size w w1 := below_trans (by go_grown) hb; have hz := hb.size; (try simp at hz); obtain ⟨hc, hf⟩ := bcell hb; have hz0 : w.heap.size < w1.heap.size := (by omega); have hz1 : w.heap.size + 1 < w1.heap.size := (by omega)))
  first | (go_quiet (fail); go_wp2) | skip
  refine bodyPost_ret (v := .tuple #[.agg #[.int .i64 L, .int .i64 (oth x), .int .i64 y], .bool true]) ?_ rfl ⟨rfl, ?_⟩
  · simp [results, Try.results47, go_sem, *]
  · first | (go_grown; done) | exact below_drawn (by go_grown) _
set_option maxHeartbeats 1000000 in
theorem cbeside_no1 (L x y : Int) (h : okC L x y = false) (w : World) :
    Calls Try.prog 47 #[.agg #[.int .i64 L, .int .i64 x, .int .i64 y]] w fun e w' => e = .returned (.tuple #[.agg #[.int .i64 0, .int .i64 0, .int .i64 0], .bool false]) ∧ Below w.heap.size w w' := by
  go_enter Try.func47, Try.ntmps47
  go_wp2_with ((go_at_call 42; refine (cright_any _ _ _ _).mono ?_; rintro e w1 ⟨rfl, hb⟩; have hB : Below w.heap.size w w1 := below_trans (by go_grown) hb; have hz := hb.size; (try simp at hz); obtain ⟨hc, hf⟩ := bcell hb; have hz0 : w.heap.size < w1.heap.size := (by omega); have hz1 : w.heap.size + 1 < w1.heap.size := (by omega)))
  refine bodyPost_ret (v := .tuple #[.agg #[.int .i64 0, .int .i64 0, .int .i64 0], .bool false]) ?_ rfl ⟨rfl, ?_⟩
  · simp [results, Try.results47, go_sem, *]
  · first | (go_grown; done) | exact below_drawn (by go_grown) _
set_option maxHeartbeats 1000000 in
theorem cbeside_no2 (L x y : Int) (h : okC L x y = true) (hL : L = 0) (w : World) :
    Calls Try.prog 47 #[.agg #[.int .i64 L, .int .i64 x, .int .i64 y]] w fun e w' => e = .returned (.tuple #[.agg #[.int .i64 0, .int .i64 0, .int .i64 0], .bool false]) ∧ Below w.heap.size w w' := by
  subst hL
  go_enter Try.func47, Try.ntmps47
  go_wp2_with ((go_at_call 42; refine (cright_any _ _ _ _).mono ?_; rintro e w1 ⟨rfl, hb⟩; have hB : Below w.heap.size w w1 := below_trans (by go_grown) hb; have hz := hb.size; (try simp at hz); obtain ⟨hc, hf⟩ := bcell hb; have hz0 : w.heap.size < w1.heap.size := (by omega); have hz1 : w.heap.size + 1 < w1.heap.size := (by omega)))
  refine bodyPost_ret (v := .tuple #[.agg #[.int .i64 0, .int .i64 0, .int .i64 0], .bool false]) ?_ rfl ⟨rfl, ?_⟩
  · simp [results, Try.results47, go_sem, *]
  · first | (go_grown; done) | exact below_drawn (by go_grown) _
theorem cbeside_u (L x y : Int) (w : World) : Calls Try.prog 47 #[.agg #[.int .i64 L, .int .i64 x, .int .i64 y]] w fun e w' => e = .returned (.tuple #[.agg #[.int .i64 (d0 L x y), .int .i64 (d1 L x y), .int .i64 (d2 L x y)], .bool (okB L x y)]) ∧ Below w.heap.size w w' := by
  rcases Bool.eq_false_or_eq_true (okC L x y) with h | h
  · by_cases hL : L = 0
    · have hk : okB L x y = false := by rw [okB, h, show decide (L ≠ 0) = false from decide_eq_false (by omega)]; rfl
      have := cbeside_no2 L x y h hL w
      simpa [d0, d1, d2, e1, e2, hk] using this
    · have hk : okB L x y = true := by rw [okB, h, show decide (L ≠ 0) = true from decide_eq_true (by omega)]; rfl
      have := cbeside_yes L x y h hL w
      simpa [d0, d1, d2, e1, e2, hk] using this
  · have hk : okB L x y = false := by rw [okB, h]; rfl
    have := cbeside_no1 L x y h w
    simpa [d0, d1, d2, e1, e2, hk] using this
set_option maxHeartbeats 1000000 in
theorem cover_yes (L x y : Int) (h : okC L x y = true) (hL : L ≠ 0) (w : World) :
    Calls Try.prog 49 #[.agg #[.int .i64 L, .int .i64 x, .int .i64 y]] w fun e w' => e = .returned (.tuple #[.agg #[.int .i64 L, .int .i64 x, .int .i64 (oth y)], .bool true]) ∧ Below w.heap.size w w' := by
  obtain ⟨l0, l1, x0, x1, y0, y1⟩ := okC_16 L x y h
  have hne : (L == 0) = false := by simpa using hL
  have hxo := xor_oth y y0 y1
  clear hL
  go_enter Try.func49, Try.ntmps49
  go_wp2_with ((go_at_call 42; refine (cright_any _ _ _ _).mono ?_; rintro e w1 ⟨rfl, hb⟩; have hB : Below w.heap.size w w1 := below_trans (by go_grown) hb; have hz := hb.size; (try simp at hz); obtain ⟨hc, hf⟩ := bcell hb; have hz0 : w.heap.size < w1.heap.size := (by omega); have hz1 : w.heap.size + 1 < w1.heap.size := (by omega)))
  first | (go_quiet (fail); go_wp2) | skip
  refine bodyPost_ret (v := .tuple #[.agg #[.int .i64 L, .int .i64 x, .int .i64 (oth y)], .bool true]) ?_ rfl ⟨rfl, ?_⟩
  · simp [results, Try.results49, go_sem, *]
  · first | (go_grown; done) | exact below_drawn (by go_grown) _
set_option maxHeartbeats 1000000 in
theorem cover_no1 (L x y : Int) (h : okC L x y = false) (w : World) :
    Calls Try.prog 49 #[.agg #[.int .i64 L, .int .i64 x, .int .i64 y]] w fun e w' => e = .returned (.tuple #[.agg #[.int .i64 0, .int .i64 0, .int .i64 0], .bool false]) ∧ Below w.heap.size w w' := by
  go_enter Try.func49, Try.ntmps49
  go_wp2_with ((go_at_call 42; refine (cright_any _ _ _ _).mono ?_; rintro e w1 ⟨rfl, hb⟩; have hB : Below w.heap.size w w1 := below_trans (by go_grown) hb; have hz := hb.size; (try simp at hz); obtain ⟨hc, hf⟩ := bcell hb; have hz0 : w.heap.size < w1.heap.size := (by omega); have hz1 : w.heap.size + 1 < w1.heap.size := (by omega)))
  refine bodyPost_ret (v := .tuple #[.agg #[.int .i64 0, .int .i64 0, .int .i64 0], .bool false]) ?_ rfl ⟨rfl, ?_⟩
  · simp [results, Try.results49, go_sem, *]
  · first | (go_grown; done) | exact below_drawn (by go_grown) _
set_option maxHeartbeats 1000000 in
theorem cover_no2 (L x y : Int) (h : okC L x y = true) (hL : L = 0) (w : World) :
    Calls Try.prog 49 #[.agg #[.int .i64 L, .int .i64 x, .int .i64 y]] w fun e w' => e = .returned (.tuple #[.agg #[.int .i64 0, .int .i64 0, .int .i64 0], .bool false]) ∧ Below w.heap.size w w' := by
  subst hL
  go_enter Try.func49, Try.ntmps49
  go_wp2_with ((go_at_call 42; refine (cright_any _ _ _ _).mono ?_; rintro e w1 ⟨rfl, hb⟩; have hB : Below w.heap.size w w1 := below_trans (by go_grown) hb; have hz := hb.size; (try simp at hz); obtain ⟨hc, hf⟩ := bcell hb; have hz0 : w.heap.size < w1.heap.size := (by omega); have hz1 : w.heap.size + 1 < w1.heap.size := (by omega)))
  refine bodyPost_ret (v := .tuple #[.agg #[.int .i64 0, .int .i64 0, .int .i64 0], .bool false]) ?_ rfl ⟨rfl, ?_⟩
  · simp [results, Try.results49, go_sem, *]
  · first | (go_grown; done) | exact below_drawn (by go_grown) _
theorem cover_u (L x y : Int) (w : World) : Calls Try.prog 49 #[.agg #[.int .i64 L, .int .i64 x, .int .i64 y]] w fun e w' => e = .returned (.tuple #[.agg #[.int .i64 (d0 L x y), .int .i64 (e1 L x y), .int .i64 (e2 L x y)], .bool (okB L x y)]) ∧ Below w.heap.size w w' := by
  rcases Bool.eq_false_or_eq_true (okC L x y) with h | h
  · by_cases hL : L = 0
    · have hk : okB L x y = false := by rw [okB, h, show decide (L ≠ 0) = false from decide_eq_false (by omega)]; rfl
      have := cover_no2 L x y h hL w
      simpa [d0, d1, d2, e1, e2, hk] using this
    · have hk : okB L x y = true := by rw [okB, h, show decide (L ≠ 0) = true from decide_eq_true (by omega)]; rfl
      have := cover_yes L x y h hL w
      simpa [d0, d1, d2, e1, e2, hk] using this
  · have hk : okB L x y = false := by rw [okB, h]; rfl
    have := cover_no1 L x y h w
    simpa [d0, d1, d2, e1, e2, hk] using this
end Go.Proofs.Ytipfhleedfbnaaa
