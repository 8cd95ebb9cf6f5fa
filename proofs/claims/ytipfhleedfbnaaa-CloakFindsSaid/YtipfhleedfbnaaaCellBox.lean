/- cell.Box by contract. -/
import Derived.Test.YtipfhleedfbnaaaCellRight
import Derived.Deep.RegionHeld3
import Derived.Deep.RegionWith
import Derived.IntWalk
namespace Go.Proofs.Ytipfhleedfbnaaa
set_option linter.unusedVariables false
set_option linter.unusedSimpArgs false
open Go.RowKit
set_option maxHeartbeats 1000000 in
theorem cbox_yes (l : Nat) (x y s : Int) (hl : l ≤ 16) (h : okC (l : Int) x y = true) (hs : (2 : Int) ^ (16 - l) = s) (w : World) :
    Calls Try.prog 46 #[.agg #[.int .i64 (l : Int), .int .i64 x, .int .i64 y]] w fun e w' => e = .returned (.tuple #[.agg #[.int .i64 (x * s), .int .i64 (y * s), .int .i64 (x * s + s - 1), .int .i64 (y * s + s - 1)], .bool true]) ∧ Below w.heap.size w w' := by
  obtain ⟨_, _, hx0, hx1, hy0, hy1⟩ := (okC_iff _ _ _).1 h
  simp only [Int.toNat_natCast] at hx1 hy1
  have hm : min l 64 = l := by omega
  have hd := side_div l hl
  have bx := side_bd l hl x hx0 hx1
  have hby := side_bd l hl y hy0 hy1
  have sp := pow_pos' (16 - l)
  have sl := pow_le16 (16 - l) (by omega)
  rw [hs] at hd bx hby sp sl
  clear hs hx1 hy1
  obtain ⟨bx0, bx1⟩ := bx
  obtain ⟨by0, by1⟩ := hby
  have px : x * s ≤ 65536 := by omega
  have py : y * s ≤ 65536 := by omega
  have wx : IntKind.i64.wrap (x * s) = x * s := IntWalk.i64_in _ (by omega)
  have wy : IntKind.i64.wrap (y * s) = y * s := IntWalk.i64_in _ (by omega)
  go_enter Try.func46, Try.ntmps46
  go_wp2_with ((go_at_call 42; refine (cright_any _ _ _ _).mono ?_; rintro e w1 ⟨rfl, hb⟩; have hB : Below w.heap.size w w1 := below_trans (by go_grown) hb; have hz := hb.size; (try simp at hz); obtain ⟨hc, hf⟩ := bcell hb; have hz0 : w.heap.size < w1.heap.size := (by omega); have hz1 : w.heap.size + 1 < w1.heap.size := (by omega)))
  go_quiet (fail)
  replace hB := below_drawn hB nq
  clear wx wy
  go_wp2
  refine bodyPost_ret (v := .tuple #[.agg #[.int .i64 (x * s), .int .i64 (y * s), .int .i64 (x * s + s - 1), .int .i64 (y * s + s - 1)], .bool true]) ?_ rfl ⟨rfl, ?_⟩
  · simp [results, Try.results46, go_sem, *]
  · go_grown
set_option maxHeartbeats 1000000 in
theorem cbox_no (L x y : Int) (h : okC L x y = false) (w : World) :
    Calls Try.prog 46 #[.agg #[.int .i64 L, .int .i64 x, .int .i64 y]] w fun e w' => e = .returned (.tuple #[.agg #[.int .i64 0, .int .i64 0, .int .i64 0, .int .i64 0], .bool false]) ∧ Below w.heap.size w w' := by
  go_enter Try.func46, Try.ntmps46
  go_wp2_with ((go_at_call 42; refine (cright_any _ _ _ _).mono ?_; rintro e w1 ⟨rfl, hb⟩; have hB : Below w.heap.size w w1 := below_trans (by go_grown) hb; have hz := hb.size; (try simp at hz); obtain ⟨hc, hf⟩ := bcell hb; have hz0 : w.heap.size < w1.heap.size := (by omega); have hz1 : w.heap.size + 1 < w1.heap.size := (by omega)))
  refine bodyPost_ret (v := .tuple #[.agg #[.int .i64 0, .int .i64 0, .int .i64 0, .int .i64 0], .bool false]) ?_ rfl ⟨rfl, ?_⟩
  · simp [results, Try.results46, go_sem, *]
  · go_grown
theorem cbox_u (L x y : Int) (w : World) : Calls Try.prog 46 #[.agg #[.int .i64 L, .int .i64 x, .int .i64 y]] w fun e w' => e = .returned (.tuple #[.agg #[.int .i64 (b0 L x y), .int .i64 (b1 L x y), .int .i64 (b2 L x y), .int .i64 (b3 L x y)], .bool (okC L x y)]) ∧ Below w.heap.size w w' := by
  rcases Bool.eq_false_or_eq_true (okC L x y) with h | h
  · obtain ⟨l, hl, rfl⟩ := lev L ((okC_iff _ _ _).1 h).1 ((okC_iff _ _ _).1 h).2.1
    have := cbox_yes l x y _ hl h rfl w
    simpa [b0, b1, b2, b3, h, sideI_nat l hl] using this
  · have := cbox_no L x y h w
    simpa [b0, b1, b2, b3, h] using this
end Go.Proofs.Ytipfhleedfbnaaa
