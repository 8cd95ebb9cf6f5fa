/- cell.boxAt, Snap by contract. -/
import Derived.Test.YtdbiaijpbkmfhaaCellAbove
import Derived.Test.YtdbiaijpbkmfhaaCellBox
import Derived.Test.YtdbiaijpbkmfhaaGeomArea
import Derived.Test.YtdbiaijpbkmfhaaBlk
namespace Go.Proofs.Ytdbiaijpbkmfhaa
set_option linter.unusedVariables false
set_option linter.unusedSimpArgs false
open Go.RowKit
theorem cof_at (l : Nat) (x y : Int) (hl : l ≤ 16) (h : fitsB x y = true) (w : World) : Calls Try.prog 44 #[.agg #[.int .i64 x, .int .i64 y], .int .i64 (l : Int)] w fun e w' => e = .returned (.tuple #[.agg #[.int .i64 (l : Int), .int .i64 (x / 2 ^ (16 - l)), .int .i64 (y / 2 ^ (16 - l))], .bool true]) ∧ Below w.heap.size w w' := by
  have hk : okA 16 x y (l : Int) = true := by
    have h1 := (fitsB_iff _ _).1 h
    have h2 : okC 16 x y = true := (okC_iff _ _ _).2 (by simp; omega)
    rw [okA, h2, show decide (0 ≤ (l : Int) ∧ (l : Int) ≤ 16) = true from decide_eq_true (by omega)]; rfl
  have := cof_u x y l w
  have e : ((16 : Int) - l).toNat = 16 - l := by omega
  simpa [a0, a1, a2, hk, e] using this
theorem of_okC (l : Nat) (x y : Int) (hl : l ≤ 16) (h : fitsB x y = true) : okC (l : Int) (x / 2 ^ (16 - l)) (y / 2 ^ (16 - l)) = true := by
  have h1 := (fitsB_iff _ _).1 h
  have hx := div_bd 16 (16 - l) (by omega) x (by omega) (by omega)
  have hy := div_bd 16 (16 - l) (by omega) y (by omega) (by omega)
  rw [show 16 - (16 - l) = l by omega] at hx hy
  refine (okC_iff _ _ _).2 ⟨by omega, by omega, hx.1, ?_, hy.1, ?_⟩
  · simpa using hx.2
  · simpa using hy.2
theorem snap_math (l : Nat) (a c s : Int) (hl : l ≤ 16) (h0 : 0 ≤ a) (h1 : a ≤ c) (h2 : c ≤ 65535) (hs : (2 : Int) ^ (16 - l) = s) : 0 < s ∧ s ≤ 65536 ∧ 0 ≤ a / s * s ∧ a / s * s ≤ c / s * s ∧ c / s * s + s ≤ 65536 ∧ a / s * s ≤ a ∧ c < c / s * s + s ∧ a < a / s * s + s ∧ c / s * s ≤ c := by
  have sp := pow_pos' (16 - l)
  have sl := pow_le16 (16 - l) (by omega)
  have hd := div_bd 16 (16 - l) (by omega) c (by omega) (by omega)
  have hm := side_mul l hl
  rw [show 16 - (16 - l) = l by omega] at hd
  rw [hs] at sp sl hd hm
  have e1 := Int.emod_add_mul_ediv a s
  have e2 := Int.emod_add_mul_ediv c s
  have m1 := Int.emod_nonneg a (show s ≠ 0 by omega)
  have m2 := Int.emod_lt_of_pos a sp
  have m3 := Int.emod_nonneg c (show s ≠ 0 by omega)
  have m4 := Int.emod_lt_of_pos c sp
  rw [Int.mul_comm s] at e1 e2
  have h3 : (c / s + 1) * s ≤ 2 ^ l * s := Int.mul_le_mul_of_nonneg_right (by omega) (by omega)
  have h4 : a / s * s ≤ c / s * s := Int.mul_le_mul_of_nonneg_right (Int.ediv_le_ediv sp h1) (by omega)
  have h5 : 0 ≤ a / s * s := Int.mul_nonneg (Int.ediv_nonneg h0 (by omega)) (by omega)
  rw [hm, Int.add_mul, Int.one_mul] at h3
  generalize a / s * s = A at *
  generalize c / s * s = B at *
  omega
def okS (a b c d lv : Int) : Bool := rightB a b c d && levB lv
def s0 (a b c d lv : Int) : Int := if okS a b c d lv = true then a / sideI lv * sideI lv else 0
def s1 (a b c d lv : Int) : Int := if okS a b c d lv = true then b / sideI lv * sideI lv else 0
def s2 (a b c d lv : Int) : Int := if okS a b c d lv = true then c / sideI lv * sideI lv + sideI lv - 1 else 0
def s3 (a b c d lv : Int) : Int := if okS a b c d lv = true then d / sideI lv * sideI lv + sideI lv - 1 else 0
end Go.Proofs.Ytdbiaijpbkmfhaa
