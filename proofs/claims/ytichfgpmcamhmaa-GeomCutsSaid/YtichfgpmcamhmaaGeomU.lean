/- geom by contract, one form for all arguments. -/
import Derived.Test.YtichfgpmcamhmaaGeomKnown
import Derived.Test.YtichfgpmcamhmaaGeomRef2
import Derived.Test.YtichfgpmcamhmaaGeomRef3
import Derived.Test.YtichfgpmcamhmaaGeomRef4
namespace Go.Proofs.Ytichfgpmcamhmaa
set_option linter.unusedVariables false
set_option linter.unusedSimpArgs false
open Go.RowKit
def okM (a b c d a1 b1 c1 d1 : Int) : Bool := rightB a b c d && (rightB a1 b1 c1 d1 && rightB (max a a1) (max b b1) (min c c1) (min d d1))
def okH (a b c d a1 b1 c1 d1 : Int) : Bool := rightB a b c d && rightB a1 b1 c1 d1
def okP (a b c d x y : Int) : Bool := rightB a b c d && fitsB x y
def m0 (a b c d a1 b1 c1 d1 : Int) : Int := if okM a b c d a1 b1 c1 d1 = true then max a a1 else 0
def m1 (a b c d a1 b1 c1 d1 : Int) : Int := if okM a b c d a1 b1 c1 d1 = true then max b b1 else 0
def m2 (a b c d a1 b1 c1 d1 : Int) : Int := if okM a b c d a1 b1 c1 d1 = true then min c c1 else 0
def m3 (a b c d a1 b1 c1 d1 : Int) : Int := if okM a b c d a1 b1 c1 d1 = true then min d d1 else 0
def hu0 (a b c d a1 b1 c1 d1 : Int) : Int := if okH a b c d a1 b1 c1 d1 = true then min a a1 else 0
def hu1 (a b c d a1 b1 c1 d1 : Int) : Int := if okH a b c d a1 b1 c1 d1 = true then min b b1 else 0
def hu2 (a b c d a1 b1 c1 d1 : Int) : Int := if okH a b c d a1 b1 c1 d1 = true then max c c1 else 0
def hu3 (a b c d a1 b1 c1 d1 : Int) : Int := if okH a b c d a1 b1 c1 d1 = true then max d d1 else 0
def n0 (a b c d x y : Int) : Int := if okP a b c d x y = true then min (max x a) c else 0
def n1 (a b c d x y : Int) : Int := if okP a b c d x y = true then min (max y b) d else 0
def areaU (a b c d : Int) : Int := if rightB a b c d = true then (c - a + 1) * (d - b + 1) else 0
def distU (a b c d x y : Int) : Int := if okP a b c d x y = true then g3 x a c * g3 x a c + g3 y b d * g3 y b d else 0
def apartU (x y x1 y1 : Int) : Int := if fitsB x y = true ∧ fitsB x1 y1 = true then gapI x x1 * gapI x x1 + gapI y y1 * gapI y y1 else 0
theorem bcase (b : Bool) : b = true ∨ b = false := by cases b <;> simp
theorem right_pt (x y : Int) : rightB x y x y = fitsB x y := by rw [Bool.eq_iff_iff, rightB_iff, fitsB_iff]; omega
theorem meet_u (a b c d a1 b1 c1 d1 : Int) (w : World) : Calls Try.prog 22 #[.agg #[.int .i64 a, .int .i64 b, .int .i64 c, .int .i64 d], .agg #[.int .i64 a1, .int .i64 b1, .int .i64 c1, .int .i64 d1]] w fun e w' => e = .returned (.tuple #[.agg #[.int .i64 (m0 a b c d a1 b1 c1 d1), .int .i64 (m1 a b c d a1 b1 c1 d1), .int .i64 (m2 a b c d a1 b1 c1 d1), .int .i64 (m3 a b c d a1 b1 c1 d1)], .bool (okM a b c d a1 b1 c1 d1)]) ∧ Below w.heap.size w w' := by
  rcases bcase (rightB a b c d) with h1 | h1
  · rcases bcase (rightB a1 b1 c1 d1) with h2 | h2
    · rcases bcase (rightB (max a a1) (max b b1) (min c c1) (min d d1)) with h3 | h3
      · have := meet_yes a b c d a1 b1 c1 d1 h1 h2 h3 w
        simpa [okM, m0, m1, m2, m3, h1, h2, h3] using this
      · have := meet_no3 a b c d a1 b1 c1 d1 h1 h2 h3 w
        simpa [okM, m0, m1, m2, m3, h1, h2, h3] using this
    · have := meet_no2 a b c d a1 b1 c1 d1 h1 h2 w
      simpa [okM, m0, m1, m2, m3, h1, h2] using this
  · have := meet_no1 a b c d a1 b1 c1 d1 h1 w
    simpa [okM, m0, m1, m2, m3, h1] using this
theorem rmeet_u (a b c d a1 b1 c1 d1 : Int) (w : World) : Calls Try.prog 23 #[.agg #[.int .i64 a, .int .i64 b, .int .i64 c, .int .i64 d], .agg #[.int .i64 a1, .int .i64 b1, .int .i64 c1, .int .i64 d1]] w fun e w' => e = .returned (.tuple #[.agg #[.int .i64 (m0 a b c d a1 b1 c1 d1), .int .i64 (m1 a b c d a1 b1 c1 d1), .int .i64 (m2 a b c d a1 b1 c1 d1), .int .i64 (m3 a b c d a1 b1 c1 d1)], .bool (okM a b c d a1 b1 c1 d1)]) ∧ Below w.heap.size w w' := by
  rcases bcase (rightB a b c d) with h1 | h1
  · rcases bcase (rightB a1 b1 c1 d1) with h2 | h2
    · rcases bcase (rightB (max a a1) (max b b1) (min c c1) (min d d1)) with h3 | h3
      · have := rmeet_yes a b c d a1 b1 c1 d1 h1 h2 h3 w
        simpa [okM, m0, m1, m2, m3, h1, h2, h3] using this
      · have := rmeet_no3 a b c d a1 b1 c1 d1 h1 h2 h3 w
        simpa [okM, m0, m1, m2, m3, h1, h2, h3] using this
    · have := rmeet_no2 a b c d a1 b1 c1 d1 h1 h2 w
      simpa [okM, m0, m1, m2, m3, h1, h2] using this
  · have := rmeet_no1 a b c d a1 b1 c1 d1 h1 w
    simpa [okM, m0, m1, m2, m3, h1] using this
theorem meets_u (a b c d a1 b1 c1 d1 : Int) (w : World) : Calls Try.prog 24 #[.agg #[.int .i64 a, .int .i64 b, .int .i64 c, .int .i64 d], .agg #[.int .i64 a1, .int .i64 b1, .int .i64 c1, .int .i64 d1]] w fun e w' => e = .returned (.bool (okM a b c d a1 b1 c1 d1)) ∧ Below w.heap.size w w' := by
  rcases bcase (rightB a b c d) with h1 | h1
  · rcases bcase (rightB a1 b1 c1 d1) with h2 | h2
    · rcases bcase (rightB (max a a1) (max b b1) (min c c1) (min d d1)) with h3 | h3
      · have := meets_yes a b c d a1 b1 c1 d1 h1 h2 h3 w
        simpa [okM, m0, m1, m2, m3, h1, h2, h3] using this
      · have := meets_no3 a b c d a1 b1 c1 d1 h1 h2 h3 w
        simpa [okM, m0, m1, m2, m3, h1, h2, h3] using this
    · have := meets_no2 a b c d a1 b1 c1 d1 h1 h2 w
      simpa [okM, m0, m1, m2, m3, h1, h2] using this
  · have := meets_no1 a b c d a1 b1 c1 d1 h1 w
    simpa [okM, m0, m1, m2, m3, h1] using this
theorem hull_u (a b c d a1 b1 c1 d1 : Int) (w : World) : Calls Try.prog 25 #[.agg #[.int .i64 a, .int .i64 b, .int .i64 c, .int .i64 d], .agg #[.int .i64 a1, .int .i64 b1, .int .i64 c1, .int .i64 d1]] w fun e w' => e = .returned (.agg #[.int .i64 (hu0 a b c d a1 b1 c1 d1), .int .i64 (hu1 a b c d a1 b1 c1 d1), .int .i64 (hu2 a b c d a1 b1 c1 d1), .int .i64 (hu3 a b c d a1 b1 c1 d1)]) ∧ Below w.heap.size w w' := by
  rcases bcase (rightB a b c d) with h1 | h1
  · rcases bcase (rightB a1 b1 c1 d1) with h2 | h2
    · have := hull_yes a b c d a1 b1 c1 d1 h1 h2 w
      simpa [okH, hu0, hu1, hu2, hu3, h1, h2] using this
    · have := hull_no2 a b c d a1 b1 c1 d1 h1 h2 w
      simpa [okH, hu0, hu1, hu2, hu3, h1, h2] using this
  · have := hull_no1 a b c d a1 b1 c1 d1 h1 w
    simpa [okH, hu0, hu1, hu2, hu3, h1] using this
theorem rhull_u (a b c d a1 b1 c1 d1 : Int) (w : World) : Calls Try.prog 26 #[.agg #[.int .i64 a, .int .i64 b, .int .i64 c, .int .i64 d], .agg #[.int .i64 a1, .int .i64 b1, .int .i64 c1, .int .i64 d1]] w fun e w' => e = .returned (.agg #[.int .i64 (hu0 a b c d a1 b1 c1 d1), .int .i64 (hu1 a b c d a1 b1 c1 d1), .int .i64 (hu2 a b c d a1 b1 c1 d1), .int .i64 (hu3 a b c d a1 b1 c1 d1)]) ∧ Below w.heap.size w w' := by
  rcases bcase (rightB a b c d) with h1 | h1
  · rcases bcase (rightB a1 b1 c1 d1) with h2 | h2
    · have := rhull_yes a b c d a1 b1 c1 d1 h1 h2 w
      simpa [okH, hu0, hu1, hu2, hu3, h1, h2] using this
    · have := rhull_no2 a b c d a1 b1 c1 d1 h1 h2 w
      simpa [okH, hu0, hu1, hu2, hu3, h1, h2] using this
  · have := rhull_no1 a b c d a1 b1 c1 d1 h1 w
    simpa [okH, hu0, hu1, hu2, hu3, h1] using this
theorem area_u (a b c d : Int) (w : World) : Calls Try.prog 27 #[.agg #[.int .i64 a, .int .i64 b, .int .i64 c, .int .i64 d]] w fun e w' => e = .returned (.int .u64 (areaU a b c d)) ∧ Below w.heap.size w w' := by
  rcases bcase (rightB a b c d) with h1 | h1
  · have := area_yes a b c d h1 w
    simpa [areaU, h1] using this
  · have := area_no a b c d h1 w
    simpa [areaU, h1] using this
theorem rarea_u (a b c d : Int) (w : World) : Calls Try.prog 28 #[.agg #[.int .i64 a, .int .i64 b, .int .i64 c, .int .i64 d]] w fun e w' => e = .returned (.int .u64 (areaU a b c d)) ∧ Below w.heap.size w w' := by
  rcases bcase (rightB a b c d) with h1 | h1
  · have := rarea_yes a b c d h1 w
    simpa [areaU, h1] using this
  · have := rarea_no a b c d h1 w
    simpa [areaU, h1] using this
theorem dist_u (a b c d x y : Int) (w : World) : Calls Try.prog 31 #[.agg #[.int .i64 a, .int .i64 b, .int .i64 c, .int .i64 d], .agg #[.int .i64 x, .int .i64 y]] w fun e w' => e = .returned (.int .u64 (distU a b c d x y)) ∧ Below w.heap.size w w' := by
  rcases bcase (rightB a b c d) with h1 | h1
  · rcases bcase (fitsB x y) with h2 | h2
    · have := dist_yes a b c d x y h1 h2 w
      simpa [distU, okP, h1, h2] using this
    · have := dist_no2 a b c d x y h1 h2 w
      simpa [distU, okP, h1, h2] using this
  · have := dist_no1 a b c d x y h1 w
    simpa [distU, okP, h1] using this
theorem rdist_u (a b c d x y : Int) (w : World) : Calls Try.prog 32 #[.agg #[.int .i64 a, .int .i64 b, .int .i64 c, .int .i64 d], .agg #[.int .i64 x, .int .i64 y]] w fun e w' => e = .returned (.int .u64 (distU a b c d x y)) ∧ Below w.heap.size w w' := by
  rcases bcase (rightB a b c d) with h1 | h1
  · rcases bcase (fitsB x y) with h2 | h2
    · have := rdist_yes a b c d x y h1 h2 w
      simpa [distU, okP, h1, h2] using this
    · have := rdist_no2 a b c d x y h1 h2 w
      simpa [distU, okP, h1, h2] using this
  · have := rdist_no1 a b c d x y h1 w
    simpa [distU, okP, h1] using this
theorem near_u (a b c d x y : Int) (w : World) : Calls Try.prog 33 #[.agg #[.int .i64 a, .int .i64 b, .int .i64 c, .int .i64 d], .agg #[.int .i64 x, .int .i64 y]] w fun e w' => e = .returned (.agg #[.int .i64 (n0 a b c d x y), .int .i64 (n1 a b c d x y)]) ∧ Below w.heap.size w w' := by
  rcases bcase (rightB a b c d) with h1 | h1
  · rcases bcase (fitsB x y) with h2 | h2
    · have := near_yes a b c d x y h1 h2 w
      simpa [n0, n1, okP, h1, h2] using this
    · have := near_no2 a b c d x y h1 h2 w
      simpa [n0, n1, okP, h1, h2] using this
  · have := near_no1 a b c d x y h1 w
    simpa [n0, n1, okP, h1] using this
theorem apart_u (x y x1 y1 : Int) (w : World) : Calls Try.prog 29 #[.agg #[.int .i64 x, .int .i64 y], .agg #[.int .i64 x1, .int .i64 y1]] w fun e w' => e = .returned (.int .u64 (apartU x y x1 y1)) ∧ Below w.heap.size w w' := by
  rcases bcase (fitsB x y) with h1 | h1
  · rcases bcase (fitsB x1 y1) with h2 | h2
    · have := apart_yes x y x1 y1 h1 h2 w
      simpa [apartU, h1, h2] using this
    · have := apart_no2 x y x1 y1 h1 h2 w
      simpa [apartU, h1, h2] using this
  · have := apart_no1 x y x1 y1 h1 w
    simpa [apartU, h1] using this
theorem rapart_u (x y x1 y1 : Int) (w : World) : Calls Try.prog 30 #[.agg #[.int .i64 x, .int .i64 y], .agg #[.int .i64 x1, .int .i64 y1]] w fun e w' => e = .returned (.int .u64 (apartU x y x1 y1)) ∧ Below w.heap.size w w' := by
  rcases bcase (fitsB x1 y1) with h2 | h2
  · have h3 : rightB x1 y1 x1 y1 = true := by rw [right_pt]; exact h2
    rcases bcase (fitsB x y) with h1 | h1
    · have := rapart_yes x y x1 y1 h1 h3 w
      rw [g3_same, g3_same] at this
      simpa [apartU, h1, h2] using this
    · have := rapart_no2 x y x1 y1 h3 h1 w
      simpa [apartU, h1, h2] using this
  · have h3 : rightB x1 y1 x1 y1 = false := by rw [right_pt]; exact h2
    have := rapart_no1 x y x1 y1 h3 w
    simpa [apartU, h2] using this
end Go.Proofs.Ytichfgpmcamhmaa
