/- wire: what a walk over a request's fields reads and writes, plainly. -/
import Derived.Test.YthlmldbgohnpnaaWrA
namespace Go.Proofs.Ythlmldbgohnpnaa
set_option linter.unusedVariables false
set_option linter.unusedSimpArgs false
open Go.RowKit
theorem Wk.whole2 (ct : Int) (L : Bs) (b : Bool) (k n : Nat) : (⟨2, ct, L, b⟩ : Wk).whole k n = ⟨2, ct, L.drop k, b⟩ := rfl
theorem Wk.num2 (ct : Int) (L : Bs) (b : Bool) (k n : Nat) : (⟨2, ct, L, b⟩ : Wk).num k n = getB (L.take k) := rfl
theorem Wk.whole1 (ct : Int) (L : Bs) (b : Bool) (k n : Nat) : (⟨1, ct, L, b⟩ : Wk).whole k n = ⟨1, ct, L ++ putL n k, b⟩ := rfl
theorem Wk.num1 (ct : Int) (L : Bs) (b : Bool) (k n : Nat) : (⟨1, ct, L, b⟩ : Wk).num k n = n := rfl
theorem Wk.txt2 (ct : Int) (L : Bs) (b : Bool) (t : Bs) : (⟨2, ct, L, b⟩ : Wk).txt t = ⟨2, ct, [], b⟩ := rfl
theorem Wk.txtC2 (ct : Int) (L : Bs) (b : Bool) (t : Bs) : (⟨2, ct, L, b⟩ : Wk).txtC t = L := rfl
theorem Wk.txt1 (ct : Int) (L : Bs) (b : Bool) (t : Bs) : (⟨1, ct, L, b⟩ : Wk).txt t = ⟨1, ct, L ++ t.take 512, b⟩ := rfl
theorem Wk.txtC1 (ct : Int) (L : Bs) (b : Bool) (t : Bs) : (⟨1, ct, L, b⟩ : Wk).txtC t = t := rfl
theorem toI_get (L : Bs) (k : Nat) (h : k ≤ 7) : toI (getB (L.take k)) = (getB (L.take k) : Int) := by
  have h1 := getB_lt (L.take k)
  have h2 : (256 : Nat) ^ (L.take k).length ≤ 256 ^ 7 := Nat.pow_le_pow_right (by omega) (by rw [List.length_take]; omega)
  have h3 : (256 : Nat) ^ 7 = 72057594037927936 := by decide
  unfold toI
  rw [if_pos (by omega)]
/-- The number of k bytes behind a. -/
def gN (L : Bs) (a k : Nat) : Nat := getB ((L.drop a).take k)
def hdR (L : Bs) : Rq := { Rq.z with op := gN L 0 1, ten := gN L 1 1, usr := gN L 2 2, sec := gN L 4 8, m := gN L 12 1 }
def boxR (L : Bs) (a : Nat) (r : Rq) : Rq := { r with x0 := gN L a 2, y0 := gN L (a + 2) 2, x1 := gN L (a + 4) 2, y1 := gN L (a + 6) 2 }
def fdR : Nat → Bs → Rq → Rq
  | 1, L, r => { r with who := gN L 0 2, role := gN L 2 1, tier := gN L 3 1, quota := gN L 4 2 }
  | 2, L, r => { r with who := gN L 0 2 }
  | 3, L, r => { r with text := L }
  | 4, L, r => { r with who := gN L 0 2, rights := gN L 2 1, til := gN L 3 4 }
  | 5, L, r => { boxR L 2 r with rights := gN L 0 1, zoom := gN L 1 1, til := gN L 10 4 }
  | 6, L, r => { r with oth := gN L 0 8 }
  | 7, L, r => { r with k := gN L 0 2, area := gN L 2 8 }
  | 8, L, r => { r with px := gN L 0 2, py := gN L 2 2, lab := gN L 4 1 }
  | 13, L, r => boxR L 0 r
  | 14, L, r => { r with px := gN L 0 2, py := gN L 2 2 }
  | 15, L, r => boxR L 0 r
  | 16, L, r => { r with px := gN L 0 2, py := gN L 2 2 }
  | 17, L, r => { r with fro := gN L 0 2 }
  | 19, L, r => { r with who := gN L 0 2, quota := gN L 2 2 }
  | _, _, r => r
def badB (r : Rq) : Bool := !(rightB r.x0 r.y0 r.x1 r.y1)
def badR : Nat → Rq → Bool
  | 1, r => decide (7 < r.role) || decide (7 < r.tier)
  | 4, r => decide (31 < r.rights)
  | 5, r => decide (31 < r.rights) || decide (16 < r.zoom) || badB r
  | 8, r => decide (7 < r.lab)
  | 13, r => badB r
  | 15, r => badB r
  | _, _ => false
def leftR (k : Nat) (L : Bs) : Bs := if k = 3 then [] else L.drop (fieldsN k)
theorem head_read (L : Bs) : runs headS (⟨2, 0, L, false⟩, Rq.z.cs) = (⟨2, 0, L.drop 13, decide (64 < (hdR L).m)⟩, (hdR L).cs) := by
  simp [runs, headS, Sp.run, Wk.nums, Wk.ups, Wk.tops, Wk.whole2, Wk.num2, toI_get, gN, hdR, Rq.cs, Rq.l, Rq.z, List.drop_drop, intOf]
set_option maxHeartbeats 1000000 in
theorem fields_read (k : Nat) (h1 : 1 ≤ k) (h19 : k ≤ 19) (L : Bs) (r : Rq) : runs (fieldsS k) (⟨2, 0, L, false⟩, r.cs) = (⟨2, 0, leftR k L, badR k (fdR k L r)⟩, (fdR k L r).cs) := by
  have hk : k = 1 ∨ k = 2 ∨ k = 3 ∨ k = 4 ∨ k = 5 ∨ k = 6 ∨ k = 7 ∨ k = 8 ∨ k = 9 ∨ k = 10 ∨ k = 11 ∨ k = 12 ∨ k = 13 ∨ k = 14 ∨ k = 15 ∨ k = 16 ∨ k = 17 ∨ k = 18 ∨ k = 19 := by omega
  rcases hk with rfl | rfl | rfl | rfl | rfl | rfl | rfl | rfl | rfl | rfl | rfl | rfl | rfl | rfl | rfl | rfl | rfl | rfl | rfl
  all_goals
    simp [runs, fieldsS, fieldsN, leftR, Sp.size, Sp.run, Wk.nums, Wk.ups, Wk.tops, Wk.boxs, boxL, boxR, badR, badB, Wk.whole2, Wk.num2, Wk.txt2, Wk.txtC2, toI_get, gN, fdR, Rq.cs, Rq.l, List.drop_drop, intOf, iAt, bs]
end Go.Proofs.Ythlmldbgohnpnaa
