/- The document's Below by contract. -/
import Derived.Test.YtdnjhaplofakbaaSame
namespace Go.Proofs.Ytdnjhaplofakbaa
set_option linter.unusedVariables false
set_option linter.unusedSimpArgs false
open Go.RowKit
/-- The order of bytes. -/
def lexL : List UInt8 → List UInt8 → Bool
  | x :: a, y :: b => if x = y then lexL a b else decide (x.toNat < y.toNat)
  | _, _ => false
theorem lexL_same (n : Nat) (xs ys : List UInt8) (h : xs.take n = ys.take n) (hx : n ≤ xs.length) (hy : n ≤ ys.length) : lexL xs ys = lexL (xs.drop n) (ys.drop n) := by
  induction n generalizing xs ys with
  | zero => rfl
  | succ n ih => cases xs with
    | nil => simp at hx
    | cons x a => cases ys with
      | nil => simp at hy
      | cons y b =>
        simp only [List.take_succ_cons, List.cons.injEq] at h
        simp only [lexL, h.1, if_true, List.drop_succ_cons]
        exact ih a b h.2 (by simpa using hx) (by simpa using hy)
theorem lexL_at (k : Nat) (xs ys : List UInt8) (h : xs.take k = ys.take k) (hx : k < xs.length) (hy : k < ys.length) (hne : xs[k] ≠ ys[k]) : lexL xs ys = decide (xs[k].toNat < ys[k].toNat) := by
  rw [lexL_same k xs ys h (by omega) (by omega), List.drop_eq_getElem_cons hx, List.drop_eq_getElem_cons hy, lexL, if_neg hne]
theorem lexL_end (xs ys : List UInt8) (n : Nat) (hx : xs.length = n) (hy : ys.length = n) (h : xs.take n = ys.take n) : lexL xs ys = false := by
  rw [lexL_same n xs ys h (by omega) (by omega), List.drop_of_length_le (by omega)]; rfl
set_option maxHeartbeats 400000 in
theorem below_any (A B : Option Addr) (n c d : Nat) (xs ys : List UInt8) (w : World) (ha : RB w A n xs) (hb : RB w B n ys) (hn : n ≤ 8) :
    Calls Try.prog 23 #[.slice A n c, .slice B n d] w fun e w' => e = .returned (.bool (lexL xs ys)) ∧ ∃ q, w' = w.drewN q := by
  have HX := Lib.hid ha.len
  have HY := Lib.hid hb.len
  go_enter Try.func23, Try.ntmps23
  go_wp2
  go_loopw [5] (fun i wr => ∃ k q : Nat, k ≤ n ∧ i = .int .i64 k ∧ wr = w.drewN q ∧ Hid (xs.take k = ys.take k)) (fun i _ => n - (intOf i).toNat)
  case atStart => exact ⟨0, 0, Nat.zero_le _, rfl, rfl, rfl⟩
  case round =>
    obtain ⟨k, q, hk, rfl, rfl, HS⟩ := hrel
    by_cases hlt : k < n
    · obtain ⟨ad, rfl, hab, hac⟩ := ha.at k hlt
      obtain ⟨bd, rfl, hbb, hbc⟩ := hb.at k hlt
      by_cases hq : xs[k]'(by rw [HX.out]; exact hlt) = ys[k]'(by rw [HY.out]; exact hlt)
      · have HQ := Lib.hid (same_step xs ys k (by rw [HX.out]; exact hlt) (by rw [HY.out]; exact hlt) HS hq)
        have ht : (((xs[k]'(by rw [HX.out]; exact hlt)).toNat : Int) != ((ys[k]'(by rw [HY.out]; exact hlt)).toNat : Int)) = false := by simp [hq]
        clear hq
        go_wp2
        go_quiet (fail)
        go_wp2
        go_roundw
        case rel => exact ⟨k + 1, _, by omega, by go_num, rfl, HQ.out⟩
        case measure => simp [intOf]; omega
      · have HQ := Lib.hid (lexL_at k xs ys HS (by rw [HX.out]; exact hlt) (by rw [HY.out]; exact hlt) hq)
        have ht : (((xs[k]'(by rw [HX.out]; exact hlt)).toNat : Int) != ((ys[k]'(by rw [HY.out]; exact hlt)).toNat : Int)) = true := by
          simp only [bne_iff_ne, ne_eq, Int.natCast_inj]; exact fun e => hq (UInt8.toNat.inj e)
        clear hq
        go_wp2
        go_quiet (fail)
        go_wp2
        go_quiet (fail)
        go_wp2
        go_ret
        refine ⟨?_, _, by rw [World.drewN_drewN, World.drewN_drewN]⟩
        rw [HQ.out]
        simp
    · have HQ := Lib.hid (lexL_end xs ys n HX.out HY.out (by rw [show n = k by omega]; exact HS.out))
      go_wp2
      go_ret
      exact ⟨by rw [HQ.out]; rfl, _, rfl⟩
end Go.Proofs.Ytdnjhaplofakbaa
