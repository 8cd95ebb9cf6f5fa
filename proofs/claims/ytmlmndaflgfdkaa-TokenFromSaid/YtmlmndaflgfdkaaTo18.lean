/- The document's Same of tickets, by contract. -/
import Derived.Test.YtmlmndaflgfdkaaTo17
namespace Go.Proofs.Ytmlmndaflgfdkaa
set_option linter.unusedVariables false
set_option linter.unusedSimpArgs false
open Go.RowKit
set_option maxRecDepth 100000 in
set_option maxHeartbeats 8000000 in
theorem rsameT_any (w : World) (u v : Value) (L : List Tk) (h : ERd elT w u L) (h2 : ERd elT w v L) (hl : L.length ≤ 1000000) :
    Calls Try.prog 20 #[u, v] w fun e w' => e = .returned (.bool true) ∧ ∃ q, w' = w.drewN q := by
  obtain ⟨A1, c1, rfl, -, -⟩ := h.shape
  obtain ⟨A2, c2, rfl, -, -⟩ := h2.shape
  have HO := Lib.hid h
  have HP := Lib.hid h2
  clear h h2
  obtain ⟨n, hn⟩ : ∃ n, n = L.length := ⟨_, rfl⟩
  rw [← hn] at HO HP hl ⊢
  have HN := Lib.hid hn; clear hn
  go_enter Try.func20, Try.ntmps20
  go_wp2_with fail
  go_loopw [5] (fun i wr => ∃ k : Nat, k ≤ n ∧ i = .int .i64 k ∧ Hid (∃ q, wr = w.drewN q)) (fun i _ => n - (intOf i).toNat)
  case atStart => exact ⟨0, Nat.zero_le _, rfl, 0, rfl⟩
  case round =>
    rename World => wr
    obtain ⟨k, hk, rfl, HQ⟩ := hrel
    by_cases hlt : k < n
    · have hkl : k < L.length := by rw [← HN.out]; exact hlt
      have hx : L[k]? = some L[k] := List.getElem?_eq_getElem hkl
      have hbw : Below w.heap.size w wr := by obtain ⟨q, rfl⟩ := HQ.out; exact below_drawn (Below.refl _ _) q
      obtain ⟨g, o, rfl, hgz, a0, a1, a2, a3, a4, a5, a6, a7, a8, a9⟩ := (HO.out.below hbw).ten hx
      obtain ⟨g', o', rfl, hgz', b0, b1, b2, b3, b4, b5, b6, b7, b8, b9⟩ := (HP.out.below hbw).ten hx
      generalize L[k] = x at *
      clear hx hbw
      obtain ⟨xs, xp, ⟨g0, g1, g2, g3, g4, g5, g6, g7⟩⟩ := x
      simp only at a0 a1 a2 a3 a4 a5 a6 a7 a8 a9 b0 b1 b2 b3 b4 b5 b6 b7 b8 b9
      have hlt2 : (k : Int) < n := by omega
      go_upto_region 6 with fail
      have e0 : ((xs : Int) == (xs : Int)) = true := by simp
      have e1 : ((xp : Int) == (xp : Int)) = true := by simp
      have e2 : (g0 == g0) = true := by simp
      have e3 : (g1 == g1) = true := by simp
      have e4 : (g2 == g2) = true := by simp
      have e5 : (g3 == g3) = true := by simp
      have e6 : (g4 == g4) = true := by simp
      have e7 : (g5 == g5) = true := by simp
      have e8 : (g6 == g6) = true := by simp
      have e9 : (g7 == g7) = true := by simp
      go_region
      clear a0 a1 a2 a3 a4 a5 a6 a7 a8 a9 b0 b1 b2 b3 b4 b5 b6 b7 b8 b9
      go_wp2
      go_roundw
      case rel => exact ⟨k + 1, by omega, by go_num, by obtain ⟨q, rfl⟩ := HQ.out; exact ⟨q + 1, rfl⟩⟩
      case measure => simp [intOf]; omega
    · obtain rfl : k = n := by omega
      go_wp2
      go_ret
      exact ⟨rfl, HQ.out⟩
end Go.Proofs.Ytmlmndaflgfdkaa
