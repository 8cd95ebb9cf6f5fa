/- region: the document's alike and line, by contract. -/
import Derived.Test.YtimfcgnnfgoaaaaRgI
import Derived.Test.YtimfcgnnfgoaaaaRgK
import Derived.Deep.RegionLaw
import Derived.Deep.DeepCutAuto
namespace Go.Proofs.Ytimfcgnnfgoaaaa
set_option linter.unusedVariables false
set_option linter.unusedSimpArgs false
open Go.RowKit
/-- A run as a rectangle of its row. -/
def rowR (y : Int) (r : Rn) : Bx := ⟨r.f, y, r.t, y⟩
def lineB (y : Int) (R : List Rn) : List Bx := R.map (rowR y)
theorem lineB_len (y : Int) (R : List Rn) : (lineB y R).length = R.length := by simp [lineB]
theorem lineB_get {y : Int} {R : List Rn} {k : Nat} {x : Rn} (h : R[k]? = some x) : (lineB y R)[k]? = some (rowR y x) := by unfold lineB; rw [List.getElem?_map, h]; rfl
set_option maxRecDepth 100000 in
set_option maxHeartbeats 4000000 in
theorem alike_any (w : World) (v1 v2 : Value) (L M : List Rn) (yy zz : Int) (h1 : ERd elR w v1 (lineB yy L)) (h2 : ERd elR w v2 (lineB zz M)) (hl : L.length ≤ 1000000) (hm : M.length ≤ 1000000) :
    Calls Try.prog 33 #[v1, v2] w fun e w' => e = .returned (.bool (eqRs L M)) ∧ Below w.heap.size w w' := by
  obtain ⟨A1, c1, rfl, -, -⟩ := h1.shape
  obtain ⟨A2, c2, rfl, -, -⟩ := h2.shape
  have H1 := Lib.hid h1
  have H2 := Lib.hid h2
  clear h1 h2
  simp only [lineB_len] at *
  obtain ⟨n, hn⟩ : ∃ n, n = L.length := ⟨_, rfl⟩
  obtain ⟨m, hm2⟩ : ∃ m, m = M.length := ⟨_, rfl⟩
  rw [← hn] at H1 hl ⊢
  rw [← hm2] at H2 hm ⊢
  have HN := Lib.hid hn; have HM := Lib.hid hm2; clear hn hm2
  by_cases hnm : n = m
  · subst hnm
    have hne : ((n : Int) != (n : Int)) = false := by simp
    have HB0 := Lib.hid (show Below w.heap.size w w ∧ ∀ j, j < 0 → L[j]? = M[j]? from ⟨Below.refl _ _, fun j hj => by omega⟩)
    go_enter Try.func33, Try.ntmps33
    go_wp2_with fail
    go_loopw [5] (fun i wr => ∃ (k : Nat), k ≤ n ∧ i = .int .i64 k ∧ Hid (Below w.heap.size w wr ∧ ∀ j, j < k → L[j]? = M[j]?)) (fun i _ => n - (intOf i).toNat)
    case atStart => exact ⟨0, Nat.zero_le _, rfl, HB0⟩
    case round =>
      rename World => wr
      obtain ⟨k, hk, rfl, HB⟩ := hrel
      by_cases hlt : k < n
      · have hki : (k : Int) < (n : Int) := by omega
        have hk0 : (0 : Int) ≤ (k : Int) := by omega
        have hx : L[k]? = some L[k] := List.getElem?_eq_getElem (by rw [← HN.out]; exact hlt)
        have hy : M[k]? = some M[k] := List.getElem?_eq_getElem (by rw [← HM.out]; exact hlt)
        obtain ⟨g1, o1, rfl, -, a0, -, a1, -⟩ := (H1.out.below HB.out.1).rect (lineB_get hx)
        obtain ⟨g2, o2, rfl, -, b0, -, b1, -⟩ := (H2.out.below HB.out.1).rect (lineB_get hy)
        have HX := Lib.hid hx; have HY := Lib.hid hy
        generalize L[k] = x at *
        generalize M[k] = y at *
        clear hx hy
        obtain ⟨x0, x1⟩ := x
        obtain ⟨y0, y1⟩ := y
        simp only [rowR] at a0 a1 b0 b1
        by_cases e0 : x0 = y0
        · by_cases e1 : x1 = y1
          · subst e0; subst e1
            have HR := Lib.hid (show ∀ j, j < k + 1 → L[j]? = M[j]? from fun j hj => by
              by_cases e : j = k
              · subst e; rw [HX.out, HY.out]
              · exact HB.out.2 j (by omega))
            have f0 : (x0 != x0) = false := by simp
            have f1 : (x1 != x1) = false := by simp
            go_wp2_with fail
            go_quiet (fail)
            go_wp2_with fail
            go_roundw
            case rel => exact ⟨k + 1, by omega, by go_num, Lib.hid ⟨⟨HB.out.1.os, HB.out.1.tape, HB.out.1.output, HB.out.1.size, HB.out.1.block⟩, HR.out⟩⟩
            case measure => simp [intOf]; omega
          · have HZ := Lib.hid (eqRs_diff HX.out HY.out (fun h => e1 h.2))
            subst e0
            have f0 : (x0 != x0) = false := by simp
            have f1 : (x1 != y1) = true := by simpa using e1
            clear e1
            go_wp2_with fail
            go_quiet (fail)
            go_wp2_with fail
            go_ret
            exact ⟨by rw [HZ.out]; rfl, ⟨HB.out.1.os, HB.out.1.tape, HB.out.1.output, HB.out.1.size, HB.out.1.block⟩⟩
        · have HZ := Lib.hid (eqRs_diff HX.out HY.out (fun h => e0 h.1))
          have f0 : (x0 != y0) = true := by simpa using e0
          clear e0
          go_wp2_with fail
          go_quiet (fail)
          go_wp2_with fail
          go_ret
          exact ⟨by rw [HZ.out]; rfl, ⟨HB.out.1.os, HB.out.1.tape, HB.out.1.output, HB.out.1.size, HB.out.1.block⟩⟩
      · obtain rfl : k = n := by omega
        have HZ := Lib.hid (eqRs_same HB.out.2 HN.out HM.out)
        go_wp2
        go_ret
        exact ⟨by rw [HZ.out]; rfl, HB.out.1⟩
  · have hne : ((n : Int) != (m : Int)) = true := by simp; omega
    have HZ := Lib.hid (eqRs_len (a := L) (b := M) (by rw [← HN.out, ← HM.out]; exact hnm))
    clear hnm
    go_enter Try.func33, Try.ntmps33
    go_wp2
    go_ret
    exact ⟨by rw [HZ.out]; rfl, Below.refl _ _⟩
end Go.Proofs.Ytimfcgnnfgoaaaa
