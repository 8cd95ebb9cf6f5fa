/- region: runs compared, rectangles of a strip, by contract. -/
import Derived.Test.YtimfcgnnfgoaaaaRgG
namespace Go.Proofs.Ytimfcgnnfgoaaaa
set_option linter.unusedVariables false
set_option linter.unusedSimpArgs false
open Go.RowKit
theorem eqRs_len {a b : List Rn} (h : a.length ≠ b.length) : eqRs a b = false := by
  cases h2 : eqRs a b with
  | false => rfl
  | true => rw [(eqRs_iff a b).1 h2] at h; exact absurd rfl h
theorem eqRs_diff {a b : List Rn} {k : Nat} {x y : Rn} (hx : a[k]? = some x) (hy : b[k]? = some y) (h : ¬ (x.f = y.f ∧ x.t = y.t)) : eqRs a b = false := by
  cases h2 : eqRs a b with
  | false => rfl
  | true =>
    rw [(eqRs_iff a b).1 h2, hy] at hx
    simp only [Option.some.injEq] at hx
    exact absurd (by rw [hx]; exact ⟨rfl, rfl⟩) h
theorem eqRs_same {a b : List Rn} {k : Nat} (h : ∀ j, j < k → a[j]? = b[j]?) (ha : k = a.length) (hb : k = b.length) : eqRs a b = true := by
  rw [eqRs_iff]
  apply List.ext_getElem?
  intro i
  by_cases hi : i < k
  · exact h i hi
  · rw [List.getElem?_eq_none (by omega), List.getElem?_eq_none (by omega)]
set_option maxRecDepth 100000 in
set_option maxHeartbeats 4000000 in
theorem equalR_any (w : World) (v1 v2 : Value) (L M : List Rn) (h1 : ERd elRn w v1 L) (h2 : ERd elRn w v2 M) (hl : L.length ≤ 1000000) (hm : M.length ≤ 1000000) :
    Calls Try.prog 50 #[v1, v2] w fun e w' => e = .returned (.bool (eqRs L M)) ∧ Below w.heap.size w w' := by
  obtain ⟨A1, c1, rfl, -, -⟩ := h1.shape
  obtain ⟨A2, c2, rfl, -, -⟩ := h2.shape
  have H1 := Lib.hid h1
  have H2 := Lib.hid h2
  clear h1 h2
  obtain ⟨n, hn⟩ : ∃ n, n = L.length := ⟨_, rfl⟩
  obtain ⟨m, hm2⟩ : ∃ m, m = M.length := ⟨_, rfl⟩
  rw [← hn] at H1 hl ⊢
  rw [← hm2] at H2 hm ⊢
  have HN := Lib.hid hn; have HM := Lib.hid hm2; clear hn hm2
  by_cases hnm : n = m
  · subst hnm
    have hne : ((n : Int) != (n : Int)) = false := by simp
    have HB0 := Lib.hid (show Below w.heap.size w w ∧ ∀ j, j < 0 → L[j]? = M[j]? from ⟨Below.refl _ _, fun j hj => by omega⟩)
    go_enter Try.func50, Try.ntmps50
    go_wp2_with fail
    go_loopw [5, 13] (fun _ i wr => ∃ (k : Nat), k ≤ n ∧ i = .int .i64 k ∧ Hid (Below w.heap.size w wr ∧ ∀ j, j < k → L[j]? = M[j]?)) (fun _ i _ => n - (intOf i).toNat)
    case atStart => exact ⟨0, Nat.zero_le _, rfl, HB0⟩
    case round =>
      rename World => wr
      obtain ⟨k, hk, rfl, HB⟩ := hrel
      by_cases hlt : k < n
      · have hki : (k : Int) < (n : Int) := by omega
        have hk0 : (0 : Int) ≤ (k : Int) := by omega
        have hx : L[k]? = some L[k] := List.getElem?_eq_getElem (by rw [← HN.out]; exact hlt)
        have hy : M[k]? = some M[k] := List.getElem?_eq_getElem (by rw [← HM.out]; exact hlt)
        obtain ⟨g1, o1, rfl, -, a0, a1⟩ := (H1.out.below HB.out.1).run2 hx
        obtain ⟨g2, o2, rfl, -, b0, b1⟩ := (H2.out.below HB.out.1).run2 hy
        have HX := Lib.hid hx; have HY := Lib.hid hy
        generalize L[k] = x at *
        generalize M[k] = y at *
        clear hx hy
        obtain ⟨x0, x1⟩ := x
        obtain ⟨y0, y1⟩ := y
        simp only at a0 a1 b0 b1
        by_cases e0 : x0 = y0
        · by_cases e1 : x1 = y1
          · subst e0; subst e1
            have HR := Lib.hid (show ∀ j, j < k + 1 → L[j]? = M[j]? from fun j hj => by
              by_cases e : j = k
              · subst e; rw [HX.out, HY.out]
              · exact HB.out.2 j (by omega))
            have f0 : (x0 == x0) = true := by simp
            have f1 : (x1 == x1) = true := by simp
            go_wp2_with fail
            go_quiet (fail)
            go_wp2_with fail
            go_roundw
            case rel => exact ⟨k + 1, by omega, by go_num, Lib.hid ⟨⟨HB.out.1.os, HB.out.1.tape, HB.out.1.output, HB.out.1.size, HB.out.1.block⟩, HR.out⟩⟩
            case measure => simp [intOf]; omega
          · have HZ := Lib.hid (eqRs_diff HX.out HY.out (fun h => e1 h.2))
            subst e0
            have f0 : (x0 == x0) = true := by simp
            have f1 : (x1 == y1) = false := by simpa using e1
            clear e1
            go_wp2_with fail
            go_quiet (fail)
            go_wp2_with fail
            go_ret
            exact ⟨by rw [HZ.out]; rfl, ⟨HB.out.1.os, HB.out.1.tape, HB.out.1.output, HB.out.1.size, HB.out.1.block⟩⟩
        · have HZ := Lib.hid (eqRs_diff HX.out HY.out (fun h => e0 h.1))
          have f0 : (x0 == y0) = false := by simpa using e0
          clear e0
          go_wp2_with fail
          go_quiet (fail)
          go_wp2_with fail
          go_ret
          exact ⟨by rw [HZ.out]; rfl, ⟨HB.out.1.os, HB.out.1.tape, HB.out.1.output, HB.out.1.size, HB.out.1.block⟩⟩
      · obtain rfl : k = n := by omega
        have HZ := Lib.hid (eqRs_same HB.out.2 HN.out HM.out)
        go_wp2
        go_ret
        exact ⟨by rw [HZ.out]; rfl, HB.out.1⟩
  · have hne : ((n : Int) != (m : Int)) = true := by simp; omega
    have HZ := Lib.hid (eqRs_len (a := L) (b := M) (by rw [← HN.out, ← HM.out]; exact hnm))
    clear hnm
    go_enter Try.func50, Try.ntmps50
    go_wp2
    go_ret
    exact ⟨by rw [HZ.out]; rfl, Below.refl _ _⟩
theorem new_rect (w : World) (t : TypeId) (x : Bx) : ∀ j u, (elR.enc x)[j]? = some u → (w.alloc (.cells #[.int .i64 x.x0, .int .i64 x.y0, .int .i64 x.x1, .int .i64 x.y1] t)).cell? ⟨w.heap.size, j, none⟩ = some u := fun j u hu => new_cellT _ _ _ j (by simpa [elR] using hu)
set_option maxRecDepth 100000 in
set_option maxHeartbeats 4000000 in
theorem rects_any (w : World) (f t : Int) (A : Option Addr) (n c : Nat) (R : List Rn) (h : ERd elRn w (.slice A n c) R) (hl : R.length ≤ 100000) :
    Calls Try.prog 51 #[.agg #[.int .i64 f, .int .i64 t, .slice A n c]] w fun e w' => ∃ v, e = .returned v ∧ FE elR w v (rectsB ⟨f, t, R⟩) w' := by
  have hn := ERd.len h
  have HN := Lib.hid hn
  rw [← hn] at hl
  clear hn
  have hB : Below w.heap.size w (w.alloc (.cells #[.int .i64 f, .int .i64 t, .slice A n c] 72)) := (Below.refl _ _).alloc (Nat.le_refl _) _
  have HR := Lib.hid (h.below hB)
  have HKB := Lib.hid (Blk.new w 72 #[.int .i64 f, .int .i64 t, .slice A n c])
  have HF0 := Lib.hid (FE.nil_ (E := elR) w _ hB)
  have HTY := Lib.hid (show Try.prog.underlying 22 = some (.slice elR.T) from Try.underlying22)
  clear h hB
  go_enter Try.func51, Try.ntmps51
  go_wp2_with fail
  generalize (w.alloc (.cells #[.int .i64 f, .int .i64 t, .slice A n c] 72)) = W at *
  have HF0' := Lib.hid (show FE elR W (.slice none 0 0) [] W from FE.nil_ _ _ (Below.refl _ _))
  generalize hsz : w.heap.size = b at *
  have HSZ := Lib.hid hsz; clear hsz
  go_loopw [3, 9] (fun v i wr => ∃ (k : Nat) (v0 : Value), k ≤ n ∧ v = v0 ∧ i = .int .i64 k ∧ Hid (FE elR W v0 (rectsB ⟨f, t, R.take k⟩) wr)) (fun _ i _ => n - (intOf i).toNat)
  case atStart => exact ⟨0, _, Nat.zero_le _, rfl, rfl, by simpa [Hid, rectsB] using HF0'.out⟩
  case round =>
    rename World => wr
    obtain ⟨k, v0, hk, hv, rfl, HF⟩ := hrel
    have hv' := hv.symm
    clear hv
    subst hv'
    by_cases hlt : k < n
    · have hki : (k : Int) < (n : Int) := by omega
      have hkl : k < R.length := by rw [← HN.out]; exact hlt
      have hx : R[k]? = some R[k] := List.getElem?_eq_getElem hkl
      have HTK := Lib.hid (show rectsB ⟨f, t, R.take (k + 1)⟩ = rectsB ⟨f, t, R.take k⟩ ++ [⟨R[k].f, f, R[k].t, t⟩] by rw [List.take_succ_eq_append_getElem hkl]; unfold rectsB; rw [List.map_append]; rfl)
      have HLE := Lib.hid (show (rectsB ⟨f, t, R.take k⟩).length ≤ 1000000 by unfold rectsB; rw [List.length_map, List.length_take]; omega)
      obtain ⟨g, o, rfl, hg, a0, a1⟩ := (HR.out.below HF.out.bel).run2 hx
      generalize R[k] = x at *
      clear hx hg
      obtain ⟨x0, x1⟩ := x
      simp only at a0 a1 HTK
      have hal : Below wr.heap.size wr (wr.alloc (.cells #[.int .i64 x0, .int .i64 x1] 75)) := (Below.refl _ _).alloc (Nat.le_refl _) _
      have HF1 := Lib.hid (HF.out.below hal)
      have k0 := (HKB.out.thru0 (below_trans HF.out.bel hal)).cell 0
      have k1 := (HKB.out.thru0 (below_trans HF.out.bel hal)).cell 1
      simp only [List.getElem?_toArray, List.getElem?_cons_zero, List.getElem?_cons_succ] at k0 k1
      have HZ1 := Lib.hid (show (wr.alloc (.cells #[.int .i64 x0, .int .i64 x1] 75)).heap.size = wr.heap.size + 1 by simp)
      have HNW := Lib.hid (show ∀ j u, (elR.enc ⟨x0, f, x1, t⟩)[j]? = some u → ((wr.alloc (.cells #[.int .i64 x0, .int .i64 x1] 75)).alloc (.cells #[.int .i64 x0, .int .i64 f, .int .i64 x1, .int .i64 t] 39)).cell? ⟨wr.heap.size + 1, j, none⟩ = some u from fun j u hu => by
        rw [(Blk.newAt HZ1.out).cell]; simpa [elR] using hu)
      clear hal
      generalize hRB : rectsB ⟨f, t, R.take k⟩ = RB at *
      clear hRB
      obtain ⟨A5, c5, rfl, -, -⟩ := HF.out.own.slice
      go_wp2_with ((at_builtin; refine wpList_epush elR_ok rfl (.tmp 13) (.tmp 23) _ rfl HTY.out _ RB ⟨x0, f, x1, t⟩ (wr.heap.size + 1) 1 rfl rfl (HF1.out.own.below ((Below.refl _ _).alloc (Nat.le_refl _) _)) HNW.out HLE.out ?_; intro v2 w3 hA2; have HP2 := Lib.hid (HF1.out.push hA2); clear hA2))
      go_roundw
      case rel => exact ⟨k + 1, _, by omega, rfl, by go_num, by have h9 := HP2.out; rw [← HTK.out] at h9; exact h9⟩
      case measure => simp [intOf]; omega
    · obtain rfl : k = n := by omega
      have HZ := Lib.hid (show ∃ v, Ending.returned v0 = .returned v ∧ FE elR w v (rectsB ⟨f, t, R⟩) wr from ⟨v0, rfl, by
        have h9 := HF.out.up HF0.out.bel
        rw [List.take_of_length_le (by rw [← HN.out]; omega)] at h9
        exact h9⟩)
      clear HF
      go_wp2
      go_ret
      exact HZ.out
end Go.Proofs.Ytimfcgnnfgoaaaa
