/- wire: the document's With and Range, by contract. -/
import Derived.Test.YthlmldbgohnpnaaWrQ
import Derived.Test.YthlmldbgohnpnaaGeomRef
namespace Go.Proofs.Ythlmldbgohnpnaa
set_option linter.unusedVariables false
set_option linter.unusedSimpArgs false
open Go.RowKit
theorem gN_4 {L : Bs} {a k : Nat} (h : k ≤ 4) : gN L a k ≤ 4294967295 := by
  have h1 := getB_lt ((L.drop a).take k)
  have h2 : (256 : Nat) ^ ((L.drop a).take k).length ≤ 256 ^ 4 := Nat.pow_le_pow_right (by omega) (by rw [List.length_take]; omega)
  have h3 : (256 : Nat) ^ 4 = 4294967296 := by decide
  unfold gN
  omega
theorem EOwn.ucell {w : World} {g n c : Nat} {L : List Nat} (h : EOwn elU w (.slice (some ⟨g, 0, none⟩) n c) L) {j x : Nat} (hj : L[j]? = some x) : w.cell? ⟨g, j, none⟩ = some (.int .u64 (x : Int)) := by
  obtain ⟨_, g', e, hc⟩ := EOwn.cell elU_ok h hj
  obtain rfl : g = g' := by simpa using e
  have := hc 0 (.int .u64 (x : Int)) rfl
  simpa [elU] using this
theorem EOwn.uform {w : World} {v : Value} {x : Nat} {L : List Nat} (h : EOwn elU w v (x :: L)) : ∃ g c, v = .slice (some ⟨g, 0, none⟩) (x :: L).length c ∧ (x :: L).length ≤ c ∧ c ≤ maxLen := by
  obtain ⟨A, c, rfl, h1, h2⟩ := h.slice
  obtain ⟨_, g, rfl, _⟩ := EOwn.cell elU_ok h (i := 0) (x := x) rfl
  exact ⟨g, c, rfl, h1, h2⟩
theorem with_any (w : World) (r : Rq) (k : Nat) (hop : r.op = (k : Int)) (h1 : 1 ≤ k) (h19 : k ≤ 19) (M : Bs) (v : Value) (hv : EOwn elU w v (numsR M 0 (widL k))) :
    Calls Try.prog 22 #[.agg r.cs, v, .string (bs (if k = 3 then M else []))] w fun e w' => e = .returned (.agg (fdR k M r).cs) ∧ Below w.heap.size w w' := by
  have hk : k = 1 ∨ k = 2 ∨ k = 3 ∨ k = 4 ∨ k = 5 ∨ k = 6 ∨ k = 7 ∨ k = 8 ∨ k = 9 ∨ k = 10 ∨ k = 11 ∨ k = 12 ∨ k = 13 ∨ k = 14 ∨ k = 15 ∨ k = 16 ∨ k = 17 ∨ k = 18 ∨ k = 19 := by omega
  rcases hk with rfl | rfl | rfl | rfl | rfl | rfl | rfl | rfl | rfl | rfl | rfl | rfl | rfl | rfl | rfl | rfl | rfl | rfl | rfl
  · obtain ⟨g, c, rfl, hlc, hcm⟩ := hv.uform
    exact with_1 w r hop _ g c _ _ _ _  (gN_4 (by decide)) (gN_4 (by decide)) (gN_4 (by decide)) (gN_4 (by decide)) (hv.ucell rfl) (hv.ucell rfl) (hv.ucell rfl) (hv.ucell rfl) hlc hcm
  · obtain ⟨g, c, rfl, hlc, hcm⟩ := hv.uform
    exact with_2 w r hop _ g c _  (gN_4 (by decide)) (hv.ucell rfl) hlc hcm
  · obtain ⟨A, c, rfl, _, _⟩ := hv.slice
    exact with_3 w r hop _ A _ c
  · obtain ⟨g, c, rfl, hlc, hcm⟩ := hv.uform
    exact with_4 w r hop _ g c _ _ _  (gN_4 (by decide)) (gN_4 (by decide)) (gN_4 (by decide)) (hv.ucell rfl) (hv.ucell rfl) (hv.ucell rfl) hlc hcm
  · obtain ⟨g, c, rfl, hlc, hcm⟩ := hv.uform
    exact with_5 w r hop _ g c _ _ _ _ _ _ _  (gN_4 (by decide)) (gN_4 (by decide)) (gN_4 (by decide)) (gN_4 (by decide)) (gN_4 (by decide)) (gN_4 (by decide)) (gN_4 (by decide)) (hv.ucell rfl) (hv.ucell rfl) (hv.ucell rfl) (hv.ucell rfl) (hv.ucell rfl) (hv.ucell rfl) (hv.ucell rfl) hlc hcm
  · obtain ⟨g, c, rfl, hlc, hcm⟩ := hv.uform
    exact with_6 w r hop _ g c _  (hv.ucell rfl) hlc hcm
  · obtain ⟨g, c, rfl, hlc, hcm⟩ := hv.uform
    exact with_7 w r hop _ g c _ _  (gN_4 (by decide)) (hv.ucell rfl) (hv.ucell rfl) hlc hcm
  · obtain ⟨g, c, rfl, hlc, hcm⟩ := hv.uform
    exact with_8 w r hop _ g c _ _ _  (gN_4 (by decide)) (gN_4 (by decide)) (gN_4 (by decide)) (hv.ucell rfl) (hv.ucell rfl) (hv.ucell rfl) hlc hcm
  · obtain ⟨A, c, rfl, _, _⟩ := hv.slice
    exact with_9 w r hop _ A _ c
  · obtain ⟨A, c, rfl, _, _⟩ := hv.slice
    exact with_10 w r hop _ A _ c
  · obtain ⟨A, c, rfl, _, _⟩ := hv.slice
    exact with_11 w r hop _ A _ c
  · obtain ⟨A, c, rfl, _, _⟩ := hv.slice
    exact with_12 w r hop _ A _ c
  · obtain ⟨g, c, rfl, hlc, hcm⟩ := hv.uform
    exact with_13 w r hop _ g c _ _ _ _  (gN_4 (by decide)) (gN_4 (by decide)) (gN_4 (by decide)) (gN_4 (by decide)) (hv.ucell rfl) (hv.ucell rfl) (hv.ucell rfl) (hv.ucell rfl) hlc hcm
  · obtain ⟨g, c, rfl, hlc, hcm⟩ := hv.uform
    exact with_14 w r hop _ g c _ _  (gN_4 (by decide)) (gN_4 (by decide)) (hv.ucell rfl) (hv.ucell rfl) hlc hcm
  · obtain ⟨g, c, rfl, hlc, hcm⟩ := hv.uform
    exact with_15 w r hop _ g c _ _ _ _  (gN_4 (by decide)) (gN_4 (by decide)) (gN_4 (by decide)) (gN_4 (by decide)) (hv.ucell rfl) (hv.ucell rfl) (hv.ucell rfl) (hv.ucell rfl) hlc hcm
  · obtain ⟨g, c, rfl, hlc, hcm⟩ := hv.uform
    exact with_16 w r hop _ g c _ _  (gN_4 (by decide)) (gN_4 (by decide)) (hv.ucell rfl) (hv.ucell rfl) hlc hcm
  · obtain ⟨g, c, rfl, hlc, hcm⟩ := hv.uform
    exact with_17 w r hop _ g c _  (gN_4 (by decide)) (hv.ucell rfl) hlc hcm
  · obtain ⟨A, c, rfl, _, _⟩ := hv.slice
    exact with_18 w r hop _ A _ c
  · obtain ⟨g, c, rfl, hlc, hcm⟩ := hv.uform
    exact with_19 w r hop _ g c _ _  (gN_4 (by decide)) (gN_4 (by decide)) (hv.ucell rfl) (hv.ucell rfl) hlc hcm
def rangeB (r : Rq) : Bool := !((decide (r.op = 5) || (decide (r.op = 13) || decide (r.op = 15))) && badB r) && (decide (r.role ≤ 7) && (decide (r.tier ≤ 7) && (decide (r.lab ≤ 7) && (decide (r.rights ≤ 31) && decide (r.zoom ≤ 16)))))
theorem range_fd (k : Nat) (h1 : 1 ≤ k) (h19 : k ≤ 19) (M L : Bs) (hop : (hdR L).op = (k : Int)) : rangeB (fdR k M (hdR L)) = !(badR k (fdR k M (hdR L))) := by
  have ho : (fdR k M (hdR L)).op = (k : Int) := by rw [(fdR_head k M (hdR L)).1, hop]
  have hk : k = 1 ∨ k = 2 ∨ k = 3 ∨ k = 4 ∨ k = 5 ∨ k = 6 ∨ k = 7 ∨ k = 8 ∨ k = 9 ∨ k = 10 ∨ k = 11 ∨ k = 12 ∨ k = 13 ∨ k = 14 ∨ k = 15 ∨ k = 16 ∨ k = 17 ∨ k = 18 ∨ k = 19 := by omega
  unfold rangeB
  rw [ho]
  rcases hk with rfl | rfl | rfl | rfl | rfl | rfl | rfl | rfl | rfl | rfl | rfl | rfl | rfl | rfl | rfl | rfl | rfl | rfl | rfl
  all_goals
    rw [Bool.eq_iff_iff]
    simp [badR, fdR, boxR, hdR, Rq.z, badB]
  all_goals try omega
  all_goals
    try (constructor <;> intro hh <;> simp_all <;> omega)
set_option maxRecDepth 100000 in
set_option maxHeartbeats 4000000 in
theorem range_any (w : World) (r : Rq) : Calls Try.prog 25 #[.agg r.cs] w fun e w' => e = .returned (.bool (rangeB r)) ∧ Below w.heap.size w w' := by
  have HB0 := Lib.hid (show Below w.heap.size w (w.alloc (.cells r.cs TQ)) from (Below.refl _ _).alloc (Nat.le_refl _) _)
  have HW0 := Lib.hid (Blk.new w TQ r.cs)
  have e0 : r.cs[0]? = some (.int .i64 r.op) := rfl
  have e6 : r.cs[6]? = some (.int .i64 r.role) := rfl
  have e7 : r.cs[7]? = some (.int .i64 r.tier) := rfl
  have e10 : r.cs[10]? = some (.int .i64 r.rights) := rfl
  have e11 : r.cs[11]? = some (.int .i64 r.zoom) := rfl
  have e12 : r.cs[12]? = some (.int .i64 r.x0) := rfl
  have e13 : r.cs[13]? = some (.int .i64 r.y0) := rfl
  have e14 : r.cs[14]? = some (.int .i64 r.x1) := rfl
  have e15 : r.cs[15]? = some (.int .i64 r.y1) := rfl
  have e22 : r.cs[22]? = some (.int .i64 r.lab) := rfl
  have HRT := Lib.hid (ref_right r.x0 r.y0 r.x1 r.y1 (w.alloc (.cells r.cs TQ)))
  by_cases hbx : r.op = 5 ∨ r.op = 13 ∨ r.op = 15
  · have HRB : Hid (rangeB r = (rightB r.x0 r.y0 r.x1 r.y1 && (decide (r.role ≤ 7) && (decide (r.tier ≤ 7) && (decide (r.lab ≤ 7) && (decide (r.rights ≤ 31) && decide (r.zoom ≤ 16))))))) := Lib.hid (by
      unfold rangeB badB
      rcases hbx with h | h | h <;> simp [h])
    generalize rightB r.x0 r.y0 r.x1 r.y1 = b at *
    rcases hbx with h | h | h
    all_goals
      have h5 : (r.op == 5) = decide (r.op = 5) := rfl
      rw [h] at e0
      clear h5
      go_enter Try.func25, Try.ntmps25
      go_wp2_with fail
      refine HRT.out.mono ?_
      rintro e w1 ⟨rfl, hb1⟩
      have hp1 := HW0.out.thru0 hb1
      have k6 := hp1.cell 6
      have k7 := hp1.cell 7
      have k10 := hp1.cell 10
      have k11 := hp1.cell 11
      have k22 := hp1.cell 22
      rw [e6] at k6
      rw [e7] at k7
      rw [e10] at k10
      rw [e11] at k11
      rw [e22] at k22
      have HB1 := Lib.hid (HB0.out.trans (hb1.mono HB0.out.size))
      clear hb1 hp1 HRT
      cases b with
      | false =>
        go_wp2_with fail
        go_ret
        exact ⟨ret_bool (by rw [HRB.out]; rfl), HB1.out⟩
      | true =>
        go_wp2_with fail
        all_goals
          go_ret
          exact ⟨ret_bool (by rw [HRB.out, Bool.true_and]; first | (simp [*]; done) | (simp [*]; intros; omega)), HB1.out⟩
  · have HRB : Hid (rangeB r = (decide (r.role ≤ 7) && (decide (r.tier ≤ 7) && (decide (r.lab ≤ 7) && (decide (r.rights ≤ 31) && decide (r.zoom ≤ 16)))))) := Lib.hid (by
      unfold rangeB
      have h1 : r.op ≠ 5 := fun h => hbx (.inl h)
      have h2 : r.op ≠ 13 := fun h => hbx (.inr (.inl h))
      have h3 : r.op ≠ 15 := fun h => hbx (.inr (.inr h))
      simp [h1, h2, h3])
    have h1 : (r.op == 5) = false := beq_eq_false_iff_ne.2 fun h => hbx (.inl h)
    have h2 : (r.op == 13) = false := beq_eq_false_iff_ne.2 fun h => hbx (.inr (.inl h))
    have h3 : (r.op == 15) = false := beq_eq_false_iff_ne.2 fun h => hbx (.inr (.inr h))
    clear hbx HRT
    go_enter Try.func25, Try.ntmps25
    go_wp2_with fail
    all_goals
      go_ret
      exact ⟨ret_bool (by rw [HRB.out]; first | (simp [*]; done) | (simp [*]; intros; omega)), HB0.out⟩
end Go.Proofs.Ythlmldbgohnpnaa
