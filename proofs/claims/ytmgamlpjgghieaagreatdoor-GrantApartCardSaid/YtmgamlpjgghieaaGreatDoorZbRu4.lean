/- rules: Right, For, Cloaks, Zoom, by contract. -/
import Derived.Test.YtmgamlpjgghieaaGreatDoorZbRu3
import Derived.Test.YtmgamlpjgghieaaGreatDoorZbPo6
namespace Go.Proofs.YtmgamlpjgghieaaGreatDoor
set_option linter.unusedVariables false
set_option linter.unusedSimpArgs false
open Go.RowKit
def elRu : El (Rc × RV) := { T := 59, k := 7, by_ := 72, z := .agg (rucells ⟨0, 0, 0, 0, 0, [], 0⟩ (.slice none 0 0)).toArray, enc := fun x => rucells x.1 x.2.v }
theorem elRu_ok : elRu.Ok := ⟨by decide, fun _ => rfl, fun x u hu => by simp only [elRu, rucells, List.mem_cons, List.not_mem_nil, or_false] at hu; rcases hu with rfl | rfl | rfl | rfl | rfl | rfl | rfl <;> rfl, by kernel_rfl, rfl, by decide⟩
/-- A row of rules that can be read. -/
def RRd (w : World) (v : Value) (acc : List (Rc × RV)) : Prop := ERd elRu w v acc ∧ ∀ x ∈ acc, ERd elR w x.2.v x.1.bx
theorem RRd.below {w w' : World} {v : Value} {acc : List (Rc × RV)} (h : RRd w v acc) (hb : Below w.heap.size w w') : RRd w' v acc := ⟨h.1.below hb, fun x hx => (h.2 x hx).below hb⟩
def rursB (acc : List (Rc × RV)) : Bool := acc.all fun x => rurB x.1
set_option maxRecDepth 100000 in
set_option maxHeartbeats 4000000 in
theorem rurights_any (w : World) (v : Value) (acc : List (Rc × RV)) (h : RRd w v acc) :
    Calls Tryz.prog 30 #[v] w fun e w' => e = .returned (.bool (rursB acc)) ∧ Below w.heap.size w w' := by
  obtain ⟨A1, c1, rfl, hl1, hl2, -⟩ := id h.1
  have hl : acc.length ≤ 9223372036854775807 := by unfold maxLen at hl2; omega
  have H1 := Lib.hid h
  have HL := Lib.hid hl
  have HB0 := Lib.hid (Below.refl w.heap.size w)
  clear h hl hl1 hl2
  go_enter Tryz.func30, Tryz.ntmps30
  go_wp2_with fail
  go_loopw [7] (fun i wr => ∃ k : Nat, k ≤ acc.length ∧ i = .int .i64 k ∧ Hid (Below w.heap.size w wr ∧ rursB (acc.take k) = true)) (fun i _ => acc.length - (intOf i).toNat)
  case atStart => exact ⟨0, by omega, rfl, Lib.hid ⟨HB0.out, by simp [rursB]⟩⟩
  case round =>
    clear HB0
    obtain ⟨k, hk, rfl, HB⟩ := hrel
    by_cases hlt : k < acc.length
    · skip
      have hki : (k : Int) < (acc.length : Int) := by omega
      have hkb : (k : Int) < 9223372036854775807 := by have := HL.out; omega
      have hx : acc[k]? = some acc[k] := List.getElem?_eq_getElem hlt
      obtain ⟨g1, o1, rfl, hc1⟩ := (H1.out.1.below HB.out.1).cell hx
      have HTK := Lib.hid (show acc.take (k + 1) = acc.take k ++ [acc[k]] from (List.take_append_getElem hlt).symm)
      have HME := Lib.hid (List.getElem_mem hlt)
      have HXB := Lib.hid ((H1.out.2 _ (List.getElem_mem hlt)).below HB.out.1)
      generalize acc[k] = x at *
      obtain ⟨r, xA, xn, xc⟩ := x
      simp only [RV.v] at HXB
      have a0 : wr.cell? ⟨g1, o1 + k * 7, none⟩ = some (.int .i64 r.k) := hc1 0 _ rfl
      have a1 : wr.cell? ⟨g1, o1 + k * 7 + 1, none⟩ = some (.int .i64 r.roles) := hc1 1 _ rfl
      have a2 : wr.cell? ⟨g1, o1 + k * 7 + 2, none⟩ = some (.int .i64 r.lo) := hc1 2 _ rfl
      have a3 : wr.cell? ⟨g1, o1 + k * 7 + 3, none⟩ = some (.int .i64 r.hi) := hc1 3 _ rfl
      have a4 : wr.cell? ⟨g1, o1 + k * 7 + 4, none⟩ = some (.int .i64 r.labels) := hc1 4 _ rfl
      have a5 : wr.cell? ⟨g1, o1 + k * 7 + 5, none⟩ = some (.slice xA xn xc) := hc1 5 _ rfl
      have a6 : wr.cell? ⟨g1, o1 + k * 7 + 6, none⟩ = some (.int .i64 r.zoom) := hc1 6 _ rfl
      have HAB := Lib.hid (show Below wr.heap.size wr (wr.alloc (.cells #[.int .i64 r.k, .int .i64 r.roles, .int .i64 r.lo, .int .i64 r.hi, .int .i64 r.labels, .slice xA xn xc, .int .i64 r.zoom] 59)) from (Below.refl _ _).alloc (Nat.le_refl _) _)
      have HNK := Lib.hid (Blk.new wr 59 #[.int .i64 r.k, .int .i64 r.roles, .int .i64 r.lo, .int .i64 r.hi, .int .i64 r.labels, .slice xA xn xc, .int .i64 r.zoom])
      clear hc1 hx
      have HAL := Lib.hid (show rurB r = false → rursB acc = false from fun hf => by
        unfold rursB
        rw [List.all_eq_false]
        exact ⟨_, HME.out, by simp [hf]⟩)
      have HR := Lib.hid (ruright_any (wr.alloc (.cells #[.int .i64 r.k, .int .i64 r.roles, .int .i64 r.lo, .int .i64 r.hi, .int .i64 r.labels, .slice xA xn xc, .int .i64 r.zoom] 59)) r (.slice xA xn xc) (HXB.out.below HAB.out))
      go_wp2_with fail
      refine HR.out.mono ?_
      rintro e w1 ⟨rfl, hb⟩
      have HB1 := Lib.hid (HB.out.1.trans ((HAB.out.trans (hb.mono HAB.out.size)).mono HB.out.1.size))
      clear hb a0 a1 a2 a3 a4 a5 a6 HR HAB HNK
      cases hR : rurB r with
      | false =>
        have HF := Lib.hid (HAL.out hR)
        go_wp2_with fail
        go_ret
        exact ⟨by rw [HF.out]; rfl, HB1.out⟩
      | true =>
        have HN := Lib.hid (show Below w.heap.size w w1 ∧ rursB (acc.take (k + 1)) = true from ⟨HB1.out, by
          have h2 := HB.out.2
          unfold rursB at h2 ⊢
          rw [HTK.out, List.all_append, h2]; simp [hR]⟩)
        clear hR
        go_wp2_with fail
        go_roundw
        case rel => exact ⟨k + 1, by omega, by go_num, HN⟩
        case measure => simp [intOf]; omega
    · obtain rfl : k = acc.length := by omega
      have HF := Lib.hid (show rursB acc = true by have := HB.out.2; rwa [List.take_length] at this)
      go_wp2_with fail
      go_ret
      exact ⟨by rw [HF.out]; rfl, HB.out.1⟩
theorem rur_sums {r : Rc} (h : rurB r = true) : (0 ≤ r.roles ∧ r.roles ≤ 255) ∧ (0 ≤ r.labels ∧ r.labels ≤ 255) := by
  unfold rurB at h
  simp only [Bool.and_eq_true] at h
  obtain ⟨h1, h2⟩ := h
  unfold withinB at h1
  simp only [Bool.and_eq_true, decide_eq_true_eq] at h1
  refine ⟨h1, ?_⟩
  split at h2
  · simp only [Bool.and_eq_true, decide_eq_true_eq] at h2
    obtain ⟨_, _, h3, _⟩ := h2
    unfold withinB at h3
    simpa using h3
  · split at h2
    · simp only [Bool.and_eq_true, decide_eq_true_eq] at h2
      obtain ⟨_, _, h3, _⟩ := h2
      omega
    · cases h2
def forB (r : Rc) (ro ti la : Int) : Bool := rurB r && isForB r ro ti la
set_option maxRecDepth 100000 in
set_option maxHeartbeats 4000000 in
theorem for_any (w : World) (r : Rc) (bv : Value) (ro ti la : Int) (h : ERd elR w bv r.bx) :
    Calls Tryz.prog 74 #[ruV r bv, .int .i64 ro, .int .i64 ti, .int .i64 la] w fun e w' => e = .returned (.bool (forB r ro ti la)) ∧ Below w.heap.size w w' := by
  obtain ⟨A1, c1, rfl, -, -, -⟩ := id h
  have HB := Lib.hid (show Below w.heap.size w (w.alloc (.cells #[.int .i64 r.k, .int .i64 r.roles, .int .i64 r.lo, .int .i64 r.hi, .int .i64 r.labels, .slice A1 r.bx.length c1, .int .i64 r.zoom] 59)) from (Below.refl _ _).alloc (Nat.le_refl _) _)
  have HK := Lib.hid (Blk.new w 59 #[.int .i64 r.k, .int .i64 r.roles, .int .i64 r.lo, .int .i64 r.hi, .int .i64 r.labels, .slice A1 r.bx.length c1, .int .i64 r.zoom])
  have HR := Lib.hid (ruright_any _ r _ (h.below HB.out))
  have HF := Lib.hid (fun hr => isfor_any r (.slice A1 r.bx.length c1) ro ti la (rur_sums (r := r) hr).1 (rur_sums hr).2)
  have HE := Lib.hid (show forB r ro ti la = (rurB r && isForB r ro ti la) from rfl)
  clear h
  simp only [ruV] at *
  go_enter Tryz.func74, Tryz.ntmps74
  go_wp2_with fail
  refine HR.out.mono ?_
  rintro e w1 ⟨rfl, hb⟩
  have HB1 := Lib.hid (HB.out.trans (hb.mono HB.out.size))
  have HK1 := Lib.hid (Blk.thru0 HK.out hb)
  clear hb HR HK HB
  have x0 := HK1.out.cell 0
  have x1 := HK1.out.cell 1
  have x2 := HK1.out.cell 2
  have x3 := HK1.out.cell 3
  have x4 := HK1.out.cell 4
  have x5 := HK1.out.cell 5
  have x6 := HK1.out.cell 6
  simp only [List.getElem?_toArray, List.getElem?_cons_zero, List.getElem?_cons_succ] at x0 x1 x2 x3 x4 x5 x6
  cases hR : rurB r with
  | false =>
    have HE2 := Lib.hid (show forB r ro ti la = false by rw [HE.out, hR]; rfl)
    go_wp2_with fail
    go_ret
    exact ⟨by rw [HE2.out]; rfl, HB1.out⟩
  | true =>
    have HE2 := Lib.hid (show forB r ro ti la = isForB r ro ti la by rw [HE.out, hR]; rfl)
    have HF2 := Lib.hid (HF.out hR w1)
    clear HF hR
    go_wp2_with fail
    refine HF2.out.mono ?_
    rintro e w2 ⟨rfl, hb⟩
    have HB2 := Lib.hid (HB1.out.trans (hb.mono HB1.out.size))
    clear hb
    go_wp2_with fail
    go_ret
    exact ⟨by rw [HE2.out]; rfl, HB2.out⟩
end Go.Proofs.YtmgamlpjgghieaaGreatDoor
