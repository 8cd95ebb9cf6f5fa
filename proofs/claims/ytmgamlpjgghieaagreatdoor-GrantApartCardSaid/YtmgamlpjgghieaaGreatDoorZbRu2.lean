/- rules: whom a rule is for, by contract. -/
import Derived.Test.YtmgamlpjgghieaaGreatDoorZbRu1
import Derived.Test.YtmgamlpjgghieaaGreatDoorZbPo10
import Derived.Test.YtmgamlpjgghieaaGreatDoorZbPo13
namespace Go.Proofs.YtmgamlpjgghieaaGreatDoor
set_option linter.unusedVariables false
set_option linter.unusedSimpArgs false
open Go.RowKit
structure Rc where
  k : Int
  roles : Int
  lo : Int
  hi : Int
  labels : Int
  bx : List Bx
  zoom : Int
def rucells (r : Rc) (bv : Value) : List Value := [.int .i64 r.k, .int .i64 r.roles, .int .i64 r.lo, .int .i64 r.hi, .int .i64 r.labels, bv, .int .i64 r.zoom]
abbrev ruV (r : Rc) (bv : Value) : Value := .agg #[.int .i64 r.k, .int .i64 r.roles, .int .i64 r.lo, .int .i64 r.hi, .int .i64 r.labels, bv, .int .i64 r.zoom]
def isForB (r : Rc) (ro ti la : Int) : Bool := amongB r.roles ro && (decide (r.lo ≤ ti) && (decide (ti ≤ r.hi) && amongB r.labels la))
set_option maxRecDepth 100000 in
theorem isfor_any (r : Rc) (bv : Value) (ro ti la : Int) (h1 : 0 ≤ r.roles ∧ r.roles ≤ 255) (h2 : 0 ≤ r.labels ∧ r.labels ≤ 255) (w : World) :
    Calls Tryz.prog 62 #[ruV r bv, .int .i64 ro, .int .i64 ti, .int .i64 la] w fun e w' => e = .returned (.bool (isForB r ro ti la)) ∧ Below w.heap.size w w' := by
  obtain ⟨k, roles, lo, hi, labels, bx, zoom⟩ := r
  simp only at h1 h2
  have HA := Lib.hid (fun W => among_any roles ro h1 W)
  have HL := Lib.hid (fun W => among_any labels la h2 W)
  have HB := Lib.hid (show Below w.heap.size w (w.alloc (.cells #[.int .i64 k, .int .i64 roles, .int .i64 lo, .int .i64 hi, .int .i64 labels, bv, .int .i64 zoom] 59)) from (Below.refl _ _).alloc (Nat.le_refl _) _)
  simp only [ruV, isForB]
  clear h1 h2
  generalize amongB roles ro = b0 at *
  cases b0 with
  | false =>
    go_enter Tryz.func62, Tryz.ntmps62
    go_wp2_with fail
    refine (HA.out _).mono ?_
    rintro e w1 ⟨rfl, hw⟩
    subst hw
    go_wp2_with fail
    go_ret
    exact ⟨rfl, HB.out⟩
  | true =>
    by_cases h3 : lo ≤ ti
    · by_cases h4 : ti ≤ hi
      · have hd : (true && (decide (lo ≤ ti) && (decide (ti ≤ hi) && amongB labels la))) = amongB labels la := by simp [h3, h4]
        rw [hd]
        clear hd
        generalize amongB labels la = b at *
        go_enter Tryz.func62, Tryz.ntmps62
        go_wp2_with fail
        refine (HA.out _).mono ?_
        rintro e w1 ⟨rfl, hw⟩
        subst hw
        go_wp2_with fail
        refine (HL.out _).mono ?_
        rintro e w1 ⟨rfl, hw⟩
        subst hw
        go_wp2_with fail
        go_ret
        exact ⟨rfl, HB.out⟩
      · have hd : (true && (decide (lo ≤ ti) && (decide (ti ≤ hi) && amongB labels la))) = false := by simp [h4]
        rw [hd]
        clear hd
        go_enter Tryz.func62, Tryz.ntmps62
        go_wp2_with fail
        refine (HA.out _).mono ?_
        rintro e w1 ⟨rfl, hw⟩
        subst hw
        go_wp2_with fail
        go_ret
        exact ⟨rfl, HB.out⟩
    · have hd : (true && (decide (lo ≤ ti) && (decide (ti ≤ hi) && amongB labels la))) = false := by simp [h3]
      rw [hd]
      clear hd
      go_enter Tryz.func62, Tryz.ntmps62
      go_wp2_with fail
      refine (HA.out _).mono ?_
      rintro e w1 ⟨rfl, hw⟩
      subst hw
      go_wp2_with fail
      go_ret
      exact ⟨rfl, HB.out⟩
def bxR (b : Bx) : Bool := rightB b.x0 b.y0 b.x1 b.y1
def bxH (x y : Int) (b : Bx) : Bool := hasB b.x0 b.y0 b.x1 b.y1 x y
/-- A rectangle, copied out of a row into a block of its own. -/
theorem bx4 (w : World) (b : Bx) : Blk (w.alloc (.cells #[.int .i64 b.x0, .int .i64 b.y0, .int .i64 b.x1, .int .i64 b.y1] 46)) w.heap.size 46 #[.int .i64 b.x0, .int .i64 b.y0, .int .i64 b.x1, .int .i64 b.y1] := Blk.new w 46 _
set_option maxRecDepth 100000 in
theorem allright_any (w : World) (v : Value) (L : List Bx) (h : ERd elR w v L) :
    Calls Tryz.prog 71 #[v] w fun e w' => e = .returned (.bool (L.all bxR)) ∧ Below w.heap.size w w' := by
  obtain ⟨A1, c1, rfl, hl1, hl2, -⟩ := id h
  have hl : L.length ≤ 9223372036854775807 := by unfold maxLen at hl2; omega
  have H1 := Lib.hid h
  have HL := Lib.hid hl
  have HB0 := Lib.hid (Below.refl w.heap.size w)
  clear h hl hl1 hl2
  go_enter Tryz.func71, Tryz.ntmps71
  go_wp2_with fail
  go_loopw [7] (fun i wr => ∃ k : Nat, k ≤ L.length ∧ i = .int .i64 k ∧ Hid (Below w.heap.size w wr ∧ (L.take k).all bxR = true)) (fun i _ => L.length - (intOf i).toNat)
  case atStart => exact ⟨0, by omega, rfl, Lib.hid ⟨HB0.out, by simp⟩⟩
  case round =>
    clear HB0
    obtain ⟨k, hk, rfl, HB⟩ := hrel
    by_cases hlt : k < L.length
    · have hki : (k : Int) < (L.length : Int) := by omega
      have hkb : (k : Int) < 9223372036854775807 := by have := HL.out; omega
      have hx : L[k]? = some L[k] := List.getElem?_eq_getElem hlt
      obtain ⟨g1, o1, rfl, hc1⟩ := (H1.out.below HB.out.1).cell hx
      have HTK := Lib.hid (show L.take (k + 1) = L.take k ++ [L[k]] from (List.take_append_getElem hlt).symm)
      have HAL := Lib.hid (show bxR L[k] = false → L.all bxR = false from fun hf => by
        rw [List.all_eq_false]
        exact ⟨L[k], List.getElem_mem hlt, by simp [hf]⟩)
      generalize L[k] = x at *
      have a0 : wr.cell? ⟨g1, o1 + k * 4, none⟩ = some (.int .i64 x.x0) := hc1 0 _ rfl
      have a1 : wr.cell? ⟨g1, o1 + k * 4 + 1, none⟩ = some (.int .i64 x.y0) := hc1 1 _ rfl
      have a2 : wr.cell? ⟨g1, o1 + k * 4 + 2, none⟩ = some (.int .i64 x.x1) := hc1 2 _ rfl
      have a3 : wr.cell? ⟨g1, o1 + k * 4 + 3, none⟩ = some (.int .i64 x.y1) := hc1 3 _ rfl
      have HAB := Lib.hid ((HB.out.1).alloc HB.out.1.size (.cells #[.int .i64 x.x0, .int .i64 x.y0, .int .i64 x.x1, .int .i64 x.y1] 46))
      have HG := Lib.hid (fun W => right_any x.x0 x.y0 x.x1 x.y1 W)
      rw [show rightB x.x0 x.y0 x.x1 x.y1 = bxR x from rfl] at HG
      clear hc1 hx
      go_wp2_with fail
      refine (HG.out _).mono ?_
      rintro e w1 ⟨rfl, hb⟩
      have HB1 := Lib.hid (HAB.out.trans (hb.mono HAB.out.size))
      clear hb a0 a1 a2 a3 HG HAB
      cases hR : bxR x with
      | false =>
        have HF := Lib.hid (HAL.out hR)
        go_wp2_with fail
        go_ret
        exact ⟨by rw [HF.out]; rfl, HB1.out⟩
      | true =>
        have HN := Lib.hid (show Below w.heap.size w w1 ∧ (L.take (k + 1)).all bxR = true from ⟨HB1.out, by rw [HTK.out, List.all_append, HB.out.2]; simp [hR]⟩)
        clear hR
        go_wp2_with fail
        go_roundw
        case rel => exact ⟨k + 1, by omega, by go_num, HN⟩
        case measure => simp [intOf]; omega
    · obtain rfl : k = L.length := by omega
      have HF := Lib.hid (show L.all bxR = true by have := HB.out.2; rwa [List.take_length] at this)
      go_wp2_with fail
      go_ret
      exact ⟨by rw [HF.out]; rfl, HB.out.1⟩
set_option maxRecDepth 100000 in
theorem anyhas_any (w : World) (v : Value) (L : List Bx) (x0 y0 : Int) (h : ERd elR w v L) :
    Calls Tryz.prog 63 #[v, .agg #[.int .i64 x0, .int .i64 y0]] w fun e w' => e = .returned (.bool (L.any (bxH x0 y0))) ∧ Below w.heap.size w w' := by
  obtain ⟨A1, c1, rfl, hl1, hl2, -⟩ := id h
  have hl : L.length ≤ 9223372036854775807 := by unfold maxLen at hl2; omega
  have HA := Lib.hid (show Below w.heap.size w (w.alloc (.cells #[.int .i64 x0, .int .i64 y0] 40)) from (Below.refl _ _).alloc (Nat.le_refl _) _)
  have HP := Lib.hid (Blk.new w 40 #[.int .i64 x0, .int .i64 y0])
  have H1 := Lib.hid h
  have HL := Lib.hid hl
  clear h hl hl1 hl2
  go_enter Tryz.func63, Tryz.ntmps63
  go_wp2_with fail
  generalize (w.alloc (.cells #[.int .i64 x0, .int .i64 y0] 40)) = W0 at *
  go_loopw [9] (fun i wr => ∃ k : Nat, k ≤ L.length ∧ i = .int .i64 k ∧ Hid (Below w.heap.size w wr ∧ (L.take k).any (bxH x0 y0) = false ∧ Blk wr w.heap.size 40 #[.int .i64 x0, .int .i64 y0])) (fun i _ => L.length - (intOf i).toNat)
  case atStart => exact ⟨0, by omega, rfl, Lib.hid ⟨HA.out, by simp, HP.out⟩⟩
  case round =>
    rename_i wr
    clear HA HP
    obtain ⟨k, hk, rfl, HB⟩ := hrel
    by_cases hlt : k < L.length
    · have hki : (k : Int) < (L.length : Int) := by omega
      have hkb : (k : Int) < 9223372036854775807 := by have := HL.out; omega
      have hx : L[k]? = some L[k] := List.getElem?_eq_getElem hlt
      have hBw : Below w.heap.size w wr := HB.out.1
      obtain ⟨g1, o1, rfl, hc1⟩ := (H1.out.below hBw).cell hx
      have HTK := Lib.hid (show L.take (k + 1) = L.take k ++ [L[k]] from (List.take_append_getElem hlt).symm)
      have HAL := Lib.hid (show bxH x0 y0 L[k] = true → L.any (bxH x0 y0) = true from fun hf => by
        rw [List.any_eq_true]
        exact ⟨L[k], List.getElem_mem hlt, hf⟩)
      generalize L[k] = x at *
      have a0 : wr.cell? ⟨g1, o1 + k * 4, none⟩ = some (.int .i64 x.x0) := hc1 0 _ rfl
      have a1 : wr.cell? ⟨g1, o1 + k * 4 + 1, none⟩ = some (.int .i64 x.y0) := hc1 1 _ rfl
      have a2 : wr.cell? ⟨g1, o1 + k * 4 + 2, none⟩ = some (.int .i64 x.x1) := hc1 2 _ rfl
      have a3 : wr.cell? ⟨g1, o1 + k * 4 + 3, none⟩ = some (.int .i64 x.y1) := hc1 3 _ rfl
      have p0 : wr.cell? ⟨w.heap.size, 0, none⟩ = some (.int .i64 x0) := HB.out.2.2.cell 0
      have p1 : wr.cell? ⟨w.heap.size, 1, none⟩ = some (.int .i64 y0) := HB.out.2.2.cell 1
      have HSQ := Lib.hid (show w.heap.size ≤ wr.heap.size from hBw.size)
      have z0 := HB.out.2.2.lt
      have hal : Below wr.heap.size wr (wr.alloc (.cells #[.int .i64 x.x0, .int .i64 x.y0, .int .i64 x.x1, .int .i64 x.y1] 46)) := (Below.refl _ _).alloc (Nat.le_refl _) _
      have HAB := Lib.hid hal
      have HG := Lib.hid (fun W => has_any x.x0 x.y0 x.x1 x.y1 x0 y0 W)
      rw [show hasB x.x0 x.y0 x.x1 x.y1 x0 y0 = bxH x0 y0 x from rfl] at HG
      clear hc1 hx hBw hal
      go_wp2_with fail
      refine (HG.out _).mono ?_
      rintro e w1 ⟨rfl, hb⟩
      have HB0 := Lib.hid (HAB.out.trans (hb.mono HAB.out.size))
      have HB1 := Lib.hid (HB.out.1.trans (HB0.out.mono HSQ.out))
      have HP1 := Lib.hid (Blk.thru0 HB.out.2.2 HB0.out)
      clear hb a0 a1 a2 a3 p0 p1 HG HAB HB0
      cases hR : bxH x0 y0 x with
      | true =>
        have HF := Lib.hid (HAL.out hR)
        go_wp2_with fail
        go_ret
        exact ⟨by rw [HF.out]; rfl, HB1.out⟩
      | false =>
        have HN := Lib.hid (show Below w.heap.size w w1 ∧ (L.take (k + 1)).any (bxH x0 y0) = false ∧ Blk w1 w.heap.size 40 #[.int .i64 x0, .int .i64 y0] from ⟨HB1.out, by rw [HTK.out, List.any_append, HB.out.2.1]; simp [hR], HP1.out⟩)
        clear hR
        go_wp2_with fail
        go_roundw
        case rel => exact ⟨k + 1, by omega, by go_num, HN⟩
        case measure => simp [intOf]; omega
    · obtain rfl : k = L.length := by omega
      have HF := Lib.hid (show L.any (bxH x0 y0) = false by have := HB.out.2.1; rwa [List.take_length] at this)
      go_wp2_with fail
      go_ret
      exact ⟨by rw [HF.out]; rfl, HB.out.1⟩
end Go.Proofs.YtmgamlpjgghieaaGreatDoor
