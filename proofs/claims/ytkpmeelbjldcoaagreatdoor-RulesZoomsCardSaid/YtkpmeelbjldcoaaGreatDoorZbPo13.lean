/- Texts: Po13. -/
import Derived.Test.YtkpmeelbjldcoaaGreatDoorZbPo12
namespace Go.Proofs.YtkpmeelbjldcoaaGreatDoor
set_option linter.unusedVariables false
set_option linter.unusedSimpArgs false
open Go.RowKit
theorem ERd.cell {α : Type} {E : El α} {w : World} {A : Option Addr} {n c : Nat} {L : List α} (h : ERd E w (.slice A n c) L) {i : Nat} {x : α} (hx : L[i]? = some x) : ∃ g o, A = some ⟨g, o, none⟩ ∧ ∀ j u, (E.enc x)[j]? = some u → w.cell? ⟨g, o + i * E.k + j, none⟩ = some u := by
  obtain ⟨A', c', e, _, _, h3⟩ := h
  injection e with e1 e2 e3
  subst e1
  exact h3 i x hx
set_option maxRecDepth 100000 in
set_option maxHeartbeats 2000000 in
theorem equal_any (w : World) (v1 v2 : Value) (L : List Bx) (h1 : ERd elR w v1 L) (h2 : ERd elR w v2 L) (hl : L.length ≤ 1000000) :
    Calls Tryz.prog 137 #[v1, v2] w fun e w' => e = .returned (.bool true) ∧ Below w.heap.size w w' := by
  obtain ⟨A1, c1, rfl, _, _, _⟩ := id h1
  obtain ⟨A2, c2, rfl, _, _, _⟩ := id h2
  have H1 := Lib.hid h1
  have H2 := Lib.hid h2
  have HL := Lib.hid hl
  have HB0 := Lib.hid (Below.refl w.heap.size w)
  clear h1 h2 hl
  go_enter Tryz.func137, Tryz.ntmps137
  go_wp2_with fail
  go_loopw [13] (fun i wr => ∃ k : Nat, k ≤ L.length ∧ i = .int .i64 k ∧ Hid (Below w.heap.size w wr)) (fun i _ => L.length - (intOf i).toNat)
  case atStart => exact ⟨0, by omega, rfl, HB0⟩
  case round =>
    clear HB0
    obtain ⟨k, hk, rfl, HB⟩ := hrel
    by_cases hlt : k < L.length
    · have hki : (k : Int) < (L.length : Int) := by omega
      have hkb : (k : Int) < 1000000 := by have := HL.out; omega
      have hk0 : (0 : Int) ≤ (k : Int) := by omega
      have hx : L[k]? = some L[k] := List.getElem?_eq_getElem hlt
      obtain ⟨g1, o1, rfl, hc1⟩ := (H1.out.below HB.out).cell hx
      obtain ⟨g2, o2, rfl, hc2⟩ := (H2.out.below HB.out).cell hx
      generalize L[k] = x at *
      have a0 : wr.cell? ⟨g1, o1 + k * 4, none⟩ = some (.int .i64 x.x0) := hc1 0 _ rfl
      have a1 : wr.cell? ⟨g1, o1 + k * 4 + 1, none⟩ = some (.int .i64 x.y0) := hc1 1 _ rfl
      have a2 : wr.cell? ⟨g1, o1 + k * 4 + 2, none⟩ = some (.int .i64 x.x1) := hc1 2 _ rfl
      have a3 : wr.cell? ⟨g1, o1 + k * 4 + 3, none⟩ = some (.int .i64 x.y1) := hc1 3 _ rfl
      have b0 : wr.cell? ⟨g2, o2 + k * 4, none⟩ = some (.int .i64 x.x0) := hc2 0 _ rfl
      have b1 : wr.cell? ⟨g2, o2 + k * 4 + 1, none⟩ = some (.int .i64 x.y0) := hc2 1 _ rfl
      have b2 : wr.cell? ⟨g2, o2 + k * 4 + 2, none⟩ = some (.int .i64 x.x1) := hc2 2 _ rfl
      have b3 : wr.cell? ⟨g2, o2 + k * 4 + 3, none⟩ = some (.int .i64 x.y1) := hc2 3 _ rfl
      clear hc1 hc2 hx
      go_wp2_with fail
      go_quiet (fail)
      go_wp2_with fail
      refine ⟨⟨k + 1, by omega, by go_num, Lib.hid ⟨HB.out.os, HB.out.tape, HB.out.output, HB.out.size, HB.out.block⟩⟩, by simp [intOf]; omega⟩
    · obtain rfl : k = L.length := by omega
      go_wp2_with fail
      go_ret
      exact ⟨rfl, HB.out⟩
set_option maxRecDepth 100000 in
set_option maxHeartbeats 8000000 in
theorem same_any (w : World) (d : Dc) (v1 v2 : Value) (h1 : ERd elR w v1 d.bx) (h2 : ERd elR w v2 d.bx) (hl : d.bx.length ≤ 1000000) :
    Calls Tryz.prog 97 #[dV d v1, dV d v2] w fun e w' => e = .returned (.bool true) ∧ Below w.heap.size w w' := by
  have H1 := Lib.hid h1
  have H2 := Lib.hid h2
  have HL := Lib.hid hl
  clear h1 h2 hl
  have HB := Lib.hid (show Below w.heap.size w ((w.alloc (.cells #[.int .i64 d.k, .string (bs d.nm), .int .i64 d.n, v1, .bool d.role.any, .string (bs d.role.nm), .int .i64 d.role.n, .int .i64 d.role.p.1, .int .i64 d.role.p.2, .int .i64 d.lo, .int .i64 d.hi, .bool d.label.any, .string (bs d.label.nm), .int .i64 d.label.n, .int .i64 d.label.p.1, .int .i64 d.label.p.2, .bool d.wh.any, .string (bs d.wh.nm), .int .i64 d.wh.n, .int .i64 d.wh.p.1, .int .i64 d.wh.p.2, .int .i64 d.zoom, .int .i64 d.p.1, .int .i64 d.p.2] 41)).alloc (.cells #[.int .i64 d.k, .string (bs d.nm), .int .i64 d.n, v2, .bool d.role.any, .string (bs d.role.nm), .int .i64 d.role.n, .int .i64 d.role.p.1, .int .i64 d.role.p.2, .int .i64 d.lo, .int .i64 d.hi, .bool d.label.any, .string (bs d.label.nm), .int .i64 d.label.n, .int .i64 d.label.p.1, .int .i64 d.label.p.2, .bool d.wh.any, .string (bs d.wh.nm), .int .i64 d.wh.n, .int .i64 d.wh.p.1, .int .i64 d.wh.p.2, .int .i64 d.zoom, .int .i64 d.p.1, .int .i64 d.p.2] 41)) from ((Below.refl w.heap.size w).alloc (Nat.le_refl _) _).alloc (by simp) _)
  have hA : Blk ((w.alloc (.cells #[.int .i64 d.k, .string (bs d.nm), .int .i64 d.n, v1, .bool d.role.any, .string (bs d.role.nm), .int .i64 d.role.n, .int .i64 d.role.p.1, .int .i64 d.role.p.2, .int .i64 d.lo, .int .i64 d.hi, .bool d.label.any, .string (bs d.label.nm), .int .i64 d.label.n, .int .i64 d.label.p.1, .int .i64 d.label.p.2, .bool d.wh.any, .string (bs d.wh.nm), .int .i64 d.wh.n, .int .i64 d.wh.p.1, .int .i64 d.wh.p.2, .int .i64 d.zoom, .int .i64 d.p.1, .int .i64 d.p.2] 41)).alloc (.cells #[.int .i64 d.k, .string (bs d.nm), .int .i64 d.n, v2, .bool d.role.any, .string (bs d.role.nm), .int .i64 d.role.n, .int .i64 d.role.p.1, .int .i64 d.role.p.2, .int .i64 d.lo, .int .i64 d.hi, .bool d.label.any, .string (bs d.label.nm), .int .i64 d.label.n, .int .i64 d.label.p.1, .int .i64 d.label.p.2, .bool d.wh.any, .string (bs d.wh.nm), .int .i64 d.wh.n, .int .i64 d.wh.p.1, .int .i64 d.wh.p.2, .int .i64 d.zoom, .int .i64 d.p.1, .int .i64 d.p.2] 41)) w.heap.size 41 #[.int .i64 d.k, .string (bs d.nm), .int .i64 d.n, v1, .bool d.role.any, .string (bs d.role.nm), .int .i64 d.role.n, .int .i64 d.role.p.1, .int .i64 d.role.p.2, .int .i64 d.lo, .int .i64 d.hi, .bool d.label.any, .string (bs d.label.nm), .int .i64 d.label.n, .int .i64 d.label.p.1, .int .i64 d.label.p.2, .bool d.wh.any, .string (bs d.wh.nm), .int .i64 d.wh.n, .int .i64 d.wh.p.1, .int .i64 d.wh.p.2, .int .i64 d.zoom, .int .i64 d.p.1, .int .i64 d.p.2] := Blk.thru0 (Blk.new w 41 _) ((Below.refl _ _).alloc (Nat.le_refl _) _)
  have hB : Blk ((w.alloc (.cells #[.int .i64 d.k, .string (bs d.nm), .int .i64 d.n, v1, .bool d.role.any, .string (bs d.role.nm), .int .i64 d.role.n, .int .i64 d.role.p.1, .int .i64 d.role.p.2, .int .i64 d.lo, .int .i64 d.hi, .bool d.label.any, .string (bs d.label.nm), .int .i64 d.label.n, .int .i64 d.label.p.1, .int .i64 d.label.p.2, .bool d.wh.any, .string (bs d.wh.nm), .int .i64 d.wh.n, .int .i64 d.wh.p.1, .int .i64 d.wh.p.2, .int .i64 d.zoom, .int .i64 d.p.1, .int .i64 d.p.2] 41)).alloc (.cells #[.int .i64 d.k, .string (bs d.nm), .int .i64 d.n, v2, .bool d.role.any, .string (bs d.role.nm), .int .i64 d.role.n, .int .i64 d.role.p.1, .int .i64 d.role.p.2, .int .i64 d.lo, .int .i64 d.hi, .bool d.label.any, .string (bs d.label.nm), .int .i64 d.label.n, .int .i64 d.label.p.1, .int .i64 d.label.p.2, .bool d.wh.any, .string (bs d.wh.nm), .int .i64 d.wh.n, .int .i64 d.wh.p.1, .int .i64 d.wh.p.2, .int .i64 d.zoom, .int .i64 d.p.1, .int .i64 d.p.2] 41)) (w.heap.size + 1) 41 #[.int .i64 d.k, .string (bs d.nm), .int .i64 d.n, v2, .bool d.role.any, .string (bs d.role.nm), .int .i64 d.role.n, .int .i64 d.role.p.1, .int .i64 d.role.p.2, .int .i64 d.lo, .int .i64 d.hi, .bool d.label.any, .string (bs d.label.nm), .int .i64 d.label.n, .int .i64 d.label.p.1, .int .i64 d.label.p.2, .bool d.wh.any, .string (bs d.wh.nm), .int .i64 d.wh.n, .int .i64 d.wh.p.1, .int .i64 d.wh.p.2, .int .i64 d.zoom, .int .i64 d.p.1, .int .i64 d.p.2] := by
    have := Blk.new (w.alloc (.cells #[.int .i64 d.k, .string (bs d.nm), .int .i64 d.n, v1, .bool d.role.any, .string (bs d.role.nm), .int .i64 d.role.n, .int .i64 d.role.p.1, .int .i64 d.role.p.2, .int .i64 d.lo, .int .i64 d.hi, .bool d.label.any, .string (bs d.label.nm), .int .i64 d.label.n, .int .i64 d.label.p.1, .int .i64 d.label.p.2, .bool d.wh.any, .string (bs d.wh.nm), .int .i64 d.wh.n, .int .i64 d.wh.p.1, .int .i64 d.wh.p.2, .int .i64 d.zoom, .int .i64 d.p.1, .int .i64 d.p.2] 41)) 41 #[.int .i64 d.k, .string (bs d.nm), .int .i64 d.n, v2, .bool d.role.any, .string (bs d.role.nm), .int .i64 d.role.n, .int .i64 d.role.p.1, .int .i64 d.role.p.2, .int .i64 d.lo, .int .i64 d.hi, .bool d.label.any, .string (bs d.label.nm), .int .i64 d.label.n, .int .i64 d.label.p.1, .int .i64 d.label.p.2, .bool d.wh.any, .string (bs d.wh.nm), .int .i64 d.wh.n, .int .i64 d.wh.p.1, .int .i64 d.wh.p.2, .int .i64 d.zoom, .int .i64 d.p.1, .int .i64 d.p.2]
    rw [show (w.alloc (.cells #[.int .i64 d.k, .string (bs d.nm), .int .i64 d.n, v1, .bool d.role.any, .string (bs d.role.nm), .int .i64 d.role.n, .int .i64 d.role.p.1, .int .i64 d.role.p.2, .int .i64 d.lo, .int .i64 d.hi, .bool d.label.any, .string (bs d.label.nm), .int .i64 d.label.n, .int .i64 d.label.p.1, .int .i64 d.label.p.2, .bool d.wh.any, .string (bs d.wh.nm), .int .i64 d.wh.n, .int .i64 d.wh.p.1, .int .i64 d.wh.p.2, .int .i64 d.zoom, .int .i64 d.p.1, .int .i64 d.p.2] 41)).heap.size = w.heap.size + 1 by simp] at this
    exact this
  have HA0 := Lib.hid hA
  have HB0 := Lib.hid hB
  clear hA hB
  simp only [dV, dcells]
  go_enter Tryz.func97, Tryz.ntmps97
  go_wp2_with fail
  generalize ((w.alloc (.cells #[.int .i64 d.k, .string (bs d.nm), .int .i64 d.n, v1, .bool d.role.any, .string (bs d.role.nm), .int .i64 d.role.n, .int .i64 d.role.p.1, .int .i64 d.role.p.2, .int .i64 d.lo, .int .i64 d.hi, .bool d.label.any, .string (bs d.label.nm), .int .i64 d.label.n, .int .i64 d.label.p.1, .int .i64 d.label.p.2, .bool d.wh.any, .string (bs d.wh.nm), .int .i64 d.wh.n, .int .i64 d.wh.p.1, .int .i64 d.wh.p.2, .int .i64 d.zoom, .int .i64 d.p.1, .int .i64 d.p.2] 41)).alloc (.cells #[.int .i64 d.k, .string (bs d.nm), .int .i64 d.n, v2, .bool d.role.any, .string (bs d.role.nm), .int .i64 d.role.n, .int .i64 d.role.p.1, .int .i64 d.role.p.2, .int .i64 d.lo, .int .i64 d.hi, .bool d.label.any, .string (bs d.label.nm), .int .i64 d.label.n, .int .i64 d.label.p.1, .int .i64 d.label.p.2, .bool d.wh.any, .string (bs d.wh.nm), .int .i64 d.wh.n, .int .i64 d.wh.p.1, .int .i64 d.wh.p.2, .int .i64 d.zoom, .int .i64 d.p.1, .int .i64 d.p.2] 41)) = W at *
  refine (equal_any W v1 v2 d.bx (H1.out.below HB.out) (H2.out.below HB.out) HL.out).mono ?_
  rintro e W1 ⟨rfl, hb⟩
  have KA := Lib.hid (Blk.thru0 HA0.out hb)
  have KB := Lib.hid (Blk.thru0 HB0.out hb)
  have HBF := Lib.hid (HB.out.trans (hb.mono HB.out.size))
  clear hb HA0 HB0 HB
  have a4 := KA.out.cell 4
  have b4 := KB.out.cell 4
  have a5 := KA.out.cell 5
  have b5 := KB.out.cell 5
  have a6 := KA.out.cell 6
  have b6 := KB.out.cell 6
  have a7 := KA.out.cell 7
  have b7 := KB.out.cell 7
  have a8 := KA.out.cell 8
  have b8 := KB.out.cell 8
  have a9 := KA.out.cell 9
  have b9 := KB.out.cell 9
  have a10 := KA.out.cell 10
  have b10 := KB.out.cell 10
  have a11 := KA.out.cell 11
  have b11 := KB.out.cell 11
  have a12 := KA.out.cell 12
  have b12 := KB.out.cell 12
  have a13 := KA.out.cell 13
  have b13 := KB.out.cell 13
  have a14 := KA.out.cell 14
  have b14 := KB.out.cell 14
  have a15 := KA.out.cell 15
  have b15 := KB.out.cell 15
  have a16 := KA.out.cell 16
  have b16 := KB.out.cell 16
  have a17 := KA.out.cell 17
  have b17 := KB.out.cell 17
  have a18 := KA.out.cell 18
  have b18 := KB.out.cell 18
  have a19 := KA.out.cell 19
  have b19 := KB.out.cell 19
  have a20 := KA.out.cell 20
  have b20 := KB.out.cell 20
  have a21 := KA.out.cell 21
  have b21 := KB.out.cell 21
  simp only [List.getElem?_toArray, List.getElem?_cons_zero, List.getElem?_cons_succ] at a4 b4 a5 b5 a6 b6 a7 b7 a8 b8 a9 b9 a10 b10 a11 b11 a12 b12 a13 b13 a14 b14 a15 b15 a16 b16 a17 b17 a18 b18 a19 b19 a20 b20 a21 b21
  have za := KA.out.lt
  have zb := KB.out.lt
  go_wp2_with fail
  go_ret
  exact ⟨rfl, HBF.out⟩
end Go.Proofs.YtkpmeelbjldcoaaGreatDoor
