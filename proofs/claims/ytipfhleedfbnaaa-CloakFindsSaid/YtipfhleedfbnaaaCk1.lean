/- cloak: what is tried at a cell; pair by contract. -/
import Derived.Test.YtipfhleedfbnaaaCk0
import Derived.Test.YtipfhleedfbnaaaCkG
namespace Go.Proofs.Ytipfhleedfbnaaa
set_option linter.unusedVariables false
set_option linter.unusedSimpArgs false
open Go.RowKit
/-- A cloak: its box, its cell, its kind, its count. -/
structure Ck where
  a : Int
  b : Int
  c : Int
  d : Int
  L : Int
  x : Int
  y : Int
  kd : Int
  n : Int
def Ck.cells (k : Ck) : List Value := [.int .i64 k.a, .int .i64 k.b, .int .i64 k.c, .int .i64 k.d, .int .i64 k.L, .int .i64 k.x, .int .i64 k.y, .int .i64 k.kd, .int .i64 k.n]
def Ck.val (k : Ck) : Value := .agg #[.int .i64 k.a, .int .i64 k.b, .int .i64 k.c, .int .i64 k.d, .int .i64 k.L, .int .i64 k.x, .int .i64 k.y, .int .i64 k.kd, .int .i64 k.n]
def ck0 : Ck := ⟨0, 0, 0, 0, 0, 0, 0, 0, 0⟩
def pairK (S : List Pn) (k : Ck) (L x y kd : Int) : Ck :=
  ⟨hu0 k.a k.b k.c k.d (b0 L x y) (b1 L x y) (b2 L x y) (b3 L x y), hu1 k.a k.b k.c k.d (b0 L x y) (b1 L x y) (b2 L x y) (b3 L x y), hu2 k.a k.b k.c k.d (b0 L x y) (b1 L x y) (b2 L x y) (b3 L x y), hu3 k.a k.b k.c k.d (b0 L x y) (b1 L x y) (b2 L x y) (b3 L x y), k.L, k.x, k.y, kd, k.n + (cntC S L x y : Int)⟩
theorem blk_nine {w : World} {g : Nat} {t : TypeId} {c8 : Array Value} (h : Blk w g t c8) (hs : c8.size = 9) (v0 v1 v2 v3 v4 v5 v6 v7 v8 : Value) :
    (((((((((w.setCell ⟨g, 0, none⟩ v0).setCell ⟨g, 1, none⟩ v1).setCell ⟨g, 2, none⟩ v2).setCell ⟨g, 3, none⟩ v3).setCell ⟨g, 4, none⟩ v4).setCell ⟨g, 5, none⟩ v5).setCell ⟨g, 6, none⟩ v6).setCell ⟨g, 7, none⟩ v7).setCell ⟨g, 8, none⟩ v8).cell? ⟨g, 0, none⟩ = some v0 ∧ (((((((((w.setCell ⟨g, 0, none⟩ v0).setCell ⟨g, 1, none⟩ v1).setCell ⟨g, 2, none⟩ v2).setCell ⟨g, 3, none⟩ v3).setCell ⟨g, 4, none⟩ v4).setCell ⟨g, 5, none⟩ v5).setCell ⟨g, 6, none⟩ v6).setCell ⟨g, 7, none⟩ v7).setCell ⟨g, 8, none⟩ v8).cell? ⟨g, 1, none⟩ = some v1 ∧ (((((((((w.setCell ⟨g, 0, none⟩ v0).setCell ⟨g, 1, none⟩ v1).setCell ⟨g, 2, none⟩ v2).setCell ⟨g, 3, none⟩ v3).setCell ⟨g, 4, none⟩ v4).setCell ⟨g, 5, none⟩ v5).setCell ⟨g, 6, none⟩ v6).setCell ⟨g, 7, none⟩ v7).setCell ⟨g, 8, none⟩ v8).cell? ⟨g, 2, none⟩ = some v2 ∧ (((((((((w.setCell ⟨g, 0, none⟩ v0).setCell ⟨g, 1, none⟩ v1).setCell ⟨g, 2, none⟩ v2).setCell ⟨g, 3, none⟩ v3).setCell ⟨g, 4, none⟩ v4).setCell ⟨g, 5, none⟩ v5).setCell ⟨g, 6, none⟩ v6).setCell ⟨g, 7, none⟩ v7).setCell ⟨g, 8, none⟩ v8).cell? ⟨g, 3, none⟩ = some v3 ∧ (((((((((w.setCell ⟨g, 0, none⟩ v0).setCell ⟨g, 1, none⟩ v1).setCell ⟨g, 2, none⟩ v2).setCell ⟨g, 3, none⟩ v3).setCell ⟨g, 4, none⟩ v4).setCell ⟨g, 5, none⟩ v5).setCell ⟨g, 6, none⟩ v6).setCell ⟨g, 7, none⟩ v7).setCell ⟨g, 8, none⟩ v8).cell? ⟨g, 4, none⟩ = some v4 ∧ (((((((((w.setCell ⟨g, 0, none⟩ v0).setCell ⟨g, 1, none⟩ v1).setCell ⟨g, 2, none⟩ v2).setCell ⟨g, 3, none⟩ v3).setCell ⟨g, 4, none⟩ v4).setCell ⟨g, 5, none⟩ v5).setCell ⟨g, 6, none⟩ v6).setCell ⟨g, 7, none⟩ v7).setCell ⟨g, 8, none⟩ v8).cell? ⟨g, 5, none⟩ = some v5 ∧ (((((((((w.setCell ⟨g, 0, none⟩ v0).setCell ⟨g, 1, none⟩ v1).setCell ⟨g, 2, none⟩ v2).setCell ⟨g, 3, none⟩ v3).setCell ⟨g, 4, none⟩ v4).setCell ⟨g, 5, none⟩ v5).setCell ⟨g, 6, none⟩ v6).setCell ⟨g, 7, none⟩ v7).setCell ⟨g, 8, none⟩ v8).cell? ⟨g, 6, none⟩ = some v6 ∧ (((((((((w.setCell ⟨g, 0, none⟩ v0).setCell ⟨g, 1, none⟩ v1).setCell ⟨g, 2, none⟩ v2).setCell ⟨g, 3, none⟩ v3).setCell ⟨g, 4, none⟩ v4).setCell ⟨g, 5, none⟩ v5).setCell ⟨g, 6, none⟩ v6).setCell ⟨g, 7, none⟩ v7).setCell ⟨g, 8, none⟩ v8).cell? ⟨g, 7, none⟩ = some v7 ∧ (((((((((w.setCell ⟨g, 0, none⟩ v0).setCell ⟨g, 1, none⟩ v1).setCell ⟨g, 2, none⟩ v2).setCell ⟨g, 3, none⟩ v3).setCell ⟨g, 4, none⟩ v4).setCell ⟨g, 5, none⟩ v5).setCell ⟨g, 6, none⟩ v6).setCell ⟨g, 7, none⟩ v7).setCell ⟨g, 8, none⟩ v8).cell? ⟨g, 8, none⟩ = some v8 := by
  have h9 := ((((((((h.set_ 0 v0).set_ 1 v1).set_ 2 v2).set_ 3 v3).set_ 4 v4).set_ 5 v5).set_ 6 v6).set_ 7 v7).set_ 8 v8
  simp only [h9.cell, Array.getElem?_setIfInBounds, Array.size_setIfInBounds, hs]
  exact ⟨rfl, rfl, rfl, rfl, rfl, rfl, rfl, rfl, rfl⟩
/-- A pyramid is kept by a store elsewhere. -/
theorem PyR.far {w : World} {y : Nat} {cs : Array Value} {P : Nat → List Pn} {B : Nat} (h : PyR w y cs P B) {g o : Nat} (ho : Out y cs g) (v : Value) : PyR (w.setCell ⟨g, o, none⟩ v) y cs P B :=
  { h with
    hq := (Below.heap_setCell w _ v y (fun e => ho.1 e.symm)).trans h.hq
    hl := fun l hl => by
      obtain ⟨u, hu, hL⟩ := h.hl l hl
      exact ⟨u, hu, hL.keep fun m hm => Below.heap_setCell w _ v m (fun e => ho.2 l (by rw [hu, hm]; simp only at e; rw [e]))⟩ }
/-- What a cell holds. -/
def rdAt (W : World) (p : Addr) : Value := (W.cell? p).getD undef
structure PairSt (w0 : World) (y : Nat) (cs : Array Value) (S : List Pn) (B : Nat) (k : Ck) (L cx cy r0 r1 r2 r3 : Int) (p4 p5 p8 p9 : Nat) (W : World) : Prop where
  h4 : Blk W p4 37 k.cells.toArray
  h5 : Blk W p5 35 #[.int .i64 L, .int .i64 cx, .int .i64 cy]
  h8 : ∃ c8 : Array Value, c8.size = 9 ∧ Blk W p8 37 c8
  h9 : Blk W p9 33 #[.int .i64 r0, .int .i64 r1, .int .i64 r2, .int .i64 r3]
  py : PyR W y cs (fun _ => S) B
  und : Below w0.heap.size w0 W
  n48 : p4 ≠ p8
  o8 : Out y cs p8
  g8 : w0.heap.size ≤ p8
theorem PairSt.below {w0 W X : World} {y : Nat} {cs : Array Value} {S : List Pn} {B : Nat} {k : Ck} {L cx cy r0 r1 r2 r3 : Int} {p4 p5 p8 p9 : Nat} (h : PairSt w0 y cs S B k L cx cy r0 r1 r2 r3 p4 p5 p8 p9 W) (hb : Below W.heap.size W X) : PairSt w0 y cs S B k L cx cy r0 r1 r2 r3 p4 p5 p8 p9 X :=
  { h with
    h4 := h.h4.thru0 hb
    h5 := h.h5.thru0 hb
    h8 := by obtain ⟨c8, a, b⟩ := h.h8; exact ⟨c8, a, b.thru0 hb⟩
    h9 := h.h9.thru0 hb
    py := h.py.below hb
    und := below_trans h.und hb }
theorem PairSt.drew {w0 W : World} {y : Nat} {cs : Array Value} {S : List Pn} {B : Nat} {k : Ck} {L cx cy r0 r1 r2 r3 : Int} {p4 p5 p8 p9 : Nat} (h : PairSt w0 y cs S B k L cx cy r0 r1 r2 r3 p4 p5 p8 p9 W) : PairSt w0 y cs S B k L cx cy r0 r1 r2 r3 p4 p5 p8 p9 W.drew := h.below (below_drawn (Below.refl _ _) 1)
theorem PairSt.set {w0 W : World} {y : Nat} {cs : Array Value} {S : List Pn} {B : Nat} {k : Ck} {L cx cy r0 r1 r2 r3 : Int} {p4 p5 p8 p9 : Nat} (h : PairSt w0 y cs S B k L cx cy r0 r1 r2 r3 p4 p5 p8 p9 W) (o : Nat) (v : Value) : PairSt w0 y cs S B k L cx cy r0 r1 r2 r3 p4 p5 p8 p9 (W.setCell ⟨p8, o, none⟩ v) := by
  obtain ⟨c8, a, b⟩ := h.h8
  exact { h with
    h4 := h.h4.far h.n48 v
    h5 := h.h5.far (Blk.ne_ h.h5 b (by decide)) v
    h8 := ⟨c8.setIfInBounds o v, by simpa using a, b.set_ o v⟩
    h9 := h.h9.far (Blk.ne_ h.h9 b (by decide)) v
    py := h.py.far h.o8 v
    und := ⟨h.und.os, h.und.tape, h.und.output, by simpa using h.und.size, fun i hi => (Below.heap_setCell W _ v i (by have := h.g8; simp only; omega)).trans (h.und.block i hi)⟩ }
theorem PairSt.all {w W : World} {y : Nat} {cs : Array Value} {S : List Pn} {B : Nat} {k : Ck} {L cx cy r0 r1 r2 r3 : Int} {p4 p5 p8 p9 : Nat} (h : PairSt w y cs S B k L cx cy r0 r1 r2 r3 p4 p5 p8 p9 W) :
    (∀ o : Nat, W.cell? ⟨p4, o, none⟩ = ([Value.int .i64 k.a, Value.int .i64 k.b, Value.int .i64 k.c, Value.int .i64 k.d, Value.int .i64 k.L, Value.int .i64 k.x, Value.int .i64 k.y, Value.int .i64 k.kd, Value.int .i64 k.n])[o]?) ∧ (∀ o : Nat, W.cell? ⟨p5, o, none⟩ = ([Value.int .i64 L, Value.int .i64 cx, Value.int .i64 cy])[o]?) ∧ (∀ o : Nat, W.cell? ⟨p9, o, none⟩ = ([Value.int .i64 r0, Value.int .i64 r1, Value.int .i64 r2, Value.int .i64 r3])[o]?) ∧ W.cell? ⟨p8, 0, none⟩ = some (rdAt W ⟨p8, 0, none⟩) ∧ W.cell? ⟨p8, 1, none⟩ = some (rdAt W ⟨p8, 1, none⟩) ∧ W.cell? ⟨p8, 2, none⟩ = some (rdAt W ⟨p8, 2, none⟩) ∧ W.cell? ⟨p8, 3, none⟩ = some (rdAt W ⟨p8, 3, none⟩) ∧ W.cell? ⟨p8, 4, none⟩ = some (rdAt W ⟨p8, 4, none⟩) ∧ W.cell? ⟨p8, 5, none⟩ = some (rdAt W ⟨p8, 5, none⟩) ∧ W.cell? ⟨p8, 6, none⟩ = some (rdAt W ⟨p8, 6, none⟩) ∧ W.cell? ⟨p8, 7, none⟩ = some (rdAt W ⟨p8, 7, none⟩) ∧ W.cell? ⟨p8, 8, none⟩ = some (rdAt W ⟨p8, 8, none⟩) ∧ (∀ o : Nat, W.frozen? ⟨p8, o, none⟩ = false) ∧ PairSt w y cs S B k L cx cy r0 r1 r2 r3 p4 p5 p8 p9 W := by
  obtain ⟨c8, a, b⟩ := h.h8
  have hr : ∀ o, o < 9 → W.cell? ⟨p8, o, none⟩ = some (rdAt W ⟨p8, o, none⟩) := fun o ho => by
    have : c8[o]? = some (c8[o]'(by omega)) := Array.getElem?_eq_getElem ..
    unfold rdAt
    rw [b.cell, this]
    rfl
  exact ⟨fun o => by rw [h.h4.cell]; exact List.getElem?_toArray .., fun o => by rw [h.h5.cell]; exact List.getElem?_toArray .., fun o => by rw [h.h9.cell]; exact List.getElem?_toArray .., hr 0 (by decide), hr 1 (by decide), hr 2 (by decide), hr 3 (by decide), hr 4 (by decide), hr 5 (by decide), hr 6 (by decide), hr 7 (by decide), hr 8 (by decide), fun o => b.frozen o, h⟩
set_option maxRecDepth 100000 in
set_option maxHeartbeats 8000000 in
theorem pair_any (y : Nat) (cs : Array Value) (S : List Pn) (B : Nat) (k : Ck) (L cx cy kd : Int) (w : World) (h : PyR w y cs (fun _ => S) B) (hS : S.length ≤ 1000000) (hn : 0 ≤ k.n ∧ k.n ≤ 1000000) :
    Calls Try.prog 48 #[k.val, .agg #[.int .i64 L, .int .i64 cx, .int .i64 cy], .int .i64 kd, .func (.func 16) #[.pointer (some ⟨y, 0, none⟩)] #[]] w fun e w' => e = .returned (pairK S k L cx cy kd).val ∧ Below w.heap.size w w' := by
  have HBX := Lib.hid (cbox_u L cx cy)
  have hcl : cntC S L cx cy ≤ S.length := by unfold cntC; split; exact List.countP_le_length; omega
  have hwr : IntKind.i64.wrap (k.n + (cntC S L cx cy : Int)) = k.n + (cntC S L cx cy : Int) := by rw [IntKind.wrap_i64]; omega
  have HCT := Lib.hid (fun W h => count_any y cs S B L cx cy W h)
  have HPY := Lib.hid h; clear h hcl hn
  have HP := Lib.hid (show pairK S k L cx cy kd = ⟨hu0 k.a k.b k.c k.d (b0 L cx cy) (b1 L cx cy) (b2 L cx cy) (b3 L cx cy), hu1 k.a k.b k.c k.d (b0 L cx cy) (b1 L cx cy) (b2 L cx cy) (b3 L cx cy), hu2 k.a k.b k.c k.d (b0 L cx cy) (b1 L cx cy) (b2 L cx cy) (b3 L cx cy), hu3 k.a k.b k.c k.d (b0 L cx cy) (b1 L cx cy) (b2 L cx cy) (b3 L cx cy), k.L, k.x, k.y, kd, k.n + (cntC S L cx cy : Int)⟩ from rfl)
  rw [HP.out]
  clear HP
  generalize b0 L cx cy = r0 at *
  generalize b1 L cx cy = r1 at *
  generalize b2 L cx cy = r2 at *
  generalize b3 L cx cy = r3 at *
  generalize okC L cx cy = ob at *
  generalize (cntC S L cx cy : Int) = cn at *
  have HHU := Lib.hid (hull_u k.a k.b k.c k.d r0 r1 r2 r3)
  generalize hu0 k.a k.b k.c k.d r0 r1 r2 r3 = h0 at *
  generalize hu1 k.a k.b k.c k.d r0 r1 r2 r3 = h1 at *
  generalize hu2 k.a k.b k.c k.d r0 r1 r2 r3 = h2 at *
  generalize hu3 k.a k.b k.c k.d r0 r1 r2 r3 = h3 at *
  unfold Ck.val
  go_enter Try.func48, Try.ntmps48
  go_wp2_with fail
  have hb3 := blk_three w 37 35 37 #[.int .i64 k.a, .int .i64 k.b, .int .i64 k.c, .int .i64 k.d, .int .i64 k.L, .int .i64 k.x, .int .i64 k.y, .int .i64 k.kd, .int .i64 k.n] #[.int .i64 L, .int .i64 cx, .int .i64 cy] ck0.cells.toArray
  have hA3 : Below w.heap.size w (((w.alloc (.cells #[.int .i64 k.a, .int .i64 k.b, .int .i64 k.c, .int .i64 k.d, .int .i64 k.L, .int .i64 k.x, .int .i64 k.y, .int .i64 k.kd, .int .i64 k.n] 37)).alloc (.cells #[.int .i64 L, .int .i64 cx, .int .i64 cy] 35)).alloc (.cells ck0.cells.toArray 37)) := (((Below.refl _ _).alloc (Nat.le_refl _) _).alloc (by simp) _).alloc (by simp; omega) _
  refine (HBX.out _).mono ?_
  rintro e w1 ⟨rfl, hb1⟩
  have hA4 : Below w1.heap.size w1 (w1.alloc (.cells #[.int .i64 r0, .int .i64 r1, .int .i64 r2, .int .i64 r3] 33)) := (Below.refl _ _).alloc (Nat.le_refl _) _
  have HQ := Lib.hid (show PairSt w y cs S B k L cx cy r0 r1 r2 r3 w.heap.size (w.heap.size + 1) (w.heap.size + 1 + 1) w1.heap.size (w1.alloc (.cells #[.int .i64 r0, .int .i64 r1, .int .i64 r2, .int .i64 r3] 33)) from
    { h4 := (hb3.1.thru0 hb1).thru0 hA4
      h5 := (hb3.2.1.thru0 hb1).thru0 hA4
      h8 := ⟨ck0.cells.toArray, rfl, (hb3.2.2.thru0 hb1).thru0 hA4⟩
      h9 := Blk.new _ _ _
      py := HPY.out.below (below_trans (below_trans hA3 hb1) hA4)
      und := below_trans (below_trans hA3 hb1) hA4
      n48 := by omega
      o8 := HPY.out.out (by omega)
      g8 := by omega })
  clear hb3 hA3 hb1 hA4
  go_upto_region 2 with fail
  generalize hp9 : w1.heap.size = p9 at *
  generalize hp4 : w.heap.size = p4 at *
  generalize hp5 : p4 + 1 = p5 at *
  generalize hp8 : p5 + 1 = p8 at *
  generalize (w1.alloc (.cells #[.int .i64 r0, .int .i64 r1, .int .i64 r2, .int .i64 r3] 33)) = W at *
  obtain ⟨z1, z2, z3, z4, z5, z6, z7, z8, z9, z10, z11, z12, z13, z14⟩ := HQ.out.all
  go_region_held3 (fun w' => (∀ o : Nat, w'.cell? ⟨p4, o, none⟩ = ([Value.int .i64 k.a, Value.int .i64 k.b, Value.int .i64 k.c, Value.int .i64 k.d, Value.int .i64 k.L, Value.int .i64 k.x, Value.int .i64 k.y, Value.int .i64 k.kd, Value.int .i64 k.n])[o]?) ∧ (∀ o : Nat, w'.cell? ⟨p5, o, none⟩ = ([Value.int .i64 L, Value.int .i64 cx, Value.int .i64 cy])[o]?) ∧ (∀ o : Nat, w'.cell? ⟨p9, o, none⟩ = ([Value.int .i64 r0, Value.int .i64 r1, Value.int .i64 r2, Value.int .i64 r3])[o]?) ∧ w'.cell? ⟨p8, 0, none⟩ = some (rdAt w' ⟨p8, 0, none⟩) ∧ w'.cell? ⟨p8, 1, none⟩ = some (rdAt w' ⟨p8, 1, none⟩) ∧ w'.cell? ⟨p8, 2, none⟩ = some (rdAt w' ⟨p8, 2, none⟩) ∧ w'.cell? ⟨p8, 3, none⟩ = some (rdAt w' ⟨p8, 3, none⟩) ∧ w'.cell? ⟨p8, 4, none⟩ = some (rdAt w' ⟨p8, 4, none⟩) ∧ w'.cell? ⟨p8, 5, none⟩ = some (rdAt w' ⟨p8, 5, none⟩) ∧ w'.cell? ⟨p8, 6, none⟩ = some (rdAt w' ⟨p8, 6, none⟩) ∧ w'.cell? ⟨p8, 7, none⟩ = some (rdAt w' ⟨p8, 7, none⟩) ∧ w'.cell? ⟨p8, 8, none⟩ = some (rdAt w' ⟨p8, 8, none⟩) ∧ (∀ o : Nat, w'.frozen? ⟨p8, o, none⟩ = false) ∧ PairSt w y cs S B k L cx cy r0 r1 r2 r3 p4 p5 p8 p9 w') (first | (with_reducible exact PairSt.all (PairSt.drew HQ.out)) | (go_split_ands; with_reducible exact PairSt.all (PairSt.below (by assumption) (by assumption))) | (go_split_ands; refine PairSt.all ?_; with_reducible (iterate 9 (refine PairSt.set ?_ _ _)); with_reducible assumption))
    (first
      | (go_at_call 58; refine (HHU.out _).mono ?_; rintro e w9 ⟨rfl, hb9⟩; have H8 := Lib.hid (PairSt.h8 (PairSt.below (by first | assumption | (go_split_ands; assumption)) hb9)))
      | (go_at_call 16; refine (HCT.out _ (by first | exact PairSt.py (by assumption) | (go_split_ands; exact PairSt.py (by assumption)))).mono ?_; rintro e w9 ⟨rfl, hb9⟩; have H8 := Lib.hid (PairSt.h8 (PairSt.below (by first | assumption | (go_split_ands; assumption)) hb9))))
  all_goals
    have HFIN : Hid (Below w.heap.size w _) := Lib.hid (by go_split_ands; subst hp4; exact PairSt.und (by assumption))
    rename_i hHH
    clear hHH
    obtain ⟨c8, e8, b8⟩ := H8.out
    obtain ⟨n0, n1, n2, n3, n4, n5, n6, n7, n8⟩ := blk_nine b8 e8 (.int .i64 h0) (.int .i64 h1) (.int .i64 h2) (.int .i64 h3) (.int .i64 k.L) (.int .i64 k.x) (.int .i64 k.y) (.int .i64 kd) (.int .i64 (k.n + cn))
    clear b8 e8 H8
    go_wp2
    refine bodyPost_ret (v := .agg #[.int .i64 h0, .int .i64 h1, .int .i64 h2, .int .i64 h3, .int .i64 k.L, .int .i64 k.x, .int .i64 k.y, .int .i64 kd, .int .i64 (k.n + cn)]) ?_ rfl ⟨rfl, HFIN.out⟩
    simp [results, Try.results48, go_sem, *]
end Go.Proofs.Ytipfhleedfbnaaa
