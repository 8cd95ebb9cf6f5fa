/- cloak: what is tried at a cell, by contract. -/
import Derived.Test.YtipfhleedfbnaaaCk1
namespace Go.Proofs.Ytipfhleedfbnaaa
set_option linter.unusedVariables false
set_option linter.unusedSimpArgs false
open Go.RowKit
/-- A pyramid in a later world, in which all is kept. -/
structure CkSt (w1 : World) (y : Nat) (cs : Array Value) (S : List Pn) (B : Nat) (W : World) : Prop where
  py : PyR W y cs (fun _ => S) B
  und : Below w1.heap.size w1 W
  out : ∀ i, w1.heap.size ≤ i → Out y cs i
theorem CkSt.start {w : World} {y : Nat} {cs : Array Value} {S : List Pn} {B : Nat} (h : PyR w y cs (fun _ => S) B) : CkSt w y cs S B w := ⟨h, Below.refl _ _, fun i hi => h.out hi⟩
theorem CkSt.below {w1 W X : World} {y : Nat} {cs : Array Value} {S : List Pn} {B : Nat} (h : CkSt w1 y cs S B W) (hb : Below W.heap.size W X) : CkSt w1 y cs S B X := ⟨h.py.below hb, below_trans h.und hb, h.out⟩
theorem CkSt.drew {w1 W : World} {y : Nat} {cs : Array Value} {S : List Pn} {B : Nat} (h : CkSt w1 y cs S B W) : CkSt w1 y cs S B W.drew := h.below (below_drawn (Below.refl _ _) 1)
theorem CkSt.alloc {w1 W : World} {y : Nat} {cs : Array Value} {S : List Pn} {B : Nat} (h : CkSt w1 y cs S B W) (o : Obj) : CkSt w1 y cs S B (W.alloc o) := h.below ((Below.refl _ _).alloc (Nat.le_refl _) _)
theorem CkSt.set {w1 W : World} {y : Nat} {cs : Array Value} {S : List Pn} {B : Nat} (h : CkSt w1 y cs S B W) (p o : Nat) (hp : w1.heap.size ≤ p) (v : Value) : CkSt w1 y cs S B (W.setCell ⟨p, o, none⟩ v) :=
  ⟨h.py.far (h.out p hp) v, ⟨h.und.os, h.und.tape, h.und.output, by simpa using h.und.size, fun i hi => (Below.heap_setCell W _ v i (by simp only; omega)).trans (h.und.block i hi)⟩, h.out⟩
theorem CkSt.nine9 {w1 W0 : World} {y : Nat} {cs : Array Value} {S : List Pn} {B p : Nat} (h : CkSt w1 y cs S B W0) (hp : w1.heap.size ≤ p) (v0 v1 v2 v3 v4 v5 v6 v7 v8 : Value) :
    CkSt w1 y cs S B (((((((((W0.setCell ⟨p, 0, none⟩ v0).setCell ⟨p, 1, none⟩ v1).setCell ⟨p, 2, none⟩ v2).setCell ⟨p, 3, none⟩ v3).setCell ⟨p, 4, none⟩ v4).setCell ⟨p, 5, none⟩ v5).setCell ⟨p, 6, none⟩ v6).setCell ⟨p, 7, none⟩ v7).setCell ⟨p, 8, none⟩ v8) := by
  have h := h.set p 0 hp v0
  generalize W0.setCell ⟨p, 0, none⟩ v0 = W1 at *
  have h := h.set p 1 hp v1
  generalize W1.setCell ⟨p, 1, none⟩ v1 = W2 at *
  have h := h.set p 2 hp v2
  generalize W2.setCell ⟨p, 2, none⟩ v2 = W3 at *
  have h := h.set p 3 hp v3
  generalize W3.setCell ⟨p, 3, none⟩ v3 = W4 at *
  have h := h.set p 4 hp v4
  generalize W4.setCell ⟨p, 4, none⟩ v4 = W5 at *
  have h := h.set p 5 hp v5
  generalize W5.setCell ⟨p, 5, none⟩ v5 = W6 at *
  have h := h.set p 6 hp v6
  generalize W6.setCell ⟨p, 6, none⟩ v6 = W7 at *
  have h := h.set p 7 hp v7
  generalize W7.setCell ⟨p, 7, none⟩ v7 = W8 at *
  have h := h.set p 8 hp v8
  generalize W8.setCell ⟨p, 8, none⟩ v8 = W9 at *
  exact h
theorem Blk.far9 {W0 : World} {g p : Nat} {t : TypeId} {cs : Array Value} (h : Blk W0 g t cs) (hp : g ≠ p) (v0 v1 v2 v3 v4 v5 v6 v7 v8 : Value) :
    Blk (((((((((W0.setCell ⟨p, 0, none⟩ v0).setCell ⟨p, 1, none⟩ v1).setCell ⟨p, 2, none⟩ v2).setCell ⟨p, 3, none⟩ v3).setCell ⟨p, 4, none⟩ v4).setCell ⟨p, 5, none⟩ v5).setCell ⟨p, 6, none⟩ v6).setCell ⟨p, 7, none⟩ v7).setCell ⟨p, 8, none⟩ v8) g t cs := by
  have h := h.far (p := ⟨p, 0, none⟩) hp v0
  generalize W0.setCell ⟨p, 0, none⟩ v0 = W1 at *
  have h := h.far (p := ⟨p, 1, none⟩) hp v1
  generalize W1.setCell ⟨p, 1, none⟩ v1 = W2 at *
  have h := h.far (p := ⟨p, 2, none⟩) hp v2
  generalize W2.setCell ⟨p, 2, none⟩ v2 = W3 at *
  have h := h.far (p := ⟨p, 3, none⟩) hp v3
  generalize W3.setCell ⟨p, 3, none⟩ v3 = W4 at *
  have h := h.far (p := ⟨p, 4, none⟩) hp v4
  generalize W4.setCell ⟨p, 4, none⟩ v4 = W5 at *
  have h := h.far (p := ⟨p, 5, none⟩) hp v5
  generalize W5.setCell ⟨p, 5, none⟩ v5 = W6 at *
  have h := h.far (p := ⟨p, 6, none⟩) hp v6
  generalize W6.setCell ⟨p, 6, none⟩ v6 = W7 at *
  have h := h.far (p := ⟨p, 7, none⟩) hp v7
  generalize W7.setCell ⟨p, 7, none⟩ v7 = W8 at *
  have h := h.far (p := ⟨p, 8, none⟩) hp v8
  generalize W8.setCell ⟨p, 8, none⟩ v8 = W9 at *
  exact h
theorem Blk.nine9 {W0 : World} {p : Nat} {t : TypeId} {u0 u1 u2 u3 u4 u5 u6 u7 u8 : Value} (h : Blk W0 p t #[u0, u1, u2, u3, u4, u5, u6, u7, u8]) (v0 v1 v2 v3 v4 v5 v6 v7 v8 : Value) :
    Blk (((((((((W0.setCell ⟨p, 0, none⟩ v0).setCell ⟨p, 1, none⟩ v1).setCell ⟨p, 2, none⟩ v2).setCell ⟨p, 3, none⟩ v3).setCell ⟨p, 4, none⟩ v4).setCell ⟨p, 5, none⟩ v5).setCell ⟨p, 6, none⟩ v6).setCell ⟨p, 7, none⟩ v7).setCell ⟨p, 8, none⟩ v8) p t #[v0, v1, v2, v3, v4, v5, v6, v7, v8] := by
  have h : Blk _ p t #[v0, u1, u2, u3, u4, u5, u6, u7, u8] := h.set_ 0 v0
  generalize W0.setCell ⟨p, 0, none⟩ v0 = W1 at *
  have h : Blk _ p t #[v0, v1, u2, u3, u4, u5, u6, u7, u8] := h.set_ 1 v1
  generalize W1.setCell ⟨p, 1, none⟩ v1 = W2 at *
  have h : Blk _ p t #[v0, v1, v2, u3, u4, u5, u6, u7, u8] := h.set_ 2 v2
  generalize W2.setCell ⟨p, 2, none⟩ v2 = W3 at *
  have h : Blk _ p t #[v0, v1, v2, v3, u4, u5, u6, u7, u8] := h.set_ 3 v3
  generalize W3.setCell ⟨p, 3, none⟩ v3 = W4 at *
  have h : Blk _ p t #[v0, v1, v2, v3, v4, u5, u6, u7, u8] := h.set_ 4 v4
  generalize W4.setCell ⟨p, 4, none⟩ v4 = W5 at *
  have h : Blk _ p t #[v0, v1, v2, v3, v4, v5, u6, u7, u8] := h.set_ 5 v5
  generalize W5.setCell ⟨p, 5, none⟩ v5 = W6 at *
  have h : Blk _ p t #[v0, v1, v2, v3, v4, v5, v6, u7, u8] := h.set_ 6 v6
  generalize W6.setCell ⟨p, 6, none⟩ v6 = W7 at *
  have h : Blk _ p t #[v0, v1, v2, v3, v4, v5, v6, v7, u8] := h.set_ 7 v7
  generalize W7.setCell ⟨p, 7, none⟩ v7 = W8 at *
  have h : Blk _ p t #[v0, v1, v2, v3, v4, v5, v6, v7, v8] := h.set_ 8 v8
  generalize W8.setCell ⟨p, 8, none⟩ v8 = W9 at *
  exact h
theorem CkSt.seven {W X : World} {y : Nat} {cs : Array Value} {S : List Pn} {B : Nat} {L cx cy r0 r1 r2 r3 : Int} {p2 p5 : Nat} (hx : W.cell? ⟨p2, 0, none⟩ = some (.int .i64 L) ∧ W.cell? ⟨p2, 1, none⟩ = some (.int .i64 cx) ∧ W.cell? ⟨p2, 2, none⟩ = some (.int .i64 cy) ∧ W.cell? ⟨p5, 0, none⟩ = some (.int .i64 r0) ∧ W.cell? ⟨p5, 1, none⟩ = some (.int .i64 r1) ∧ W.cell? ⟨p5, 2, none⟩ = some (.int .i64 r2) ∧ W.cell? ⟨p5, 3, none⟩ = some (.int .i64 r3)) (h : CkSt W y cs S B X) : X.cell? ⟨p2, 0, none⟩ = some (.int .i64 L) ∧ X.cell? ⟨p2, 1, none⟩ = some (.int .i64 cx) ∧ X.cell? ⟨p2, 2, none⟩ = some (.int .i64 cy) ∧ X.cell? ⟨p5, 0, none⟩ = some (.int .i64 r0) ∧ X.cell? ⟨p5, 1, none⟩ = some (.int .i64 r1) ∧ X.cell? ⟨p5, 2, none⟩ = some (.int .i64 r2) ∧ X.cell? ⟨p5, 3, none⟩ = some (.int .i64 r3) ∧ CkSt W y cs S B X :=
  ⟨cell_later h.und hx.1, cell_later h.und hx.2.1, cell_later h.und hx.2.2.1, cell_later h.und hx.2.2.2.1, cell_later h.und hx.2.2.2.2.1, cell_later h.und hx.2.2.2.2.2.1, cell_later h.und hx.2.2.2.2.2.2, h⟩
/-- The cell's own box. -/
def ownK (S : List Pn) (L x y : Int) : Ck := ⟨b0 L x y, b1 L x y, b2 L x y, b3 L x y, L, x, y, 0, (cntC S L x y : Int)⟩
def besK (S : List Pn) (L x y : Int) : Ck := pairK S (ownK S L x y) (d0 L x y) (d1 L x y) (d2 L x y) 1
def ovrK (S : List Pn) (L x y : Int) : Ck := pairK S (ownK S L x y) (d0 L x y) (e1 L x y) (e2 L x y) 2
def triedK (S : List Pn) (L x y : Int) : List Ck :=
  if okB L x y = true then (if (ovrK S L x y).n < (besK S L x y).n then [ownK S L x y, ovrK S L x y, besK S L x y] else [ownK S L x y, besK S L x y, ovrK S L x y]) else [ownK S L x y]
/-- The row of what is tried. -/
def TriedP (l : List Ck) (w : World) (e : Ending) (w' : World) : Prop :=
  ∃ g, e = .returned (.slice (some ⟨g, 0, none⟩) l.length l.length) ∧ Blk w' g 37 (l.flatMap Ck.cells).toArray ∧ Below w.heap.size w w' ∧ w.heap.size ≤ g
set_option maxRecDepth 100000 in
set_option maxHeartbeats 8000000 in
theorem tried_any (y : Nat) (cs : Array Value) (S : List Pn) (B : Nat) (L cx cy : Int) (w : World) (h : PyR w y cs (fun _ => S) B) (hS : S.length ≤ 500000) :
    Calls Try.prog 26 #[.agg #[.int .i64 L, .int .i64 cx, .int .i64 cy], .func (.func 16) #[.pointer (some ⟨y, 0, none⟩)] #[]] w fun e w' => TriedP (triedK S L cx cy) w e w' := by
  have HBX := Lib.hid (cbox_u L cx cy)
  have HCT := Lib.hid (fun W h => count_any y cs S B L cx cy W h)
  have hcl : ∀ a b c : Int, (cntC S a b c : Int) ≤ S.length := fun a b c => by unfold cntC; split; exact Int.ofNat_le.2 List.countP_le_length; omega
  have HOWN := Lib.hid (show ownK S L cx cy = ⟨b0 L cx cy, b1 L cx cy, b2 L cx cy, b3 L cx cy, L, cx, cy, 0, (cntC S L cx cy : Int)⟩ from rfl)
  have hon : 0 ≤ (ownK S L cx cy).n ∧ (ownK S L cx cy).n ≤ 1000000 := by have := hcl L cx cy; simp only [ownK]; omega
  have HBE := Lib.hid (fun W h => pair_any y cs S B (ownK S L cx cy) (d0 L cx cy) (d1 L cx cy) (d2 L cx cy) 1 W h (by omega) hon)
  have HOV := Lib.hid (fun W h => pair_any y cs S B (ownK S L cx cy) (d0 L cx cy) (e1 L cx cy) (e2 L cx cy) 2 W h (by omega) hon)
  have HBS := Lib.hid (cbeside_u L cx cy)
  have HOS := Lib.hid (cover_u L cx cy)
  have HTR := Lib.hid (show triedK S L cx cy = if okB L cx cy = true then (if (ovrK S L cx cy).n < (besK S L cx cy).n then [ownK S L cx cy, ovrK S L cx cy, besK S L cx cy] else [ownK S L cx cy, besK S L cx cy, ovrK S L cx cy]) else [ownK S L cx cy] from rfl)
  have HB9 := Lib.hid (show besK S L cx cy = pairK S (ownK S L cx cy) (d0 L cx cy) (d1 L cx cy) (d2 L cx cy) 1 from rfl)
  have HO9 := Lib.hid (show ovrK S L cx cy = pairK S (ownK S L cx cy) (d0 L cx cy) (e1 L cx cy) (e2 L cx cy) 2 from rfl)
  rw [← HB9.out] at HBE
  rw [← HO9.out] at HOV
  clear HB9 HO9 hon hcl hS
  generalize triedK S L cx cy = TK at *
  generalize ovrK S L cx cy = KO at *
  generalize besK S L cx cy = KB at *
  generalize ownK S L cx cy = K0 at *
  have hown := HOWN.out
  generalize b0 L cx cy = r0 at *
  generalize b1 L cx cy = r1 at *
  generalize b2 L cx cy = r2 at *
  generalize b3 L cx cy = r3 at *
  generalize (cntC S L cx cy : Int) = cn at *
  generalize d0 L cx cy = q0 at *
  generalize d1 L cx cy = q1 at *
  generalize d2 L cx cy = q2 at *
  generalize e1 L cx cy = q3 at *
  generalize e2 L cx cy = q4 at *
  generalize okC L cx cy = oc at *
  clear HOWN
  subst hown
  unfold Ck.val at HBE HOV
  have HST := Lib.hid (CkSt.start h); clear h
  have hA : Below w.heap.size w (w.alloc (.cells #[.int .i64 L, .int .i64 cx, .int .i64 cy] 35)) := (Below.refl _ _).alloc (Nat.le_refl _) _
  have HC := Lib.hid (Blk.new w 35 #[.int .i64 L, .int .i64 cx, .int .i64 cy])
  have HA := Lib.hid hA; clear hA
  go_enter Try.func26, Try.ntmps26
  go_wp2_with fail
  refine (HBX.out _).mono ?_
  rintro e w1 ⟨rfl, hb1⟩
  have hA2 : Below w1.heap.size w1 (w1.alloc (.cells #[.int .i64 r0, .int .i64 r1, .int .i64 r2, .int .i64 r3] 33)) := (Below.refl _ _).alloc (Nat.le_refl _) _
  have hk := Blk.new w1 33 #[.int .i64 r0, .int .i64 r1, .int .i64 r2, .int .i64 r3]
  have hc := (HC.out.thru0 hb1).thru0 hA2
  have HST2 := Lib.hid (HST.out.below (below_trans (below_trans HA.out hb1) hA2))
  clear HC HA hb1 hA2 HST
  go_upto_region 2 with fail
  have hst3 := CkSt.start HST2.out.py
  have x0 := hc.cell 0
  have x1 := hc.cell 1
  have x2 := hc.cell 2
  have y0 := hk.cell 0
  have y1 := hk.cell 1
  have y2 := hk.cell 2
  have y3 := hk.cell 3
  simp only [List.getElem?_toArray, List.getElem?_cons_zero, List.getElem?_cons_succ] at x0 x1 x2 y0 y1 y2 y3
  have HC2 := Lib.hid hc
  clear hk hc
  generalize hW : (w1.alloc (.cells #[.int .i64 r0, .int .i64 r1, .int .i64 r2, .int .i64 r3] 33)) = W at *
  generalize hp5 : w1.heap.size = p5 at *
  generalize hp2 : w.heap.size = p2 at *
  clear hW
  have HS3 := Lib.hid hst3; clear hst3
  go_cut [7] (fun s7 wx => ∃ p7 : Nat, s7 = .pointer (some ⟨p7, 0, none⟩) ∧ Hid (Blk wx p7 37 #[.int .i64 r0, .int .i64 r1, .int .i64 r2, .int .i64 r3, .int .i64 L, .int .i64 cx, .int .i64 cy, .int .i64 0, .int .i64 cn] ∧ Blk wx p2 35 #[.int .i64 L, .int .i64 cx, .int .i64 cy] ∧ CkSt W y cs S B wx ∧ W.heap.size ≤ p7))
  case first =>
    have lp2 := HC2.out.lt
    have lp5 : p5 < W.heap.size := World.block_lt_of_cell? W ⟨p5, 0, none⟩ y0
    have HX := Lib.hid (And.intro x0 (And.intro x1 (And.intro x2 (And.intro y0 (And.intro y1 (And.intro y2 y3))))))
    go_region_held3 (fun w' => w'.cell? ⟨p2, 0, none⟩ = some (.int .i64 L) ∧ w'.cell? ⟨p2, 1, none⟩ = some (.int .i64 cx) ∧ w'.cell? ⟨p2, 2, none⟩ = some (.int .i64 cy) ∧ w'.cell? ⟨p5, 0, none⟩ = some (.int .i64 r0) ∧ w'.cell? ⟨p5, 1, none⟩ = some (.int .i64 r1) ∧ w'.cell? ⟨p5, 2, none⟩ = some (.int .i64 r2) ∧ w'.cell? ⟨p5, 3, none⟩ = some (.int .i64 r3) ∧ CkSt W y cs S B w')
      (first
        | (with_reducible exact CkSt.seven HX.out (CkSt.drew HS3.out))
        | (with_reducible exact CkSt.seven HX.out HS9.out)
        | (refine CkSt.seven HX.out ?_; with_reducible refine CkSt.alloc ?_ _; with_reducible first | exact HS9.out | exact CkSt.drew HS3.out | exact HS3.out)
        | (refine CkSt.seven HX.out ?_; with_reducible refine CkSt.drew ?_; with_reducible refine CkSt.alloc ?_ _; with_reducible first | exact HS9.out | exact HS3.out)
        | (refine CkSt.seven HX.out ?_; with_reducible exact CkSt.nine9 HS9.out (Nat.le_refl _) _ _ _ _ _ _ _ _ _))
      (first
        | (go_at_call 16; refine (HCT.out _ (by first | exact HS3.out.py | exact HS3.out.drew.py | exact (HS3.out.alloc _).drew.py | exact (HS3.out.drew.alloc _).py | exact (HS3.out.alloc _).py)).mono ?_; rintro e w9 ⟨rfl, hb9⟩; (first | (have HN9 := (by first | exact (Blk.new W 37 #[Value.int .i64 0, Value.int .i64 0, Value.int .i64 0, Value.int .i64 0, Value.int .i64 0, Value.int .i64 0, Value.int .i64 0, Value.int .i64 0, Value.int .i64 0]).thru0 hb9 | exact (Blk.new W 37 #[Value.int .i64 0, Value.int .i64 0, Value.int .i64 0, Value.int .i64 0, Value.int .i64 0, Value.int .i64 0, Value.int .i64 0, Value.int .i64 0, Value.int .i64 0]).drew.thru0 hb9 | exact (Blk.new W.drew 37 #[Value.int .i64 0, Value.int .i64 0, Value.int .i64 0, Value.int .i64 0, Value.int .i64 0, Value.int .i64 0, Value.int .i64 0, Value.int .i64 0, Value.int .i64 0]).thru0 hb9 : Blk w9 W.heap.size 37 #[Value.int .i64 0, Value.int .i64 0, Value.int .i64 0, Value.int .i64 0, Value.int .i64 0, Value.int .i64 0, Value.int .i64 0, Value.int .i64 0, Value.int .i64 0]); have g0 := HN9.cell 0; have f0 := HN9.frozen 0; have g1 := HN9.cell 1; have f1 := HN9.frozen 1; have g2 := HN9.cell 2; have f2 := HN9.frozen 2; have g3 := HN9.cell 3; have f3 := HN9.frozen 3; have g4 := HN9.cell 4; have f4 := HN9.frozen 4; have g5 := HN9.cell 5; have f5 := HN9.frozen 5; have g6 := HN9.cell 6; have f6 := HN9.frozen 6; have g7 := HN9.cell 7; have f7 := HN9.frozen 7; have g8 := HN9.cell 8; have f8 := HN9.frozen 8; simp only [List.getElem?_toArray, List.getElem?_cons_zero, List.getElem?_cons_succ] at g0 g1 g2 g3 g4 g5 g6 g7 g8; have HN := Lib.hid HN9; clear HN9) | skip); have HS9 := Lib.hid (CkSt.below (by first | exact HS3.out | exact HS3.out.drew | exact (HS3.out.alloc _).drew | exact HS3.out.drew.alloc _ | exact HS3.out.alloc _) hb9); have HW9 := Lib.hid HS9.out.und; clear hb9))
    all_goals
      go_wp2
      go_meet
      refine ⟨_, rfl, Lib.hid ⟨?_, ?_, ?_, ?_⟩⟩
      · first
          | (with_reducible exact Blk.new _ _ _)
          | (with_reducible exact HN.out.nine9 _ _ _ _ _ _ _ _ _)
      · first
          | (with_reducible exact (HC2.out.thru0 HW9.out).alloc _)
          | (with_reducible exact (HC2.out.thru0 HW9.out).far9 (Nat.ne_of_lt HC2.out.lt) _ _ _ _ _ _ _ _ _)
      · first
          | (with_reducible exact (HS3.out.below HW9.out).alloc _)
          | (with_reducible exact (HS3.out.below HW9.out).nine9 (Nat.le_refl _) _ _ _ _ _ _ _ _ _)
      · first | (with_reducible exact Nat.le_refl _) | exact HW9.out.size
  case rest =>
    obtain ⟨p7, rfl, HR⟩ := hcut
    clear x0 x1 x2 y0 y1 y2 y3 HC2
    have x0 := HR.out.2.1.cell 0
    have x1 := HR.out.2.1.cell 1
    have x2 := HR.out.2.1.cell 2
    simp only [List.getElem?_toArray, List.getElem?_cons_zero, List.getElem?_cons_succ] at x0 x1 x2
    go_wp2_with fail
    refine (HBS.out _).mono ?_
    rintro e w3 ⟨rfl, hb3⟩
    have hA3 : Below w3.heap.size w3 (w3.alloc (.cells #[.int .i64 q0, .int .i64 q1, .int .i64 q2] 35)) := (Below.refl _ _).alloc (Nat.le_refl _) _
    have H7 := Lib.hid ((HR.out.1.thru0 hb3).thru0 hA3)
    have H2 := Lib.hid ((HR.out.2.1.thru0 hb3).thru0 hA3)
    have H8 := Lib.hid (Blk.new w3 35 #[.int .i64 q0, .int .i64 q1, .int .i64 q2])
    have HK3 := Lib.hid ((HR.out.2.2.1.below hb3).below hA3)
    have HLW := Lib.hid (Nat.le_trans HR.out.2.2.1.und.size hb3.size)
    have HLE := Lib.hid (Nat.le_trans HST2.out.und.size (Nat.le_trans HR.out.2.2.1.und.size hb3.size))
    clear hb3 hA3 HR x0 x1 x2
    have x0 := H7.out.cell 0
    have x1 := H7.out.cell 1
    have x2 := H7.out.cell 2
    have x3 := H7.out.cell 3
    have x4 := H7.out.cell 4
    have x5 := H7.out.cell 5
    have x6 := H7.out.cell 6
    have x7 := H7.out.cell 7
    have x8 := H7.out.cell 8
    simp only [List.getElem?_toArray, List.getElem?_cons_zero, List.getElem?_cons_succ] at x0 x1 x2 x3 x4 x5 x6 x7 x8
    generalize hob : okB L cx cy = ob at *
    cases ob with
    | false =>
      have HTK := Lib.hid (show TK = [⟨r0, r1, r2, r3, L, cx, cy, 0, cn⟩] by have := HTR.out; simpa using this)
      go_wp2
      go_ret
      have e := HTK.out
      subst e
      exact ⟨_, rfl, Blk.newAt (by simp), below_trans (below_trans HST2.out.und HK3.out.und) ((Below.refl _ _).alloc (Nat.le_refl _) _), by have := HLE.out; simp; omega⟩
    | true =>
      clear x0 x1 x2 x3 x4 x5 x6 x7 x8
      have x0 := H7.out.cell 0
      have x1 := H7.out.cell 1
      have x2 := H7.out.cell 2
      have x3 := H7.out.cell 3
      have x4 := H7.out.cell 4
      have x5 := H7.out.cell 5
      have x6 := H7.out.cell 6
      have x7 := H7.out.cell 7
      have x8 := H7.out.cell 8
      simp only [List.getElem?_toArray, List.getElem?_cons_zero, List.getElem?_cons_succ] at x0 x1 x2 x3 x4 x5 x6 x7 x8
      have y0 := H8.out.cell 0
      have y1 := H8.out.cell 1
      have y2 := H8.out.cell 2
      simp only [List.getElem?_toArray, List.getElem?_cons_zero, List.getElem?_cons_succ] at y0 y1 y2
      go_wp2_with fail
      generalize hp8 : w3.heap.size = p8 at *
      generalize (w3.alloc (.cells #[.int .i64 q0, .int .i64 q1, .int .i64 q2] 35)) = W3 at *
      refine (HBE.out _ HK3.out.py).mono ?_
      rintro e w4 ⟨rfl, hb4⟩
      have hA4 : Below w4.heap.size w4 (w4.alloc (.cells #[.int .i64 KB.a, .int .i64 KB.b, .int .i64 KB.c, .int .i64 KB.d, .int .i64 KB.L, .int .i64 KB.x, .int .i64 KB.y, .int .i64 KB.kd, .int .i64 KB.n] 37)) := (Below.refl _ _).alloc (Nat.le_refl _) _
      have G7 := Lib.hid ((H7.out.thru0 hb4).thru0 hA4)
      have G2 := Lib.hid ((H2.out.thru0 hb4).thru0 hA4)
      have G8 := Lib.hid ((H8.out.thru0 hb4).thru0 hA4)
      have G10 := Lib.hid (Blk.new w4 37 #[.int .i64 KB.a, .int .i64 KB.b, .int .i64 KB.c, .int .i64 KB.d, .int .i64 KB.L, .int .i64 KB.x, .int .i64 KB.y, .int .i64 KB.kd, .int .i64 KB.n])
      have HK4 := Lib.hid ((HK3.out.below hb4).below hA4)
      have HL8 : Hid (W.heap.size ≤ p8) := Lib.hid (by have := HLW.out; omega)
      have HL4 : Hid (p8 < w4.heap.size) := Lib.hid (by have := H8.out.lt; have := hb4.size; omega)
      clear hb4 hA4 x0 x1 x2 x3 x4 x5 x6 x7 x8 y0 y1 y2 H7 H2 H8 HK3
      have x0 := G2.out.cell 0
      have x1 := G2.out.cell 1
      have x2 := G2.out.cell 2
      simp only [List.getElem?_toArray, List.getElem?_cons_zero, List.getElem?_cons_succ] at x0 x1 x2
      go_wp2_with fail
      generalize hp10 : w4.heap.size = p10 at *
      generalize (w4.alloc (.cells #[.int .i64 KB.a, .int .i64 KB.b, .int .i64 KB.c, .int .i64 KB.d, .int .i64 KB.L, .int .i64 KB.x, .int .i64 KB.y, .int .i64 KB.kd, .int .i64 KB.n] 37)) = W4 at *
      refine (HOS.out _).mono ?_
      rintro e w5 ⟨rfl, hb5⟩
      have M7 := Lib.hid (G7.out.thru0 hb5)
      have M8 := Lib.hid (G8.out.thru0 hb5)
      have M10 := Lib.hid (G10.out.thru0 hb5)
      have HK5 := Lib.hid (HK4.out.below hb5)
      clear hb5 x0 x1 x2 G7 G2 G8 G10 HK4
      have N87 : p8 ≠ p7 := Blk.ne_ M8.out M7.out (by decide)
      have N810 : p8 ≠ p10 := Blk.ne_ M8.out M10.out (by decide)
      have y0 := M8.out.cell 0
      have y1 := M8.out.cell 1
      have y2 := M8.out.cell 2
      simp only [List.getElem?_toArray, List.getElem?_cons_zero, List.getElem?_cons_succ] at y0 y1 y2
      have fr0 := M8.out.frozen 0
      have fr1 := M8.out.frozen 1
      have fr2 := M8.out.frozen 2
      go_upto_region 8 with fail
      have P8 := Lib.hid (M8.out.set3 (.int .i64 q0) (.int .i64 q3) (.int .i64 q4))
      have P7 := Lib.hid (M7.out.far3 N87.symm (.int .i64 q0) (.int .i64 q3) (.int .i64 q4))
      have P10 := Lib.hid (M10.out.far3 N810.symm (.int .i64 q0) (.int .i64 q3) (.int .i64 q4))
      have HK6 := Lib.hid (((HK5.out.set p8 0 HL8.out (.int .i64 q0)).set p8 1 HL8.out (.int .i64 q3)).set p8 2 HL8.out (.int .i64 q4))
      clear y0 y1 y2 fr0 fr1 fr2 N87 N810 M7 M8 M10 HK5
      generalize (((w5.setCell ⟨p8, 0, none⟩ (.int .i64 q0)).setCell ⟨p8, 1, none⟩ (.int .i64 q3)).setCell ⟨p8, 2, none⟩ (.int .i64 q4)) = W6 at *
      have x0 := P7.out.cell 0
      have x1 := P7.out.cell 1
      have x2 := P7.out.cell 2
      have x3 := P7.out.cell 3
      have x4 := P7.out.cell 4
      have x5 := P7.out.cell 5
      have x6 := P7.out.cell 6
      have x7 := P7.out.cell 7
      have x8 := P7.out.cell 8
      simp only [List.getElem?_toArray, List.getElem?_cons_zero, List.getElem?_cons_succ] at x0 x1 x2 x3 x4 x5 x6 x7 x8
      have y0 := P8.out.cell 0
      have y1 := P8.out.cell 1
      have y2 := P8.out.cell 2
      simp only [List.getElem?_toArray, List.getElem?_cons_zero, List.getElem?_cons_succ] at y0 y1 y2
      go_wp2_with fail
      refine (HOV.out _ HK6.out.py).mono ?_
      rintro e w7 ⟨rfl, hb7⟩
      have hA7 : Below w7.heap.size w7 (w7.alloc (.cells #[.int .i64 KO.a, .int .i64 KO.b, .int .i64 KO.c, .int .i64 KO.d, .int .i64 KO.L, .int .i64 KO.x, .int .i64 KO.y, .int .i64 KO.kd, .int .i64 KO.n] 37)) := (Below.refl _ _).alloc (Nat.le_refl _) _
      have R7 := Lib.hid ((P7.out.thru0 hb7).thru0 hA7)
      have R10 := Lib.hid ((P10.out.thru0 hb7).thru0 hA7)
      have R11 := Lib.hid (Blk.new w7 37 #[.int .i64 KO.a, .int .i64 KO.b, .int .i64 KO.c, .int .i64 KO.d, .int .i64 KO.L, .int .i64 KO.x, .int .i64 KO.y, .int .i64 KO.kd, .int .i64 KO.n])
      have HK8 := Lib.hid ((HK6.out.below hb7).below hA7)
      clear hb7 hA7 x0 x1 x2 x3 x4 x5 x6 x7 x8 y0 y1 y2 P7 P8 P10 HK6
      have HWL : Hid (w.heap.size ≤ W.heap.size) := Lib.hid HST2.out.und.size
      have x0 := R7.out.cell 0
      have x1 := R7.out.cell 1
      have x2 := R7.out.cell 2
      have x3 := R7.out.cell 3
      have x4 := R7.out.cell 4
      have x5 := R7.out.cell 5
      have x6 := R7.out.cell 6
      have x7 := R7.out.cell 7
      have x8 := R7.out.cell 8
      simp only [List.getElem?_toArray, List.getElem?_cons_zero, List.getElem?_cons_succ] at x0 x1 x2 x3 x4 x5 x6 x7 x8
      have y0 := R10.out.cell 0
      have y1 := R10.out.cell 1
      have y2 := R10.out.cell 2
      have y3 := R10.out.cell 3
      have y4 := R10.out.cell 4
      have y5 := R10.out.cell 5
      have y6 := R10.out.cell 6
      have y7 := R10.out.cell 7
      have y8 := R10.out.cell 8
      simp only [List.getElem?_toArray, List.getElem?_cons_zero, List.getElem?_cons_succ] at y0 y1 y2 y3 y4 y5 y6 y7 y8
      have z0 := R11.out.cell 0
      have z1 := R11.out.cell 1
      have z2 := R11.out.cell 2
      have z3 := R11.out.cell 3
      have z4 := R11.out.cell 4
      have z5 := R11.out.cell 5
      have z6 := R11.out.cell 6
      have z7 := R11.out.cell 7
      have z8 := R11.out.cell 8
      simp only [List.getElem?_toArray, List.getElem?_cons_zero, List.getElem?_cons_succ] at z0 z1 z2 z3 z4 z5 z6 z7 z8
      by_cases hlt : KO.n < KB.n
      · have HTK := Lib.hid (show TK = [⟨r0, r1, r2, r3, L, cx, cy, 0, cn⟩, KO, KB] by have := HTR.out; simpa [hlt] using this)
        go_wp2
        go_ret
        have e := HTK.out
        subst e
        exact ⟨_, rfl, Blk.newAt (by simp), below_trans (below_trans HST2.out.und HK8.out.und) ((Below.refl _ _).alloc (Nat.le_refl _) _), by have := HWL.out; have := HK8.out.und.size; simp at *; omega⟩
      · have HTK := Lib.hid (show TK = [⟨r0, r1, r2, r3, L, cx, cy, 0, cn⟩, KB, KO] by have := HTR.out; simpa [hlt] using this)
        have dlt := decide_eq_false hlt
        go_wp2
        go_ret
        have e := HTK.out
        subst e
        exact ⟨_, rfl, Blk.newAt (by simp), below_trans (below_trans HST2.out.und HK8.out.und) ((Below.refl _ _).alloc (Nat.le_refl _) _), by have := HWL.out; have := HK8.out.und.size; simp at *; omega⟩
end Go.Proofs.Ytipfhleedfbnaaa
