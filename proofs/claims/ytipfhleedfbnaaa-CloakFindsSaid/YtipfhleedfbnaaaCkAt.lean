/- cloak: the document's At and both, by contract: the first of what is tried. -/
import Derived.Test.YtipfhleedfbnaaaCk9
import Derived.Deep.RegionHeld3
import Derived.Deep.DeepCutAuto
namespace Go.Proofs.Ytipfhleedfbnaaa
set_option linter.unusedVariables false
set_option linter.unusedSimpArgs false
open Go.RowKit
/-- The document's cloak at a cell. -/
def atK (S : List Pn) (K A L x y : Int) : Option Ck :=
  if doesP K A (ownK S L x y).n (areaU (ownK S L x y).a (ownK S L x y).b (ownK S L x y).c (ownK S L x y).d) = true then some (ownK S L x y)
  else if L = 0 then none
  else if (doesP K A (besK S L x y).n (areaU (besK S L x y).a (besK S L x y).b (besK S L x y).c (besK S L x y).d) && !(doesP K A (ovrK S L x y).n (areaU (ovrK S L x y).a (ovrK S L x y).b (ovrK S L x y).c (ovrK S L x y).d) && decide ((ovrK S L x y).n < (besK S L x y).n))) = true then some (besK S L x y)
  else if doesP K A (ovrK S L x y).n (areaU (ovrK S L x y).a (ovrK S L x y).b (ovrK S L x y).c (ovrK S L x y).d) = true then some (ovrK S L x y) else none
theorem first_at {S : List Pn} {K A L x y : Int} (h : okC L x y = true) : firstK K A (triedK S L x y) = atK S K A L x y := by
  have hB : okB L x y = true ↔ L ≠ 0 := by
    constructor
    · intro hb; exact (okB_parts hb).2
    · intro hL; simp [okB, h, hL]
  unfold firstK triedK atK
  by_cases hL : L = 0
  · have : ¬ okB L x y = true := fun hb => (hB.1 hb) hL
    rw [if_neg this, if_pos hL, List.find?_cons, List.find?_nil]
    cases hd : doesP K A (ownK S L x y).n (areaU (ownK S L x y).a (ownK S L x y).b (ownK S L x y).c (ownK S L x y).d) <;> simp
  · rw [if_pos (hB.2 hL), if_neg hL]
    by_cases hlt : (ovrK S L x y).n < (besK S L x y).n
    · rw [if_pos hlt]
      simp only [List.find?_cons, List.find?_nil, hlt, decide_true, Bool.and_true]
      cases doesP K A (ownK S L x y).n (areaU (ownK S L x y).a (ownK S L x y).b (ownK S L x y).c (ownK S L x y).d) <;>
      cases doesP K A (besK S L x y).n (areaU (besK S L x y).a (besK S L x y).b (besK S L x y).c (besK S L x y).d) <;>
      cases doesP K A (ovrK S L x y).n (areaU (ovrK S L x y).a (ovrK S L x y).b (ovrK S L x y).c (ovrK S L x y).d) <;> simp
    · rw [if_neg hlt]
      simp only [List.find?_cons, List.find?_nil, hlt, decide_false, Bool.and_false, Bool.not_false, Bool.and_true]
      cases doesP K A (ownK S L x y).n (areaU (ownK S L x y).a (ownK S L x y).b (ownK S L x y).c (ownK S L x y).d) <;>
      cases doesP K A (besK S L x y).n (areaU (besK S L x y).a (besK S L x y).b (besK S L x y).c (besK S L x y).d) <;>
      cases doesP K A (ovrK S L x y).n (areaU (ovrK S L x y).a (ovrK S L x y).b (ovrK S L x y).c (ovrK S L x y).d) <;> simp
/-- What Find looks at below a level: nothing found yet. -/
theorem seek_step {S : List Pn} {K A px py : Int} (hf : fitsB px py = true) (l : Nat) (hl : l ≤ 16) :
    seekK S K A l (px / 2 ^ (16 - l)) (py / 2 ^ (16 - l)) = (match atK S K A l (px / 2 ^ (16 - l)) (py / 2 ^ (16 - l)) with
      | some k => some k
      | none => match l with
        | 0 => none
        | m + 1 => seekK S K A m (px / 2 ^ (16 - m)) (py / 2 ^ (16 - m))) := by
  have hok : okC (l : Int) (px / 2 ^ (16 - l)) (py / 2 ^ (16 - l)) = true := by
    have h2 := lev_ok (px, py) l (by omega) hf
    have e1' : a1 16 px py (l : Int) = px / 2 ^ (16 - l) := by
      have := h2.1; simp only at this
      rw [a1, if_pos this, show ((16 : Int) - (l : Int)).toNat = 16 - l by omega]
    have e2' : a2 16 px py (l : Int) = py / 2 ^ (16 - l) := by
      have := h2.1; simp only at this
      rw [a2, if_pos this, show ((16 : Int) - (l : Int)).toNat = 16 - l by omega]
    have := h2.2.2
    rw [← e1', ← e2']
    first | exact this | exact this.1 | simpa using this
  rw [← first_at hok]
  cases l with
  | zero =>
    rw [seekK]
    have : ((0 : Nat) : Int) = 0 := rfl
    rw [this]
    cases firstK K A (triedK S 0 (px / 2 ^ (16 - 0)) (py / 2 ^ (16 - 0))) <;> rfl
  | succ m =>
    rw [seekK]
    have e : ∀ z : Int, z / 2 ^ (16 - (m + 1)) / 2 = z / 2 ^ (16 - m) := fun z => by
      rw [Int.ediv_ediv_of_nonneg (Int.le_of_lt (Int.pow_pos (by decide))), show 16 - m = (16 - (m + 1)) + 1 by omega, Int.pow_succ]
    rw [e, e]
    have : ((m + 1 : Nat) : Int) = (m : Int) + 1 := by push_cast; rfl
    rw [this]
    cases firstK K A (triedK S ((m : Int) + 1) (px / 2 ^ (16 - (m + 1))) (py / 2 ^ (16 - (m + 1)))) <;> rfl
theorem below_drew1 {B : Nat} {a w : World} (h : Below B a w) : Below B a w.drew := ⟨h.os, h.tape, h.output, h.size, h.block⟩
theorem blk_world {W : World} {p : Nat} {t : TypeId} {cs : Array Value} (h : Blk W p t cs) : ∃ X, X = W := ⟨_, rfl⟩
def h4 (f : Int → Int → Int → Int → Int → Int → Int → Int → Int) (L x y L2 x2 y2 : Int) : Int := f (b0 L x y) (b1 L x y) (b2 L x y) (b3 L x y) (b0 L2 x2 y2) (b1 L2 x2 y2) (b2 L2 x2 y2) (b3 L2 x2 y2)
set_option maxRecDepth 100000 in
set_option maxHeartbeats 8000000 in
theorem both_u (L x y L2 x2 y2 : Int) (w : World) : Calls Try.prog 38 #[.agg #[.int .i64 L, .int .i64 x, .int .i64 y], .agg #[.int .i64 L2, .int .i64 x2, .int .i64 y2]] w fun e w' => e = .returned (.agg #[.int .i64 (h4 hu0 L x y L2 x2 y2), .int .i64 (h4 hu1 L x y L2 x2 y2), .int .i64 (h4 hu2 L x y L2 x2 y2), .int .i64 (h4 hu3 L x y L2 x2 y2)]) ∧ Below w.heap.size w w' := by
  have H1 := Lib.hid (rbox_u L x y)
  have H2 := Lib.hid (rbox_u L2 x2 y2)
  have H3 := Lib.hid (rhull_u (b0 L x y) (b1 L x y) (b2 L x y) (b3 L x y) (b0 L2 x2 y2) (b1 L2 x2 y2) (b2 L2 x2 y2) (b3 L2 x2 y2))
  unfold h4
  have hA : Below w.heap.size w (((w.alloc (.cells #[.int .i64 L, .int .i64 x, .int .i64 y] 35)).alloc (.cells #[.int .i64 L2, .int .i64 x2, .int .i64 y2] 35)).alloc (.cells #[.int .i64 0, .int .i64 0, .int .i64 0, .int .i64 0] 33)) := (((Below.refl _ _).alloc (Nat.le_refl _) _).alloc (by simp) _).alloc (by simp; omega) _
  have hb3 := blk_three w 35 35 33 #[.int .i64 L, .int .i64 x, .int .i64 y] #[.int .i64 L2, .int .i64 x2, .int .i64 y2] #[.int .i64 0, .int .i64 0, .int .i64 0, .int .i64 0]
  have HA := Lib.hid hA; have HB := Lib.hid hb3; clear hA hb3
  generalize okC L x y = o1 at *
  generalize okC L2 x2 y2 = o2 at *
  generalize hu0 (b0 L x y) (b1 L x y) (b2 L x y) (b3 L x y) (b0 L2 x2 y2) (b1 L2 x2 y2) (b2 L2 x2 y2) (b3 L2 x2 y2) = z0 at *
  generalize hu1 (b0 L x y) (b1 L x y) (b2 L x y) (b3 L x y) (b0 L2 x2 y2) (b1 L2 x2 y2) (b2 L2 x2 y2) (b3 L2 x2 y2) = z1 at *
  generalize hu2 (b0 L x y) (b1 L x y) (b2 L x y) (b3 L x y) (b0 L2 x2 y2) (b1 L2 x2 y2) (b2 L2 x2 y2) (b3 L2 x2 y2) = z2 at *
  generalize hu3 (b0 L x y) (b1 L x y) (b2 L x y) (b3 L x y) (b0 L2 x2 y2) (b1 L2 x2 y2) (b2 L2 x2 y2) (b3 L2 x2 y2) = z3 at *
  generalize b0 L x y = r0 at *
  generalize b1 L x y = r1 at *
  generalize b2 L x y = r2 at *
  generalize b3 L x y = r3 at *
  generalize b0 L2 x2 y2 = s0 at *
  generalize b1 L2 x2 y2 = s1 at *
  generalize b2 L2 x2 y2 = s2 at *
  generalize b3 L2 x2 y2 = s3 at *
  go_enter Try.func38, Try.ntmps38
  go_wp2_with fail
  refine (H1.out _).mono ?_
  rintro e w1 ⟨rfl, hb1⟩
  have hA2 : Below w1.heap.size w1 (w1.alloc (.cells #[.int .i64 r0, .int .i64 r1, .int .i64 r2, .int .i64 r3] 33)) := (Below.refl _ _).alloc (Nat.le_refl _) _
  have HB2 := Lib.hid (below_trans (below_trans HA.out hb1) hA2)
  have K2 := Lib.hid ((HB.out.1.thru0 hb1).thru0 hA2)
  have K3 := Lib.hid ((HB.out.2.1.thru0 hb1).thru0 hA2)
  have K4 := Lib.hid ((HB.out.2.2.thru0 hb1).thru0 hA2)
  have K5 := Lib.hid (Blk.new w1 33 #[.int .i64 r0, .int .i64 r1, .int .i64 r2, .int .i64 r3])
  clear hb1 hA2 HA HB
  go_upto_region 2 with fail
  generalize hp5 : w1.heap.size = p5 at *
  generalize (w1.alloc (.cells #[.int .i64 r0, .int .i64 r1, .int .i64 r2, .int .i64 r3] 33)) = W at *
  have k0 := K3.out.cell 0
  have k1 := K3.out.cell 1
  have k2 := K3.out.cell 2
  simp only [List.getElem?_toArray, List.getElem?_cons_zero, List.getElem?_cons_succ] at k0 k1 k2
  go_wp2_with fail
  refine (H2.out _).mono ?_
  rintro e w2 ⟨rfl, hb2⟩
  have hA2 : Below w2.heap.size w2 (w2.alloc (.cells #[.int .i64 s0, .int .i64 s1, .int .i64 s2, .int .i64 s3] 33)) := (Below.refl _ _).alloc (Nat.le_refl _) _
  have HB3 := Lib.hid (below_trans (below_trans HB2.out hb2) hA2)
  replace K4 := Lib.hid ((K4.out.thru0 hb2).thru0 hA2)
  replace K5 := Lib.hid ((K5.out.thru0 hb2).thru0 hA2)
  have K7 := Lib.hid (Blk.new w2 33 #[.int .i64 s0, .int .i64 s1, .int .i64 s2, .int .i64 s3])
  clear hb2 hA2 k0 k1 k2 K2 K3 HB2
  go_upto_region 3 with fail
  generalize hp7 : w2.heap.size = p7 at *
  generalize (w2.alloc (.cells #[.int .i64 s0, .int .i64 s1, .int .i64 s2, .int .i64 s3] 33)) = W2 at *
  have j0 := K5.out.cell 0
  have j1 := K5.out.cell 1
  have j2 := K5.out.cell 2
  have j3 := K5.out.cell 3
  have i0 := K7.out.cell 0
  have i1 := K7.out.cell 1
  have i2 := K7.out.cell 2
  have i3 := K7.out.cell 3
  simp only [List.getElem?_toArray, List.getElem?_cons_zero, List.getElem?_cons_succ] at j0 j1 j2 j3 i0 i1 i2 i3
  go_wp2_with fail
  refine (H3.out _).mono ?_
  rintro e w3 ⟨rfl, hb3⟩
  have HB4 := Lib.hid (below_trans HB3.out hb3)
  replace K4 := Lib.hid (K4.out.thru0 hb3)
  clear hb3 j0 j1 j2 j3 i0 i1 i2 i3 K5 K7 HB3
  have u0 : _ = some (Value.int .i64 0) := K4.out.cell 0
  have u1 : _ = some (Value.int .i64 0) := K4.out.cell 1
  have u2 : _ = some (Value.int .i64 0) := K4.out.cell 2
  have u3 : _ = some (Value.int .i64 0) := K4.out.cell 3
  have f0 := K4.out.frozen 0
  have f1 := K4.out.frozen 1
  have f2 := K4.out.frozen 2
  have f3 := K4.out.frozen 3
  have HBF := Lib.hid ((((HB4.out.setCell (p := ⟨w.heap.size + 1 + 1, 0, none⟩) (by simp; omega) (.int .i64 z0)).setCell (p := ⟨w.heap.size + 1 + 1, 1, none⟩) (by simp; omega) (.int .i64 z1)).setCell (p := ⟨w.heap.size + 1 + 1, 2, none⟩) (by simp; omega) (.int .i64 z2)).setCell (p := ⟨w.heap.size + 1 + 1, 3, none⟩) (by simp; omega) (.int .i64 z3))
  go_wp2
  refine bodyPost_ret (v := .agg #[.int .i64 z0, .int .i64 z1, .int .i64 z2, .int .i64 z3]) ?_ rfl ⟨rfl, HBF.out⟩
  simp [results, Try.results38, go_sem, *]
theorem at_own {S : List Pn} {K A L x y : Int} (h : doesP K A (cntC S L x y : Int) (areaU (b0 L x y) (b1 L x y) (b2 L x y) (b3 L x y)) = true) : atK S K A L x y = some ⟨(b0 L x y), (b1 L x y), (b2 L x y), (b3 L x y), L, x, y, 0, (cntC S L x y : Int)⟩ := by
  have h' : doesP K A (ownK S L x y).n (areaU (ownK S L x y).a (ownK S L x y).b (ownK S L x y).c (ownK S L x y).d) = true := h
  unfold atK
  rw [if_pos h']
  rfl
theorem at_top {S : List Pn} {K A L x y : Int} (h : doesP K A (cntC S L x y : Int) (areaU (b0 L x y) (b1 L x y) (b2 L x y) (b3 L x y)) = false) (hL : L = 0) : atK S K A L x y = none := by
  have h' : ¬ doesP K A (ownK S L x y).n (areaU (ownK S L x y).a (ownK S L x y).b (ownK S L x y).c (ownK S L x y).d) = true := fun e => by
    have e2 : doesP K A (cntC S L x y : Int) (areaU (b0 L x y) (b1 L x y) (b2 L x y) (b3 L x y)) = true := e
    rw [h] at e2; cases e2
  unfold atK
  rw [if_neg h', if_pos hL]
theorem bes_eq {S : List Pn} (hS : FitS S) {L x y : Int} (h : okB L x y = true) : besK S L x y = ⟨(h4 hu0 L x y (d0 L x y) (d1 L x y) (d2 L x y)), (h4 hu1 L x y (d0 L x y) (d1 L x y) (d2 L x y)), (h4 hu2 L x y (d0 L x y) (d1 L x y) (d2 L x y)), (h4 hu3 L x y (d0 L x y) (d1 L x y) (d2 L x y)), L, x, y, 1, (hasN (h4 hu0 L x y (d0 L x y) (d1 L x y) (d2 L x y)) (h4 hu1 L x y (d0 L x y) (d1 L x y) (d2 L x y)) (h4 hu2 L x y (d0 L x y) (d1 L x y) (d2 L x y)) (h4 hu3 L x y (d0 L x y) (d1 L x y) (d2 L x y)) S : Int)⟩ := by
  have e : besK S L x y = ⟨(besK S L x y).a, (besK S L x y).b, (besK S L x y).c, (besK S L x y).d, L, x, y, 1, (besK S L x y).n⟩ := rfl
  rw [e, bes_n hS h]
  rfl
theorem ovr_eq {S : List Pn} (hS : FitS S) {L x y : Int} (h : okB L x y = true) : ovrK S L x y = ⟨(h4 hu0 L x y (d0 L x y) (e1 L x y) (e2 L x y)), (h4 hu1 L x y (d0 L x y) (e1 L x y) (e2 L x y)), (h4 hu2 L x y (d0 L x y) (e1 L x y) (e2 L x y)), (h4 hu3 L x y (d0 L x y) (e1 L x y) (e2 L x y)), L, x, y, 2, (hasN (h4 hu0 L x y (d0 L x y) (e1 L x y) (e2 L x y)) (h4 hu1 L x y (d0 L x y) (e1 L x y) (e2 L x y)) (h4 hu2 L x y (d0 L x y) (e1 L x y) (e2 L x y)) (h4 hu3 L x y (d0 L x y) (e1 L x y) (e2 L x y)) S : Int)⟩ := by
  have e : ovrK S L x y = ⟨(ovrK S L x y).a, (ovrK S L x y).b, (ovrK S L x y).c, (ovrK S L x y).d, L, x, y, 2, (ovrK S L x y).n⟩ := rfl
  rw [e, ovr_n hS h]
  rfl
theorem at_pair {S : List Pn} (hS : FitS S) {K A L x y : Int} (h : doesP K A (cntC S L x y : Int) (areaU (b0 L x y) (b1 L x y) (b2 L x y) (b3 L x y)) = false) (hB : okB L x y = true) : atK S K A L x y =
    if (doesP K A (hasN (h4 hu0 L x y (d0 L x y) (d1 L x y) (d2 L x y)) (h4 hu1 L x y (d0 L x y) (d1 L x y) (d2 L x y)) (h4 hu2 L x y (d0 L x y) (d1 L x y) (d2 L x y)) (h4 hu3 L x y (d0 L x y) (d1 L x y) (d2 L x y)) S : Int) (areaU (h4 hu0 L x y (d0 L x y) (d1 L x y) (d2 L x y)) (h4 hu1 L x y (d0 L x y) (d1 L x y) (d2 L x y)) (h4 hu2 L x y (d0 L x y) (d1 L x y) (d2 L x y)) (h4 hu3 L x y (d0 L x y) (d1 L x y) (d2 L x y))) && !(doesP K A (hasN (h4 hu0 L x y (d0 L x y) (e1 L x y) (e2 L x y)) (h4 hu1 L x y (d0 L x y) (e1 L x y) (e2 L x y)) (h4 hu2 L x y (d0 L x y) (e1 L x y) (e2 L x y)) (h4 hu3 L x y (d0 L x y) (e1 L x y) (e2 L x y)) S : Int) (areaU (h4 hu0 L x y (d0 L x y) (e1 L x y) (e2 L x y)) (h4 hu1 L x y (d0 L x y) (e1 L x y) (e2 L x y)) (h4 hu2 L x y (d0 L x y) (e1 L x y) (e2 L x y)) (h4 hu3 L x y (d0 L x y) (e1 L x y) (e2 L x y))) && decide ((hasN (h4 hu0 L x y (d0 L x y) (e1 L x y) (e2 L x y)) (h4 hu1 L x y (d0 L x y) (e1 L x y) (e2 L x y)) (h4 hu2 L x y (d0 L x y) (e1 L x y) (e2 L x y)) (h4 hu3 L x y (d0 L x y) (e1 L x y) (e2 L x y)) S : Int) < (hasN (h4 hu0 L x y (d0 L x y) (d1 L x y) (d2 L x y)) (h4 hu1 L x y (d0 L x y) (d1 L x y) (d2 L x y)) (h4 hu2 L x y (d0 L x y) (d1 L x y) (d2 L x y)) (h4 hu3 L x y (d0 L x y) (d1 L x y) (d2 L x y)) S : Int)))) = true then some ⟨(h4 hu0 L x y (d0 L x y) (d1 L x y) (d2 L x y)), (h4 hu1 L x y (d0 L x y) (d1 L x y) (d2 L x y)), (h4 hu2 L x y (d0 L x y) (d1 L x y) (d2 L x y)), (h4 hu3 L x y (d0 L x y) (d1 L x y) (d2 L x y)), L, x, y, 1, (hasN (h4 hu0 L x y (d0 L x y) (d1 L x y) (d2 L x y)) (h4 hu1 L x y (d0 L x y) (d1 L x y) (d2 L x y)) (h4 hu2 L x y (d0 L x y) (d1 L x y) (d2 L x y)) (h4 hu3 L x y (d0 L x y) (d1 L x y) (d2 L x y)) S : Int)⟩ else if doesP K A (hasN (h4 hu0 L x y (d0 L x y) (e1 L x y) (e2 L x y)) (h4 hu1 L x y (d0 L x y) (e1 L x y) (e2 L x y)) (h4 hu2 L x y (d0 L x y) (e1 L x y) (e2 L x y)) (h4 hu3 L x y (d0 L x y) (e1 L x y) (e2 L x y)) S : Int) (areaU (h4 hu0 L x y (d0 L x y) (e1 L x y) (e2 L x y)) (h4 hu1 L x y (d0 L x y) (e1 L x y) (e2 L x y)) (h4 hu2 L x y (d0 L x y) (e1 L x y) (e2 L x y)) (h4 hu3 L x y (d0 L x y) (e1 L x y) (e2 L x y))) = true then some ⟨(h4 hu0 L x y (d0 L x y) (e1 L x y) (e2 L x y)), (h4 hu1 L x y (d0 L x y) (e1 L x y) (e2 L x y)), (h4 hu2 L x y (d0 L x y) (e1 L x y) (e2 L x y)), (h4 hu3 L x y (d0 L x y) (e1 L x y) (e2 L x y)), L, x, y, 2, (hasN (h4 hu0 L x y (d0 L x y) (e1 L x y) (e2 L x y)) (h4 hu1 L x y (d0 L x y) (e1 L x y) (e2 L x y)) (h4 hu2 L x y (d0 L x y) (e1 L x y) (e2 L x y)) (h4 hu3 L x y (d0 L x y) (e1 L x y) (e2 L x y)) S : Int)⟩ else none := by
  have h' : ¬ doesP K A (ownK S L x y).n (areaU (ownK S L x y).a (ownK S L x y).b (ownK S L x y).c (ownK S L x y).d) = true := fun e => by
    have e2 : doesP K A (cntC S L x y : Int) (areaU (b0 L x y) (b1 L x y) (b2 L x y) (b3 L x y)) = true := e
    rw [h] at e2; cases e2
  unfold atK
  rw [if_neg h', if_neg (okB_parts hB).2, bes_eq hS hB, ovr_eq hS hB]
def AtP (T : Option Ck) (w : World) (e : Ending) (w' : World) : Prop :=
  e = .returned (.tuple #[(T.getD ck0).val, .bool T.isSome]) ∧ Below w.heap.size w w'
set_option maxRecDepth 100000 in
set_option maxHeartbeats 16000000 in
theorem at_any (A : Option Addr) (n c : Nat) (S : List Pn) (K Ar L x y : Int) (w : World) (h : Rd w A n c S) (hS : FitS S) (hn : n ≤ 1000000) (hok : okC L x y = true) :
    Calls Try.prog 19 #[.slice A n c, .agg #[.int .i64 L, .int .i64 x, .int .i64 y], .agg #[.int .i64 K, .int .u64 Ar]] w fun e w' => AtP (atK S K Ar L x y) w e w' := by
  have HRD := Lib.hid h
  have HBX := Lib.hid (rbox_u L x y)
  have HOW := Lib.hid (@at_own S K Ar L x y)
  have HTP := Lib.hid (@at_top S K Ar L x y)
  have HPR := Lib.hid (@at_pair S hS K Ar L x y)
  generalize atK S K Ar L x y = TT at *
  have HRC := Lib.hid (fun W hW => rcount_any A n c S L x y W hW hn)
  rw [rcntN_cell S hS] at HRC
  have HAR := Lib.hid (rarea_u (b0 L x y) (b1 L x y) (b2 L x y) (b3 L x y))
  have HDO := Lib.hid (rdoes_any K Ar (cntC S L x y : Int) (areaU (b0 L x y) (b1 L x y) (b2 L x y) (b3 L x y)))
  have HOK := Lib.hid hok
  clear h hok
  have hA : Below w.heap.size w (((w.alloc (.cells #[.int .i64 L, .int .i64 x, .int .i64 y] 35)).alloc (.cells #[.int .i64 K, .int .u64 Ar] 27)).alloc (.cells #[.int .i64 0, .int .i64 0, .int .i64 0, .int .i64 0, .int .i64 0, .int .i64 0, .int .i64 0, .int .i64 0, .int .i64 0] 43)) := (((Below.refl _ _).alloc (Nat.le_refl _) _).alloc (by simp) _).alloc (by simp; omega) _
  have hb3 := blk_three w 35 27 43 #[.int .i64 L, .int .i64 x, .int .i64 y] #[.int .i64 K, .int .u64 Ar] #[.int .i64 0, .int .i64 0, .int .i64 0, .int .i64 0, .int .i64 0, .int .i64 0, .int .i64 0, .int .i64 0, .int .i64 0]
  have HA := Lib.hid hA; have HB := Lib.hid hb3; clear hA hb3
  generalize okC L x y = o1 at HBX
  generalize hcn : (cntC S L x y : Int) = cn at *
  generalize harea : (areaU (b0 L x y) (b1 L x y) (b2 L x y) (b3 L x y)) = ar at *
  generalize hdd : doesP K Ar cn ar = dd at *
  generalize hr0 : b0 L x y = r0 at *
  generalize hr1 : b1 L x y = r1 at *
  generalize hr2 : b2 L x y = r2 at *
  generalize hr3 : b3 L x y = r3 at *
  clear harea hcn hdd hr0 hr1 hr2 hr3
  go_enter Try.func19, Try.ntmps19
  go_wp2_with fail
  refine (HBX.out _).mono ?_
  rintro e w1 ⟨rfl, hb1⟩
  have hA2 : Below w1.heap.size w1 (w1.alloc (.cells #[.int .i64 r0, .int .i64 r1, .int .i64 r2, .int .i64 r3] 33)) := (Below.refl _ _).alloc (Nat.le_refl _) _
  have HB2 := Lib.hid (below_trans (below_trans HA.out hb1) hA2)
  have K4 := Lib.hid ((HB.out.1.thru0 hb1).thru0 hA2)
  have K5 := Lib.hid ((HB.out.2.1.thru0 hb1).thru0 hA2)
  have K6 := Lib.hid ((HB.out.2.2.thru0 hb1).thru0 hA2)
  have K8 := Lib.hid (Blk.new w1 33 #[.int .i64 r0, .int .i64 r1, .int .i64 r2, .int .i64 r3])
  have HG6 : Hid (w.heap.size ≤ w.heap.size + 1 + 1) := Lib.hid (by omega)
  clear hb1 hA2 HA HB
  go_upto_region 2 with fail
  generalize hp8 : w1.heap.size = p8 at *
  generalize (w1.alloc (.cells #[.int .i64 r0, .int .i64 r1, .int .i64 r2, .int .i64 r3] 33)) = W at *
  have k0 : _ = some (Value.int .i64 L) := K4.out.cell 0
  have k1 : _ = some (Value.int .i64 x) := K4.out.cell 1
  have k2 : _ = some (Value.int .i64 y) := K4.out.cell 2
  have HRW := Lib.hid (HRC.out W (HRD.out.below HB2.out))
  go_wp2_with fail
  refine HRW.out.mono ?_
  rintro e w2 ⟨rfl, hb2⟩
  replace HB2 := Lib.hid (below_trans HB2.out hb2)
  replace K4 := Lib.hid (K4.out.thru0 hb2)
  replace K5 := Lib.hid (K5.out.thru0 hb2)
  replace K6 := Lib.hid (K6.out.thru0 hb2)
  replace K8 := Lib.hid (K8.out.thru0 hb2)
  clear hb2 k0 k1 k2 HRW HRC HBX
  go_upto_region 3 with fail
  have f0 : _ = some (Value.int .i64 K) := K5.out.cell 0
  have f1 : _ = some (Value.int .u64 Ar) := K5.out.cell 1
  have q0 : _ = some (Value.int .i64 r0) := K8.out.cell 0
  have q1 : _ = some (Value.int .i64 r1) := K8.out.cell 1
  have q2 : _ = some (Value.int .i64 r2) := K8.out.cell 2
  have q3 : _ = some (Value.int .i64 r3) := K8.out.cell 3
  have hbW := Below.refl w2.heap.size w2
  generalize hp5 : w.heap.size + 1 = p5 at *
  go_cut [31] (fun s31 wx => s31 = .bool dd ∧ Hid (Below w2.heap.size w2 wx))
  case first =>
    go_region_held3 (fun w' => w'.cell? ⟨p5, 0, none⟩ = some (.int .i64 K) ∧ w'.cell? ⟨p5, 1, none⟩ = some (.int .u64 Ar) ∧ w'.cell? ⟨p8, 0, none⟩ = some (.int .i64 r0) ∧ w'.cell? ⟨p8, 1, none⟩ = some (.int .i64 r1) ∧ w'.cell? ⟨p8, 2, none⟩ = some (.int .i64 r2) ∧ w'.cell? ⟨p8, 3, none⟩ = some (.int .i64 r3) ∧ Below w2.heap.size w2 w') (first | (refine ⟨?_, ?_, ?_, ?_, ?_, ?_, ?_⟩ <;> first | assumption | (exact cell_later (by assumption) (by assumption)) | (exact below_drew1 (by assumption)) | (exact below_trans (by assumption) (by assumption))) | (go_split_ands; refine ⟨?_, ?_, ?_, ?_, ?_, ?_, ?_⟩ <;> first | (exact cell_later (by assumption) (by assumption)) | (exact below_trans (by assumption) (by assumption)) | go_keep))
      (first
        | (go_at_call 35; refine (HAR.out _).mono ?_; rintro e w9 ⟨rfl, hb9⟩)
        | (go_at_call 34; refine (HDO.out _).mono ?_; rintro e w9 ⟨rfl, hb9⟩))
    all_goals
      go_split_ands
      go_wp2
      go_meet
      exact ⟨rfl, Lib.hid (by assumption)⟩
  case rest =>
    obtain ⟨rfl, HBC⟩ := hcut
    clear hbW f0 f1 q0 q1 q2 q3 HAR HDO
    subst hp5
    replace HB2 := Lib.hid (below_trans HB2.out HBC.out)
    replace K4 := Lib.hid (K4.out.thru0 HBC.out)
    replace K5 := Lib.hid (K5.out.thru0 HBC.out)
    replace K6 := Lib.hid (K6.out.thru0 HBC.out)
    replace K8 := Lib.hid (K8.out.thru0 HBC.out)
    clear HBC
    have k0 : _ = some (Value.int .i64 L) := K4.out.cell 0
    have k1 : _ = some (Value.int .i64 x) := K4.out.cell 1
    have k2 : _ = some (Value.int .i64 y) := K4.out.cell 2
    cases dd with
    | true =>
      have HT := Lib.hid (HOW.out rfl)
      have q0 : _ = some (Value.int .i64 r0) := K8.out.cell 0
      have q1 : _ = some (Value.int .i64 r1) := K8.out.cell 1
      have q2 : _ = some (Value.int .i64 r2) := K8.out.cell 2
      have q3 : _ = some (Value.int .i64 r3) := K8.out.cell 3
      have u6_0 : _ = some (Value.int .i64 0) := K6.out.cell 0
      have u6_1 : _ = some (Value.int .i64 0) := K6.out.cell 1
      have u6_2 : _ = some (Value.int .i64 0) := K6.out.cell 2
      have u6_3 : _ = some (Value.int .i64 0) := K6.out.cell 3
      have u6_4 : _ = some (Value.int .i64 0) := K6.out.cell 4
      have u6_5 : _ = some (Value.int .i64 0) := K6.out.cell 5
      have u6_6 : _ = some (Value.int .i64 0) := K6.out.cell 6
      have u6_7 : _ = some (Value.int .i64 0) := K6.out.cell 7
      have u6_8 : _ = some (Value.int .i64 0) := K6.out.cell 8
      have f6_0 := K6.out.frozen 0
      have f6_1 := K6.out.frozen 1
      have f6_2 := K6.out.frozen 2
      have f6_3 := K6.out.frozen 3
      have f6_4 := K6.out.frozen 4
      have f6_5 := K6.out.frozen 5
      have f6_6 := K6.out.frozen 6
      have f6_7 := K6.out.frozen 7
      have f6_8 := K6.out.frozen 8
      go_wp2_with fail
      clear u6_0 f6_0 u6_1 f6_1 u6_2 f6_2 u6_3 f6_3 u6_4 f6_4 u6_5 f6_5 u6_6 f6_6 u6_7 f6_7 u6_8 f6_8
      have HN9 := Lib.hid (K6.out.nine9 (.int .i64 r0) (.int .i64 r1) (.int .i64 r2) (.int .i64 r3) (.int .i64 L) (.int .i64 x) (.int .i64 y) (.int .i64 0) (.int .i64 cn))
      have HB9 := Lib.hid (Below.nine9 (p := w.heap.size + 1 + 1) HB2.out HG6.out (.int .i64 r0) (.int .i64 r1) (.int .i64 r2) (.int .i64 r3) (.int .i64 L) (.int .i64 x) (.int .i64 y) (.int .i64 0) (.int .i64 cn))
      obtain ⟨WF, hWF⟩ := blk_world HN9.out
      rw [← hWF] at HN9 HB9 ⊢
      clear hWF
      have n9_0 : _ = some (Value.int .i64 r0) := HN9.out.cell 0
      have n9_1 : _ = some (Value.int .i64 r1) := HN9.out.cell 1
      have n9_2 : _ = some (Value.int .i64 r2) := HN9.out.cell 2
      have n9_3 : _ = some (Value.int .i64 r3) := HN9.out.cell 3
      have n9_4 : _ = some (Value.int .i64 L) := HN9.out.cell 4
      have n9_5 : _ = some (Value.int .i64 x) := HN9.out.cell 5
      have n9_6 : _ = some (Value.int .i64 y) := HN9.out.cell 6
      have n9_7 : _ = some (Value.int .i64 0) := HN9.out.cell 7
      have n9_8 : _ = some (Value.int .i64 cn) := HN9.out.cell 8
      refine bodyPost_ret (v := .tuple #[(⟨r0, r1, r2, r3, L, x, y, 0, cn⟩ : Ck).val, .bool true]) ?_ rfl ⟨by rw [HT.out]; rfl, HB9.out⟩
      simp [results, Try.results19, go_sem, *, Ck.val]
    | false =>
      by_cases hL : L = 0
      · have HT := Lib.hid (HTP.out rfl hL)
        have hLb : (L == 0) = true := beq_iff_eq.2 hL
        have u6_0 : _ = some (Value.int .i64 0) := K6.out.cell 0
        have u6_1 : _ = some (Value.int .i64 0) := K6.out.cell 1
        have u6_2 : _ = some (Value.int .i64 0) := K6.out.cell 2
        have u6_3 : _ = some (Value.int .i64 0) := K6.out.cell 3
        have u6_4 : _ = some (Value.int .i64 0) := K6.out.cell 4
        have u6_5 : _ = some (Value.int .i64 0) := K6.out.cell 5
        have u6_6 : _ = some (Value.int .i64 0) := K6.out.cell 6
        have u6_7 : _ = some (Value.int .i64 0) := K6.out.cell 7
        have u6_8 : _ = some (Value.int .i64 0) := K6.out.cell 8
        have f6_0 := K6.out.frozen 0
        have f6_1 := K6.out.frozen 1
        have f6_2 := K6.out.frozen 2
        have f6_3 := K6.out.frozen 3
        have f6_4 := K6.out.frozen 4
        have f6_5 := K6.out.frozen 5
        have f6_6 := K6.out.frozen 6
        have f6_7 := K6.out.frozen 7
        have f6_8 := K6.out.frozen 8
        go_wp2_with fail
        clear u6_0 f6_0 u6_1 f6_1 u6_2 f6_2 u6_3 f6_3 u6_4 f6_4 u6_5 f6_5 u6_6 f6_6 u6_7 f6_7 u6_8 f6_8
        have HN9 := Lib.hid (K6.out.nine9 (.int .i64 0) (.int .i64 0) (.int .i64 0) (.int .i64 0) (.int .i64 0) (.int .i64 0) (.int .i64 0) (.int .i64 0) (.int .i64 0))
        have HB9 := Lib.hid (Below.nine9 (p := w.heap.size + 1 + 1) HB2.out HG6.out (.int .i64 0) (.int .i64 0) (.int .i64 0) (.int .i64 0) (.int .i64 0) (.int .i64 0) (.int .i64 0) (.int .i64 0) (.int .i64 0))
        obtain ⟨WF, hWF⟩ := blk_world HN9.out
        rw [← hWF] at HN9 HB9 ⊢
        clear hWF
        have n9_0 : _ = some (Value.int .i64 0) := HN9.out.cell 0
        have n9_1 : _ = some (Value.int .i64 0) := HN9.out.cell 1
        have n9_2 : _ = some (Value.int .i64 0) := HN9.out.cell 2
        have n9_3 : _ = some (Value.int .i64 0) := HN9.out.cell 3
        have n9_4 : _ = some (Value.int .i64 0) := HN9.out.cell 4
        have n9_5 : _ = some (Value.int .i64 0) := HN9.out.cell 5
        have n9_6 : _ = some (Value.int .i64 0) := HN9.out.cell 6
        have n9_7 : _ = some (Value.int .i64 0) := HN9.out.cell 7
        have n9_8 : _ = some (Value.int .i64 0) := HN9.out.cell 8
        refine bodyPost_ret (v := .tuple #[ck0.val, .bool false]) ?_ rfl ⟨by rw [HT.out]; rfl, HB9.out⟩
        simp [results, Try.results19, go_sem, *, Ck.val, ck0]
      · have hob : okB L x y = true := by simp [okB, HOK.out, hL]
        have HT := Lib.hid (HPR.out rfl hob)
        have hLb : (L == 0) = false := beq_eq_false_iff_ne.2 hL
        have HBS := Lib.hid (rbeside_u L x y)
        have HOV := Lib.hid (rover_u L x y)
        have HB1 := Lib.hid (both_u L x y (d0 L x y) (d1 L x y) (d2 L x y))
        have HB5 := Lib.hid (both_u L x y (d0 L x y) (e1 L x y) (e2 L x y))
        have HH1 := Lib.hid (fun W hW => rhas_any A n c S (h4 hu0 L x y (d0 L x y) (d1 L x y) (d2 L x y)) (h4 hu1 L x y (d0 L x y) (d1 L x y) (d2 L x y)) (h4 hu2 L x y (d0 L x y) (d1 L x y) (d2 L x y)) (h4 hu3 L x y (d0 L x y) (d1 L x y) (d2 L x y)) W hW hn)
        have HH2 := Lib.hid (fun W hW => rhas_any A n c S (h4 hu0 L x y (d0 L x y) (e1 L x y) (e2 L x y)) (h4 hu1 L x y (d0 L x y) (e1 L x y) (e2 L x y)) (h4 hu2 L x y (d0 L x y) (e1 L x y) (e2 L x y)) (h4 hu3 L x y (d0 L x y) (e1 L x y) (e2 L x y)) W hW hn)
        have HA1 := Lib.hid (rarea_u (h4 hu0 L x y (d0 L x y) (d1 L x y) (d2 L x y)) (h4 hu1 L x y (d0 L x y) (d1 L x y) (d2 L x y)) (h4 hu2 L x y (d0 L x y) (d1 L x y) (d2 L x y)) (h4 hu3 L x y (d0 L x y) (d1 L x y) (d2 L x y)))
        have HA2 := Lib.hid (rarea_u (h4 hu0 L x y (d0 L x y) (e1 L x y) (e2 L x y)) (h4 hu1 L x y (d0 L x y) (e1 L x y) (e2 L x y)) (h4 hu2 L x y (d0 L x y) (e1 L x y) (e2 L x y)) (h4 hu3 L x y (d0 L x y) (e1 L x y) (e2 L x y)))
        have HD1 := Lib.hid (rdoes_any K Ar (hasN (h4 hu0 L x y (d0 L x y) (d1 L x y) (d2 L x y)) (h4 hu1 L x y (d0 L x y) (d1 L x y) (d2 L x y)) (h4 hu2 L x y (d0 L x y) (d1 L x y) (d2 L x y)) (h4 hu3 L x y (d0 L x y) (d1 L x y) (d2 L x y)) S : Int) (areaU (h4 hu0 L x y (d0 L x y) (d1 L x y) (d2 L x y)) (h4 hu1 L x y (d0 L x y) (d1 L x y) (d2 L x y)) (h4 hu2 L x y (d0 L x y) (d1 L x y) (d2 L x y)) (h4 hu3 L x y (d0 L x y) (d1 L x y) (d2 L x y))))
        have HD2 := Lib.hid (rdoes_any K Ar (hasN (h4 hu0 L x y (d0 L x y) (e1 L x y) (e2 L x y)) (h4 hu1 L x y (d0 L x y) (e1 L x y) (e2 L x y)) (h4 hu2 L x y (d0 L x y) (e1 L x y) (e2 L x y)) (h4 hu3 L x y (d0 L x y) (e1 L x y) (e2 L x y)) S : Int) (areaU (h4 hu0 L x y (d0 L x y) (e1 L x y) (e2 L x y)) (h4 hu1 L x y (d0 L x y) (e1 L x y) (e2 L x y)) (h4 hu2 L x y (d0 L x y) (e1 L x y) (e2 L x y)) (h4 hu3 L x y (d0 L x y) (e1 L x y) (e2 L x y))))
        rw [hob] at HBS HOV
        clear HOW HTP HPR hob
        generalize (hasN (h4 hu0 L x y (d0 L x y) (d1 L x y) (d2 L x y)) (h4 hu1 L x y (d0 L x y) (d1 L x y) (d2 L x y)) (h4 hu2 L x y (d0 L x y) (d1 L x y) (d2 L x y)) (h4 hu3 L x y (d0 L x y) (d1 L x y) (d2 L x y)) S : Int) = bn at *
        generalize (hasN (h4 hu0 L x y (d0 L x y) (e1 L x y) (e2 L x y)) (h4 hu1 L x y (d0 L x y) (e1 L x y) (e2 L x y)) (h4 hu2 L x y (d0 L x y) (e1 L x y) (e2 L x y)) (h4 hu3 L x y (d0 L x y) (e1 L x y) (e2 L x y)) S : Int) = on at *
        generalize doesP K Ar bn (areaU (h4 hu0 L x y (d0 L x y) (d1 L x y) (d2 L x y)) (h4 hu1 L x y (d0 L x y) (d1 L x y) (d2 L x y)) (h4 hu2 L x y (d0 L x y) (d1 L x y) (d2 L x y)) (h4 hu3 L x y (d0 L x y) (d1 L x y) (d2 L x y))) = dB at *
        generalize doesP K Ar on (areaU (h4 hu0 L x y (d0 L x y) (e1 L x y) (e2 L x y)) (h4 hu1 L x y (d0 L x y) (e1 L x y) (e2 L x y)) (h4 hu2 L x y (d0 L x y) (e1 L x y) (e2 L x y)) (h4 hu3 L x y (d0 L x y) (e1 L x y) (e2 L x y))) = dO at *
        generalize (areaU (h4 hu0 L x y (d0 L x y) (d1 L x y) (d2 L x y)) (h4 hu1 L x y (d0 L x y) (d1 L x y) (d2 L x y)) (h4 hu2 L x y (d0 L x y) (d1 L x y) (d2 L x y)) (h4 hu3 L x y (d0 L x y) (d1 L x y) (d2 L x y))) = ab at *
        generalize (areaU (h4 hu0 L x y (d0 L x y) (e1 L x y) (e2 L x y)) (h4 hu1 L x y (d0 L x y) (e1 L x y) (e2 L x y)) (h4 hu2 L x y (d0 L x y) (e1 L x y) (e2 L x y)) (h4 hu3 L x y (d0 L x y) (e1 L x y) (e2 L x y))) = av at *
        generalize (h4 hu0 L x y (d0 L x y) (d1 L x y) (d2 L x y)) = z0 at *
        generalize (h4 hu1 L x y (d0 L x y) (d1 L x y) (d2 L x y)) = z1 at *
        generalize (h4 hu2 L x y (d0 L x y) (d1 L x y) (d2 L x y)) = z2 at *
        generalize (h4 hu3 L x y (d0 L x y) (d1 L x y) (d2 L x y)) = z3 at *
        generalize (h4 hu0 L x y (d0 L x y) (e1 L x y) (e2 L x y)) = v0 at *
        generalize (h4 hu1 L x y (d0 L x y) (e1 L x y) (e2 L x y)) = v1 at *
        generalize (h4 hu2 L x y (d0 L x y) (e1 L x y) (e2 L x y)) = v2 at *
        generalize (h4 hu3 L x y (d0 L x y) (e1 L x y) (e2 L x y)) = v3 at *
        generalize d0 L x y = g0 at *
        generalize d1 L x y = g1 at *
        generalize d2 L x y = g2 at *
        generalize e1 L x y = g3 at *
        generalize e2 L x y = g4 at *
        go_wp2_with fail
        refine (HBS.out _).mono ?_
        rintro e w3 ⟨rfl, hbx⟩
        have hax : Below w3.heap.size w3 (w3.alloc (.cells #[.int .i64 g0, .int .i64 g1, .int .i64 g2] 35)) := (Below.refl _ _).alloc (Nat.le_refl _) _
        replace HB2 := Lib.hid (below_trans (below_trans HB2.out hbx) hax)
        replace K4 := Lib.hid ((K4.out.thru0 hbx).thru0 hax)
        replace K5 := Lib.hid ((K5.out.thru0 hbx).thru0 hax)
        replace K6 := Lib.hid ((K6.out.thru0 hbx).thru0 hax)
        have K11 := Lib.hid (Blk.new w3 35 #[.int .i64 g0, .int .i64 g1, .int .i64 g2])
        clear hbx hax
        go_upto_region 8 with fail
        generalize hp11 : w3.heap.size = p11 at *
        generalize (w3.alloc (.cells #[.int .i64 g0, .int .i64 g1, .int .i64 g2] 35)) = W3 at *
        clear k0 k1 k2
        have k0 : _ = some (Value.int .i64 L) := K4.out.cell 0
        have k1 : _ = some (Value.int .i64 x) := K4.out.cell 1
        have k2 : _ = some (Value.int .i64 y) := K4.out.cell 2
        go_wp2_with fail
        refine (HOV.out _).mono ?_
        rintro e w4 ⟨rfl, hbx⟩
        have hax : Below w4.heap.size w4 (w4.alloc (.cells #[.int .i64 g0, .int .i64 g3, .int .i64 g4] 35)) := (Below.refl _ _).alloc (Nat.le_refl _) _
        replace HB2 := Lib.hid (below_trans (below_trans HB2.out hbx) hax)
        replace K4 := Lib.hid ((K4.out.thru0 hbx).thru0 hax)
        replace K5 := Lib.hid ((K5.out.thru0 hbx).thru0 hax)
        replace K6 := Lib.hid ((K6.out.thru0 hbx).thru0 hax)
        replace K11 := Lib.hid ((K11.out.thru0 hbx).thru0 hax)
        have K13 := Lib.hid (Blk.new w4 35 #[.int .i64 g0, .int .i64 g3, .int .i64 g4])
        clear hbx hax
        go_upto_region 9 with fail
        generalize hp13 : w4.heap.size = p13 at *
        generalize (w4.alloc (.cells #[.int .i64 g0, .int .i64 g3, .int .i64 g4] 35)) = W4 at *
        clear k0 k1 k2
        have k0 : _ = some (Value.int .i64 L) := K4.out.cell 0
        have k1 : _ = some (Value.int .i64 x) := K4.out.cell 1
        have k2 : _ = some (Value.int .i64 y) := K4.out.cell 2
        have m0 : _ = some (Value.int .i64 g0) := K11.out.cell 0
        have m1 : _ = some (Value.int .i64 g1) := K11.out.cell 1
        have m2 : _ = some (Value.int .i64 g2) := K11.out.cell 2
        go_wp2_with fail
        refine (HB1.out _).mono ?_
        rintro e w5 ⟨rfl, hbx⟩
        have hax : Below w5.heap.size w5 (w5.alloc (.cells #[.int .i64 z0, .int .i64 z1, .int .i64 z2, .int .i64 z3] 33)) := (Below.refl _ _).alloc (Nat.le_refl _) _
        replace HB2 := Lib.hid (below_trans (below_trans HB2.out hbx) hax)
        replace K4 := Lib.hid ((K4.out.thru0 hbx).thru0 hax)
        replace K5 := Lib.hid ((K5.out.thru0 hbx).thru0 hax)
        replace K6 := Lib.hid ((K6.out.thru0 hbx).thru0 hax)
        replace K13 := Lib.hid ((K13.out.thru0 hbx).thru0 hax)
        have K15 := Lib.hid (Blk.new w5 33 #[.int .i64 z0, .int .i64 z1, .int .i64 z2, .int .i64 z3])
        clear hbx hax
        go_upto_region 10 with fail
        generalize hp15 : w5.heap.size = p15 at *
        generalize (w5.alloc (.cells #[.int .i64 z0, .int .i64 z1, .int .i64 z2, .int .i64 z3] 33)) = W5 at *
        clear k0 k1 k2 m0 m1 m2 K11
        have k0 : _ = some (Value.int .i64 L) := K4.out.cell 0
        have k1 : _ = some (Value.int .i64 x) := K4.out.cell 1
        have k2 : _ = some (Value.int .i64 y) := K4.out.cell 2
        have m0 : _ = some (Value.int .i64 g0) := K13.out.cell 0
        have m1 : _ = some (Value.int .i64 g3) := K13.out.cell 1
        have m2 : _ = some (Value.int .i64 g4) := K13.out.cell 2
        go_wp2_with fail
        refine (HB5.out _).mono ?_
        rintro e w6 ⟨rfl, hbx⟩
        have hax : Below w6.heap.size w6 (w6.alloc (.cells #[.int .i64 v0, .int .i64 v1, .int .i64 v2, .int .i64 v3] 33)) := (Below.refl _ _).alloc (Nat.le_refl _) _
        replace HB2 := Lib.hid (below_trans (below_trans HB2.out hbx) hax)
        replace K4 := Lib.hid ((K4.out.thru0 hbx).thru0 hax)
        replace K5 := Lib.hid ((K5.out.thru0 hbx).thru0 hax)
        replace K6 := Lib.hid ((K6.out.thru0 hbx).thru0 hax)
        replace K15 := Lib.hid ((K15.out.thru0 hbx).thru0 hax)
        have K16 := Lib.hid (Blk.new w6 33 #[.int .i64 v0, .int .i64 v1, .int .i64 v2, .int .i64 v3])
        clear hbx hax
        go_upto_region 11 with fail
        generalize hp16 : w6.heap.size = p16 at *
        generalize (w6.alloc (.cells #[.int .i64 v0, .int .i64 v1, .int .i64 v2, .int .i64 v3] 33)) = W6 at *
        clear k0 k1 k2 m0 m1 m2 K13
        have z_0 : _ = some (Value.int .i64 z0) := K15.out.cell 0
        have z_1 : _ = some (Value.int .i64 z1) := K15.out.cell 1
        have z_2 : _ = some (Value.int .i64 z2) := K15.out.cell 2
        have z_3 : _ = some (Value.int .i64 z3) := K15.out.cell 3
        go_wp2_with fail
        refine (HH1.out W6 (HRD.out.below HB2.out)).mono ?_
        rintro e w7 ⟨rfl, hbx⟩
        replace HB2 := Lib.hid (below_trans HB2.out hbx)
        replace K4 := Lib.hid (K4.out.thru0 hbx)
        replace K5 := Lib.hid (K5.out.thru0 hbx)
        replace K6 := Lib.hid (K6.out.thru0 hbx)
        replace K15 := Lib.hid (K15.out.thru0 hbx)
        replace K16 := Lib.hid (K16.out.thru0 hbx)
        clear hbx
        go_upto_region 12 with fail
        clear z_0 z_1 z_2 z_3
        have v_0 : _ = some (Value.int .i64 v0) := K16.out.cell 0
        have v_1 : _ = some (Value.int .i64 v1) := K16.out.cell 1
        have v_2 : _ = some (Value.int .i64 v2) := K16.out.cell 2
        have v_3 : _ = some (Value.int .i64 v3) := K16.out.cell 3
        go_wp2_with fail
        refine (HH2.out w7 (HRD.out.below HB2.out)).mono ?_
        rintro e w8 ⟨rfl, hbx⟩
        replace HB2 := Lib.hid (below_trans HB2.out hbx)
        replace K4 := Lib.hid (K4.out.thru0 hbx)
        replace K5 := Lib.hid (K5.out.thru0 hbx)
        replace K6 := Lib.hid (K6.out.thru0 hbx)
        replace K15 := Lib.hid (K15.out.thru0 hbx)
        replace K16 := Lib.hid (K16.out.thru0 hbx)
        clear hbx
        go_upto_region 13 with fail
        clear v_0 v_1 v_2 v_3
        clear HBS HOV HB1 HB5 HH1 HH2 HRD
        generalize hp5 : w.heap.size + 1 = p5 at *
        have z_0 : _ = some (Value.int .i64 z0) := K15.out.cell 0
        have z_1 : _ = some (Value.int .i64 z1) := K15.out.cell 1
        have z_2 : _ = some (Value.int .i64 z2) := K15.out.cell 2
        have z_3 : _ = some (Value.int .i64 z3) := K15.out.cell 3
        have v_0 : _ = some (Value.int .i64 v0) := K16.out.cell 0
        have v_1 : _ = some (Value.int .i64 v1) := K16.out.cell 1
        have v_2 : _ = some (Value.int .i64 v2) := K16.out.cell 2
        have v_3 : _ = some (Value.int .i64 v3) := K16.out.cell 3
        have f0 : _ = some (Value.int .i64 K) := K5.out.cell 0
        have f1 : _ = some (Value.int .u64 Ar) := K5.out.cell 1
        have hbW := Below.refl w8.heap.size w8
        have HLT : Hid (∃ lt : Bool, decide (on < bn) = lt) := Lib.hid ⟨_, rfl⟩
        obtain ⟨lt, hlt⟩ := HLT.out
        clear HLT
        have HT2 := HT.out
        rw [hlt] at HT2
        replace HT := Lib.hid HT2
        clear HT2
        go_cut [79] (fun s79 wx => s79 = .bool (dB && !(dO && lt)) ∧ Hid (Below w8.heap.size w8 wx))
        case first =>
          cases dB with
          | false =>
            refine wp_region_held_drew (S := (fun w' => w'.cell? ⟨p5, 0, none⟩ = some (.int .i64 K) ∧ w'.cell? ⟨p5, 1, none⟩ = some (.int .u64 Ar) ∧ w'.cell? ⟨p15, 0, none⟩ = some (.int .i64 z0) ∧ w'.cell? ⟨p15, 1, none⟩ = some (.int .i64 z1) ∧ w'.cell? ⟨p15, 2, none⟩ = some (.int .i64 z2) ∧ w'.cell? ⟨p15, 3, none⟩ = some (.int .i64 z3) ∧ w'.cell? ⟨p16, 0, none⟩ = some (.int .i64 v0) ∧ w'.cell? ⟨p16, 1, none⟩ = some (.int .i64 v1) ∧ w'.cell? ⟨p16, 2, none⟩ = some (.int .i64 v2) ∧ w'.cell? ⟨p16, 3, none⟩ = some (.int .i64 v3) ∧ Below w8.heap.size w8 w')) (by kernel_rfl) ?_ (fun hHeld => ?_)
            · (refine ⟨?_, ?_, ?_, ?_, ?_, ?_, ?_, ?_, ?_, ?_, ?_⟩ <;> first | assumption | (exact cell_later (by assumption) (by assumption)) | (exact below_drew1 (by assumption)) | (exact below_trans (by assumption) (by assumption)))
            refine wpAnyH_take (i := 0) (v := .agg #[.int .i64 K, .int .u64 Ar]) rfl (by kernel_rfl) (by kernel_rfl) (by kernel_rfl) (fun _ _ _ h => h) (Or.inl ⟨by rfl, ?_⟩) (by assumption) ?_
            · intro wq hSw; obtain ⟨c0, c1, c2, c3, c4, c5, c6, c7, c8, c9, c10⟩ := hSw; go_simp <;> rfl
            try simp only [Act.put, List.getElem_toArray, List.getElem_cons_zero, List.getElem_cons_succ, List.setIfInBounds_toArray, List.set_cons_zero, List.set_cons_succ]
            refine wpAnyH_take (i := 1) (v := .int .i64 bn) rfl (by kernel_rfl) (by kernel_rfl) (by kernel_rfl) (fun _ _ _ h => h) (Or.inl ⟨by rfl, ?_⟩) (by assumption) ?_
            · intro wq hSw; obtain ⟨c0, c1, c2, c3, c4, c5, c6, c7, c8, c9, c10⟩ := hSw; go_simp <;> rfl
            try simp only [Act.put, List.getElem_toArray, List.getElem_cons_zero, List.getElem_cons_succ, List.setIfInBounds_toArray, List.set_cons_zero, List.set_cons_succ]
            refine wpAnyH_take (i := 2) (v := .agg #[.int .i64 z0, .int .i64 z1, .int .i64 z2, .int .i64 z3]) rfl (by kernel_rfl) (by kernel_rfl) (by kernel_rfl) (fun _ _ _ h => h) (Or.inl ⟨by rfl, ?_⟩) (by assumption) ?_
            · intro wq hSw; obtain ⟨c0, c1, c2, c3, c4, c5, c6, c7, c8, c9, c10⟩ := hSw; go_simp <;> rfl
            try simp only [Act.put, List.getElem_toArray, List.getElem_cons_zero, List.getElem_cons_succ, List.setIfInBounds_toArray, List.set_cons_zero, List.set_cons_succ]
            refine wpAnyH_ready (rs := [3]) (by kernel_rfl) (by simp) ?_
            refine AllReadyH.cons (o := _) rfl (fun KK hK => ?_) AllReadyH.nil
            go_simp
            with_reducible refine (HA1.out _).mono ?_
            rintro e w9 ⟨rfl, hb9⟩
            refine hK.out _ _ ?_ (fun hHeld2 => ?_)
            · obtain ⟨c0, c1, c2, c3, c4, c5, c6, c7, c8, c9, c10⟩ := hHeld
              (refine ⟨?_, ?_, ?_, ?_, ?_, ?_, ?_, ?_, ?_, ?_, ?_⟩ <;> first | assumption | (exact cell_later (by assumption) (by assumption)) | (exact below_drew1 (by assumption)) | (exact below_trans (by assumption) (by assumption)))
            clear hK KK
            try simp only [Act.put, List.getElem_toArray, List.getElem_cons_zero, List.getElem_cons_succ, List.setIfInBounds_toArray, List.set_cons_zero, List.set_cons_succ]
            clear hHeld
            have hHeld := hHeld2
            clear hHeld2
            refine wpAnyH_ready (rs := [4]) (by kernel_rfl) (by simp) ?_
            refine AllReadyH.cons (o := _) rfl (fun KK hK => ?_) AllReadyH.nil
            go_simp
            with_reducible refine (HD1.out _).mono ?_
            rintro e w9 ⟨rfl, hb9⟩
            refine hK.out _ _ ?_ (fun hHeld2 => ?_)
            · obtain ⟨c0, c1, c2, c3, c4, c5, c6, c7, c8, c9, c10⟩ := hHeld
              (refine ⟨?_, ?_, ?_, ?_, ?_, ?_, ?_, ?_, ?_, ?_, ?_⟩ <;> first | assumption | (exact cell_later (by assumption) (by assumption)) | (exact below_drew1 (by assumption)) | (exact below_trans (by assumption) (by assumption)))
            clear hK KK
            try simp only [Act.put, List.getElem_toArray, List.getElem_cons_zero, List.getElem_cons_succ, List.setIfInBounds_toArray, List.set_cons_zero, List.set_cons_succ]
            clear hHeld
            have hHeld := hHeld2
            clear hHeld2
            refine wpAnyH_take (i := 5) (v := .bool false) rfl (by kernel_rfl) (by kernel_rfl) (by kernel_rfl) (fun _ _ _ h => h) (Or.inl ⟨by rfl, ?_⟩) (by assumption) ?_
            · intro wq hSw; obtain ⟨c0, c1, c2, c3, c4, c5, c6, c7, c8, c9, c10⟩ := hSw; go_simp <;> rfl
            try simp only [Act.put, List.getElem_toArray, List.getElem_cons_zero, List.getElem_cons_succ, List.setIfInBounds_toArray, List.set_cons_zero, List.set_cons_succ]
            refine wpAnyH_take (i := 6) (v := undef) rfl (by kernel_rfl) (by kernel_rfl) (by kernel_rfl) (fun _ _ _ h => h) (Or.inr ⟨by rfl, rfl⟩) (by assumption) ?_
            try simp only [Act.put, List.getElem_toArray, List.getElem_cons_zero, List.getElem_cons_succ, List.setIfInBounds_toArray, List.set_cons_zero, List.set_cons_succ]
            refine wpAnyH_take (i := 7) (v := undef) rfl (by kernel_rfl) (by kernel_rfl) (by kernel_rfl) (fun _ _ _ h => h) (Or.inr ⟨by rfl, rfl⟩) (by assumption) ?_
            try simp only [Act.put, List.getElem_toArray, List.getElem_cons_zero, List.getElem_cons_succ, List.setIfInBounds_toArray, List.set_cons_zero, List.set_cons_succ]
            refine wpAnyH_take (i := 8) (v := undef) rfl (by kernel_rfl) (by kernel_rfl) (by kernel_rfl) (fun _ _ _ h => h) (Or.inr ⟨by rfl, rfl⟩) (by assumption) ?_
            try simp only [Act.put, List.getElem_toArray, List.getElem_cons_zero, List.getElem_cons_succ, List.setIfInBounds_toArray, List.set_cons_zero, List.set_cons_succ]
            refine wpAnyH_take (i := 9) (v := undef) rfl (by kernel_rfl) (by kernel_rfl) (by kernel_rfl) (fun _ _ _ h => h) (Or.inr ⟨by rfl, rfl⟩) (by assumption) ?_
            try simp only [Act.put, List.getElem_toArray, List.getElem_cons_zero, List.getElem_cons_succ, List.setIfInBounds_toArray, List.set_cons_zero, List.set_cons_succ]
            refine wpAnyH_take (i := 10) (v := undef) rfl (by kernel_rfl) (by kernel_rfl) (by kernel_rfl) (fun _ _ _ h => h) (Or.inr ⟨by rfl, rfl⟩) (by assumption) ?_
            try simp only [Act.put, List.getElem_toArray, List.getElem_cons_zero, List.getElem_cons_succ, List.setIfInBounds_toArray, List.set_cons_zero, List.set_cons_succ]
            refine wpAnyH_take (i := 11) (v := undef) rfl (by kernel_rfl) (by kernel_rfl) (by kernel_rfl) (fun _ _ _ h => h) (Or.inr ⟨by rfl, rfl⟩) (by assumption) ?_
            try simp only [Act.put, List.getElem_toArray, List.getElem_cons_zero, List.getElem_cons_succ, List.setIfInBounds_toArray, List.set_cons_zero, List.set_cons_succ]
            refine wpAnyH_take (i := 12) (v := undef) rfl (by kernel_rfl) (by kernel_rfl) (by kernel_rfl) (fun _ _ _ h => h) (Or.inr ⟨by rfl, rfl⟩) (by assumption) ?_
            try simp only [Act.put, List.getElem_toArray, List.getElem_cons_zero, List.getElem_cons_succ, List.setIfInBounds_toArray, List.set_cons_zero, List.set_cons_succ]
            refine wpAnyH_take (i := 13) (v := undef) rfl (by kernel_rfl) (by kernel_rfl) (by kernel_rfl) (fun _ _ _ h => h) (Or.inr ⟨by rfl, rfl⟩) (by assumption) ?_
            try simp only [Act.put, List.getElem_toArray, List.getElem_cons_zero, List.getElem_cons_succ, List.setIfInBounds_toArray, List.set_cons_zero, List.set_cons_succ]
            refine wpAnyH_take (i := 14) (v := undef) rfl (by kernel_rfl) (by kernel_rfl) (by kernel_rfl) (fun _ _ _ h => h) (Or.inr ⟨by rfl, rfl⟩) (by assumption) ?_
            try simp only [Act.put, List.getElem_toArray, List.getElem_cons_zero, List.getElem_cons_succ, List.setIfInBounds_toArray, List.set_cons_zero, List.set_cons_succ]
            refine wpAnyH_take (i := 15) (v := undef) rfl (by kernel_rfl) (by kernel_rfl) (by kernel_rfl) (fun _ _ _ h => h) (Or.inr ⟨by rfl, rfl⟩) (by assumption) ?_
            try simp only [Act.put, List.getElem_toArray, List.getElem_cons_zero, List.getElem_cons_succ, List.setIfInBounds_toArray, List.set_cons_zero, List.set_cons_succ]
            refine wpAnyH_take (i := 16) (v := undef) rfl (by kernel_rfl) (by kernel_rfl) (by kernel_rfl) (fun _ _ _ h => h) (Or.inr ⟨by rfl, rfl⟩) (by assumption) ?_
            try simp only [Act.put, List.getElem_toArray, List.getElem_cons_zero, List.getElem_cons_succ, List.setIfInBounds_toArray, List.set_cons_zero, List.set_cons_succ]
            refine wpAnyH_take (i := 17) (v := .bool false) rfl (by kernel_rfl) (by kernel_rfl) (by kernel_rfl) (fun _ _ _ h => h) (Or.inl ⟨by rfl, ?_⟩) (by assumption) ?_
            · intro wq hSw; obtain ⟨c0, c1, c2, c3, c4, c5, c6, c7, c8, c9, c10⟩ := hSw; go_simp <;> rfl
            try simp only [Act.put, List.getElem_toArray, List.getElem_cons_zero, List.getElem_cons_succ, List.setIfInBounds_toArray, List.set_cons_zero, List.set_cons_succ]
            refine wpAnyH_done (by kernel_rfl) ?_ _
            obtain ⟨c0, c1, c2, c3, c4, c5, c6, c7, c8, c9, c10⟩ := hHeld
            go_wp2
            go_meet
            exact ⟨rfl, Lib.hid (by assumption)⟩
          | true =>
            cases dO with
            | false =>
              refine wp_region_held_drew (S := (fun w' => w'.cell? ⟨p5, 0, none⟩ = some (.int .i64 K) ∧ w'.cell? ⟨p5, 1, none⟩ = some (.int .u64 Ar) ∧ w'.cell? ⟨p15, 0, none⟩ = some (.int .i64 z0) ∧ w'.cell? ⟨p15, 1, none⟩ = some (.int .i64 z1) ∧ w'.cell? ⟨p15, 2, none⟩ = some (.int .i64 z2) ∧ w'.cell? ⟨p15, 3, none⟩ = some (.int .i64 z3) ∧ w'.cell? ⟨p16, 0, none⟩ = some (.int .i64 v0) ∧ w'.cell? ⟨p16, 1, none⟩ = some (.int .i64 v1) ∧ w'.cell? ⟨p16, 2, none⟩ = some (.int .i64 v2) ∧ w'.cell? ⟨p16, 3, none⟩ = some (.int .i64 v3) ∧ Below w8.heap.size w8 w')) (by kernel_rfl) ?_ (fun hHeld => ?_)
              · (refine ⟨?_, ?_, ?_, ?_, ?_, ?_, ?_, ?_, ?_, ?_, ?_⟩ <;> first | assumption | (exact cell_later (by assumption) (by assumption)) | (exact below_drew1 (by assumption)) | (exact below_trans (by assumption) (by assumption)))
              refine wpAnyH_take (i := 0) (v := .agg #[.int .i64 K, .int .u64 Ar]) rfl (by kernel_rfl) (by kernel_rfl) (by kernel_rfl) (fun _ _ _ h => h) (Or.inl ⟨by rfl, ?_⟩) (by assumption) ?_
              · intro wq hSw; obtain ⟨c0, c1, c2, c3, c4, c5, c6, c7, c8, c9, c10⟩ := hSw; go_simp <;> rfl
              try simp only [Act.put, List.getElem_toArray, List.getElem_cons_zero, List.getElem_cons_succ, List.setIfInBounds_toArray, List.set_cons_zero, List.set_cons_succ]
              refine wpAnyH_take (i := 1) (v := .int .i64 bn) rfl (by kernel_rfl) (by kernel_rfl) (by kernel_rfl) (fun _ _ _ h => h) (Or.inl ⟨by rfl, ?_⟩) (by assumption) ?_
              · intro wq hSw; obtain ⟨c0, c1, c2, c3, c4, c5, c6, c7, c8, c9, c10⟩ := hSw; go_simp <;> rfl
              try simp only [Act.put, List.getElem_toArray, List.getElem_cons_zero, List.getElem_cons_succ, List.setIfInBounds_toArray, List.set_cons_zero, List.set_cons_succ]
              refine wpAnyH_take (i := 2) (v := .agg #[.int .i64 z0, .int .i64 z1, .int .i64 z2, .int .i64 z3]) rfl (by kernel_rfl) (by kernel_rfl) (by kernel_rfl) (fun _ _ _ h => h) (Or.inl ⟨by rfl, ?_⟩) (by assumption) ?_
              · intro wq hSw; obtain ⟨c0, c1, c2, c3, c4, c5, c6, c7, c8, c9, c10⟩ := hSw; go_simp <;> rfl
              try simp only [Act.put, List.getElem_toArray, List.getElem_cons_zero, List.getElem_cons_succ, List.setIfInBounds_toArray, List.set_cons_zero, List.set_cons_succ]
              refine wpAnyH_ready (rs := [3]) (by kernel_rfl) (by simp) ?_
              refine AllReadyH.cons (o := _) rfl (fun KK hK => ?_) AllReadyH.nil
              go_simp
              with_reducible refine (HA1.out _).mono ?_
              rintro e w9 ⟨rfl, hb9⟩
              refine hK.out _ _ ?_ (fun hHeld2 => ?_)
              · obtain ⟨c0, c1, c2, c3, c4, c5, c6, c7, c8, c9, c10⟩ := hHeld
                (refine ⟨?_, ?_, ?_, ?_, ?_, ?_, ?_, ?_, ?_, ?_, ?_⟩ <;> first | assumption | (exact cell_later (by assumption) (by assumption)) | (exact below_drew1 (by assumption)) | (exact below_trans (by assumption) (by assumption)))
              clear hK KK
              try simp only [Act.put, List.getElem_toArray, List.getElem_cons_zero, List.getElem_cons_succ, List.setIfInBounds_toArray, List.set_cons_zero, List.set_cons_succ]
              clear hHeld
              have hHeld := hHeld2
              clear hHeld2
              refine wpAnyH_ready (rs := [4]) (by kernel_rfl) (by simp) ?_
              refine AllReadyH.cons (o := _) rfl (fun KK hK => ?_) AllReadyH.nil
              go_simp
              with_reducible refine (HD1.out _).mono ?_
              rintro e w9 ⟨rfl, hb9⟩
              refine hK.out _ _ ?_ (fun hHeld2 => ?_)
              · obtain ⟨c0, c1, c2, c3, c4, c5, c6, c7, c8, c9, c10⟩ := hHeld
                (refine ⟨?_, ?_, ?_, ?_, ?_, ?_, ?_, ?_, ?_, ?_, ?_⟩ <;> first | assumption | (exact cell_later (by assumption) (by assumption)) | (exact below_drew1 (by assumption)) | (exact below_trans (by assumption) (by assumption)))
              clear hK KK
              try simp only [Act.put, List.getElem_toArray, List.getElem_cons_zero, List.getElem_cons_succ, List.setIfInBounds_toArray, List.set_cons_zero, List.set_cons_succ]
              clear hHeld
              have hHeld := hHeld2
              clear hHeld2
              refine wpAnyH_take (i := 5) (v := .bool true) rfl (by kernel_rfl) (by kernel_rfl) (by kernel_rfl) (fun _ _ _ h => h) (Or.inl ⟨by rfl, ?_⟩) (by assumption) ?_
              · intro wq hSw; obtain ⟨c0, c1, c2, c3, c4, c5, c6, c7, c8, c9, c10⟩ := hSw; go_simp <;> rfl
              try simp only [Act.put, List.getElem_toArray, List.getElem_cons_zero, List.getElem_cons_succ, List.setIfInBounds_toArray, List.set_cons_zero, List.set_cons_succ]
              refine wpAnyH_take (i := 6) (v := .agg #[.int .i64 K, .int .u64 Ar]) rfl (by kernel_rfl) (by kernel_rfl) (by kernel_rfl) (fun _ _ _ h => h) (Or.inl ⟨by rfl, ?_⟩) (by assumption) ?_
              · intro wq hSw; obtain ⟨c0, c1, c2, c3, c4, c5, c6, c7, c8, c9, c10⟩ := hSw; go_simp <;> rfl
              try simp only [Act.put, List.getElem_toArray, List.getElem_cons_zero, List.getElem_cons_succ, List.setIfInBounds_toArray, List.set_cons_zero, List.set_cons_succ]
              refine wpAnyH_take (i := 7) (v := .int .i64 on) rfl (by kernel_rfl) (by kernel_rfl) (by kernel_rfl) (fun _ _ _ h => h) (Or.inl ⟨by rfl, ?_⟩) (by assumption) ?_
              · intro wq hSw; obtain ⟨c0, c1, c2, c3, c4, c5, c6, c7, c8, c9, c10⟩ := hSw; go_simp <;> rfl
              try simp only [Act.put, List.getElem_toArray, List.getElem_cons_zero, List.getElem_cons_succ, List.setIfInBounds_toArray, List.set_cons_zero, List.set_cons_succ]
              refine wpAnyH_take (i := 8) (v := .agg #[.int .i64 v0, .int .i64 v1, .int .i64 v2, .int .i64 v3]) rfl (by kernel_rfl) (by kernel_rfl) (by kernel_rfl) (fun _ _ _ h => h) (Or.inl ⟨by rfl, ?_⟩) (by assumption) ?_
              · intro wq hSw; obtain ⟨c0, c1, c2, c3, c4, c5, c6, c7, c8, c9, c10⟩ := hSw; go_simp <;> rfl
              try simp only [Act.put, List.getElem_toArray, List.getElem_cons_zero, List.getElem_cons_succ, List.setIfInBounds_toArray, List.set_cons_zero, List.set_cons_succ]
              refine wpAnyH_ready (rs := [9]) (by kernel_rfl) (by simp) ?_
              refine AllReadyH.cons (o := _) rfl (fun KK hK => ?_) AllReadyH.nil
              go_simp
              with_reducible refine (HA2.out _).mono ?_
              rintro e w9 ⟨rfl, hb9⟩
              refine hK.out _ _ ?_ (fun hHeld2 => ?_)
              · obtain ⟨c0, c1, c2, c3, c4, c5, c6, c7, c8, c9, c10⟩ := hHeld
                (refine ⟨?_, ?_, ?_, ?_, ?_, ?_, ?_, ?_, ?_, ?_, ?_⟩ <;> first | assumption | (exact cell_later (by assumption) (by assumption)) | (exact below_drew1 (by assumption)) | (exact below_trans (by assumption) (by assumption)))
              clear hK KK
              try simp only [Act.put, List.getElem_toArray, List.getElem_cons_zero, List.getElem_cons_succ, List.setIfInBounds_toArray, List.set_cons_zero, List.set_cons_succ]
              clear hHeld
              have hHeld := hHeld2
              clear hHeld2
              refine wpAnyH_ready (rs := [10]) (by kernel_rfl) (by simp) ?_
              refine AllReadyH.cons (o := _) rfl (fun KK hK => ?_) AllReadyH.nil
              go_simp
              with_reducible refine (HD2.out _).mono ?_
              rintro e w9 ⟨rfl, hb9⟩
              refine hK.out _ _ ?_ (fun hHeld2 => ?_)
              · obtain ⟨c0, c1, c2, c3, c4, c5, c6, c7, c8, c9, c10⟩ := hHeld
                (refine ⟨?_, ?_, ?_, ?_, ?_, ?_, ?_, ?_, ?_, ?_, ?_⟩ <;> first | assumption | (exact cell_later (by assumption) (by assumption)) | (exact below_drew1 (by assumption)) | (exact below_trans (by assumption) (by assumption)))
              clear hK KK
              try simp only [Act.put, List.getElem_toArray, List.getElem_cons_zero, List.getElem_cons_succ, List.setIfInBounds_toArray, List.set_cons_zero, List.set_cons_succ]
              clear hHeld
              have hHeld := hHeld2
              clear hHeld2
              refine wpAnyH_take (i := 11) (v := .bool false) rfl (by kernel_rfl) (by kernel_rfl) (by kernel_rfl) (fun _ _ _ h => h) (Or.inl ⟨by rfl, ?_⟩) (by assumption) ?_
              · intro wq hSw; obtain ⟨c0, c1, c2, c3, c4, c5, c6, c7, c8, c9, c10⟩ := hSw; go_simp <;> rfl
              try simp only [Act.put, List.getElem_toArray, List.getElem_cons_zero, List.getElem_cons_succ, List.setIfInBounds_toArray, List.set_cons_zero, List.set_cons_succ]
              refine wpAnyH_take (i := 12) (v := undef) rfl (by kernel_rfl) (by kernel_rfl) (by kernel_rfl) (fun _ _ _ h => h) (Or.inr ⟨by rfl, rfl⟩) (by assumption) ?_
              try simp only [Act.put, List.getElem_toArray, List.getElem_cons_zero, List.getElem_cons_succ, List.setIfInBounds_toArray, List.set_cons_zero, List.set_cons_succ]
              refine wpAnyH_take (i := 13) (v := undef) rfl (by kernel_rfl) (by kernel_rfl) (by kernel_rfl) (fun _ _ _ h => h) (Or.inr ⟨by rfl, rfl⟩) (by assumption) ?_
              try simp only [Act.put, List.getElem_toArray, List.getElem_cons_zero, List.getElem_cons_succ, List.setIfInBounds_toArray, List.set_cons_zero, List.set_cons_succ]
              refine wpAnyH_take (i := 14) (v := undef) rfl (by kernel_rfl) (by kernel_rfl) (by kernel_rfl) (fun _ _ _ h => h) (Or.inr ⟨by rfl, rfl⟩) (by assumption) ?_
              try simp only [Act.put, List.getElem_toArray, List.getElem_cons_zero, List.getElem_cons_succ, List.setIfInBounds_toArray, List.set_cons_zero, List.set_cons_succ]
              refine wpAnyH_take (i := 15) (v := .bool false) rfl (by kernel_rfl) (by kernel_rfl) (by kernel_rfl) (fun _ _ _ h => h) (Or.inl ⟨by rfl, ?_⟩) (by assumption) ?_
              · intro wq hSw; obtain ⟨c0, c1, c2, c3, c4, c5, c6, c7, c8, c9, c10⟩ := hSw; go_simp <;> rfl
              try simp only [Act.put, List.getElem_toArray, List.getElem_cons_zero, List.getElem_cons_succ, List.setIfInBounds_toArray, List.set_cons_zero, List.set_cons_succ]
              refine wpAnyH_take (i := 16) (v := .bool true) rfl (by kernel_rfl) (by kernel_rfl) (by kernel_rfl) (fun _ _ _ h => h) (Or.inl ⟨by rfl, ?_⟩) (by assumption) ?_
              · intro wq hSw; obtain ⟨c0, c1, c2, c3, c4, c5, c6, c7, c8, c9, c10⟩ := hSw; go_simp <;> rfl
              try simp only [Act.put, List.getElem_toArray, List.getElem_cons_zero, List.getElem_cons_succ, List.setIfInBounds_toArray, List.set_cons_zero, List.set_cons_succ]
              refine wpAnyH_take (i := 17) (v := .bool true) rfl (by kernel_rfl) (by kernel_rfl) (by kernel_rfl) (fun _ _ _ h => h) (Or.inl ⟨by rfl, ?_⟩) (by assumption) ?_
              · intro wq hSw; obtain ⟨c0, c1, c2, c3, c4, c5, c6, c7, c8, c9, c10⟩ := hSw; go_simp <;> rfl
              try simp only [Act.put, List.getElem_toArray, List.getElem_cons_zero, List.getElem_cons_succ, List.setIfInBounds_toArray, List.set_cons_zero, List.set_cons_succ]
              refine wpAnyH_done (by kernel_rfl) ?_ _
              obtain ⟨c0, c1, c2, c3, c4, c5, c6, c7, c8, c9, c10⟩ := hHeld
              go_wp2
              go_meet
              exact ⟨rfl, Lib.hid (by assumption)⟩
            | true =>
              cases lt with
              | false =>
                go_region_held3 (fun w' => w'.cell? ⟨p5, 0, none⟩ = some (.int .i64 K) ∧ w'.cell? ⟨p5, 1, none⟩ = some (.int .u64 Ar) ∧ w'.cell? ⟨p15, 0, none⟩ = some (.int .i64 z0) ∧ w'.cell? ⟨p15, 1, none⟩ = some (.int .i64 z1) ∧ w'.cell? ⟨p15, 2, none⟩ = some (.int .i64 z2) ∧ w'.cell? ⟨p15, 3, none⟩ = some (.int .i64 z3) ∧ w'.cell? ⟨p16, 0, none⟩ = some (.int .i64 v0) ∧ w'.cell? ⟨p16, 1, none⟩ = some (.int .i64 v1) ∧ w'.cell? ⟨p16, 2, none⟩ = some (.int .i64 v2) ∧ w'.cell? ⟨p16, 3, none⟩ = some (.int .i64 v3) ∧ Below w8.heap.size w8 w') (first | (refine ⟨?_, ?_, ?_, ?_, ?_, ?_, ?_, ?_, ?_, ?_, ?_⟩ <;> first | assumption | (exact cell_later (by assumption) (by assumption)) | (exact below_drew1 (by assumption)) | (exact below_trans (by assumption) (by assumption))) | (go_split_ands; refine ⟨?_, ?_, ?_, ?_, ?_, ?_, ?_, ?_, ?_, ?_, ?_⟩ <;> first | (exact cell_later (by assumption) (by assumption)) | (exact below_trans (by assumption) (by assumption)) | go_keep))
                          (first
                            | (go_at_call 35; with_reducible refine (HA1.out _).mono ?_; rintro e w9 ⟨rfl, hb9⟩)
                            | (go_at_call 35; with_reducible refine (HA2.out _).mono ?_; rintro e w9 ⟨rfl, hb9⟩)
                            | (go_at_call 34; with_reducible refine (HD1.out _).mono ?_; rintro e w9 ⟨rfl, hb9⟩)
                            | (go_at_call 34; with_reducible refine (HD2.out _).mono ?_; rintro e w9 ⟨rfl, hb9⟩))
                all_goals
                  go_split_ands
                  go_wp2
                  go_meet
                  exact ⟨rfl, Lib.hid (by assumption)⟩
              | true =>
                go_region_held3 (fun w' => w'.cell? ⟨p5, 0, none⟩ = some (.int .i64 K) ∧ w'.cell? ⟨p5, 1, none⟩ = some (.int .u64 Ar) ∧ w'.cell? ⟨p15, 0, none⟩ = some (.int .i64 z0) ∧ w'.cell? ⟨p15, 1, none⟩ = some (.int .i64 z1) ∧ w'.cell? ⟨p15, 2, none⟩ = some (.int .i64 z2) ∧ w'.cell? ⟨p15, 3, none⟩ = some (.int .i64 z3) ∧ w'.cell? ⟨p16, 0, none⟩ = some (.int .i64 v0) ∧ w'.cell? ⟨p16, 1, none⟩ = some (.int .i64 v1) ∧ w'.cell? ⟨p16, 2, none⟩ = some (.int .i64 v2) ∧ w'.cell? ⟨p16, 3, none⟩ = some (.int .i64 v3) ∧ Below w8.heap.size w8 w') (first | (refine ⟨?_, ?_, ?_, ?_, ?_, ?_, ?_, ?_, ?_, ?_, ?_⟩ <;> first | assumption | (exact cell_later (by assumption) (by assumption)) | (exact below_drew1 (by assumption)) | (exact below_trans (by assumption) (by assumption))) | (go_split_ands; refine ⟨?_, ?_, ?_, ?_, ?_, ?_, ?_, ?_, ?_, ?_, ?_⟩ <;> first | (exact cell_later (by assumption) (by assumption)) | (exact below_trans (by assumption) (by assumption)) | go_keep))
                          (first
                            | (go_at_call 35; with_reducible refine (HA1.out _).mono ?_; rintro e w9 ⟨rfl, hb9⟩)
                            | (go_at_call 35; with_reducible refine (HA2.out _).mono ?_; rintro e w9 ⟨rfl, hb9⟩)
                            | (go_at_call 34; with_reducible refine (HD1.out _).mono ?_; rintro e w9 ⟨rfl, hb9⟩)
                            | (go_at_call 34; with_reducible refine (HD2.out _).mono ?_; rintro e w9 ⟨rfl, hb9⟩))
                all_goals
                  go_split_ands
                  go_wp2
                  go_meet
                  exact ⟨rfl, Lib.hid (by assumption)⟩
        case rest =>
          obtain ⟨rfl, HBC⟩ := hcut
          clear hbW f0 f1 z_0 z_1 z_2 z_3 v_0 v_1 v_2 v_3 HA1 HD1
          subst hp5
          replace HB2 := Lib.hid (below_trans HB2.out HBC.out)
          replace K4 := Lib.hid (K4.out.thru0 HBC.out)
          replace K5 := Lib.hid (K5.out.thru0 HBC.out)
          replace K6 := Lib.hid (K6.out.thru0 HBC.out)
          replace K15 := Lib.hid (K15.out.thru0 HBC.out)
          replace K16 := Lib.hid (K16.out.thru0 HBC.out)
          clear HBC
          generalize hq : (dB && !(dO && lt)) = q at *
          clear hq hlt hp11 hp13 hp8
          cases q with
          | true =>
            clear hp16 HD2 HA2
            have k0 : _ = some (Value.int .i64 L) := K4.out.cell 0
            have k1 : _ = some (Value.int .i64 x) := K4.out.cell 1
            have k2 : _ = some (Value.int .i64 y) := K4.out.cell 2
            have z_0 : _ = some (Value.int .i64 z0) := K15.out.cell 0
            have z_1 : _ = some (Value.int .i64 z1) := K15.out.cell 1
            have z_2 : _ = some (Value.int .i64 z2) := K15.out.cell 2
            have z_3 : _ = some (Value.int .i64 z3) := K15.out.cell 3
            have u6_0 : _ = some (Value.int .i64 0) := K6.out.cell 0
            have u6_1 : _ = some (Value.int .i64 0) := K6.out.cell 1
            have u6_2 : _ = some (Value.int .i64 0) := K6.out.cell 2
            have u6_3 : _ = some (Value.int .i64 0) := K6.out.cell 3
            have u6_4 : _ = some (Value.int .i64 0) := K6.out.cell 4
            have u6_5 : _ = some (Value.int .i64 0) := K6.out.cell 5
            have u6_6 : _ = some (Value.int .i64 0) := K6.out.cell 6
            have u6_7 : _ = some (Value.int .i64 0) := K6.out.cell 7
            have u6_8 : _ = some (Value.int .i64 0) := K6.out.cell 8
            have f6_0 := K6.out.frozen 0
            have f6_1 := K6.out.frozen 1
            have f6_2 := K6.out.frozen 2
            have f6_3 := K6.out.frozen 3
            have f6_4 := K6.out.frozen 4
            have f6_5 := K6.out.frozen 5
            have f6_6 := K6.out.frozen 6
            have f6_7 := K6.out.frozen 7
            have f6_8 := K6.out.frozen 8
            go_wp2_with fail
            clear u6_0 f6_0 u6_1 f6_1 u6_2 f6_2 u6_3 f6_3 u6_4 f6_4 u6_5 f6_5 u6_6 f6_6 u6_7 f6_7 u6_8 f6_8
            have HN9 := Lib.hid (K6.out.nine9 (.int .i64 z0) (.int .i64 z1) (.int .i64 z2) (.int .i64 z3) (.int .i64 L) (.int .i64 x) (.int .i64 y) (.int .i64 1) (.int .i64 bn))
            have HB9 := Lib.hid (Below.nine9 (p := w.heap.size + 1 + 1) HB2.out HG6.out (.int .i64 z0) (.int .i64 z1) (.int .i64 z2) (.int .i64 z3) (.int .i64 L) (.int .i64 x) (.int .i64 y) (.int .i64 1) (.int .i64 bn))
            obtain ⟨WF, hWF⟩ := blk_world HN9.out
            rw [← hWF] at HN9 HB9 ⊢
            clear hWF
            have n9_0 : _ = some (Value.int .i64 z0) := HN9.out.cell 0
            have n9_1 : _ = some (Value.int .i64 z1) := HN9.out.cell 1
            have n9_2 : _ = some (Value.int .i64 z2) := HN9.out.cell 2
            have n9_3 : _ = some (Value.int .i64 z3) := HN9.out.cell 3
            have n9_4 : _ = some (Value.int .i64 L) := HN9.out.cell 4
            have n9_5 : _ = some (Value.int .i64 x) := HN9.out.cell 5
            have n9_6 : _ = some (Value.int .i64 y) := HN9.out.cell 6
            have n9_7 : _ = some (Value.int .i64 1) := HN9.out.cell 7
            have n9_8 : _ = some (Value.int .i64 bn) := HN9.out.cell 8
            have HE := Lib.hid (show TT = some ⟨z0, z1, z2, z3, L, x, y, 1, bn⟩ by rw [HT.out]; simp)
            refine bodyPost_ret (v := .tuple #[(⟨z0, z1, z2, z3, L, x, y, 1, bn⟩ : Ck).val, .bool true]) ?_ rfl ⟨by rw [HE.out]; rfl, HB9.out⟩
            simp [results, Try.results19, go_sem, *, Ck.val]
          | false =>
            go_upto_region 15 with fail
            generalize hp5 : w.heap.size + 1 = p5 at *
            have v_0 : _ = some (Value.int .i64 v0) := K16.out.cell 0
            have v_1 : _ = some (Value.int .i64 v1) := K16.out.cell 1
            have v_2 : _ = some (Value.int .i64 v2) := K16.out.cell 2
            have v_3 : _ = some (Value.int .i64 v3) := K16.out.cell 3
            have f0 : _ = some (Value.int .i64 K) := K5.out.cell 0
            have f1 : _ = some (Value.int .u64 Ar) := K5.out.cell 1
            have hbW := Below.refl wc.heap.size wc
            go_cut [88] (fun s88 wx => s88 = .bool dO ∧ Hid (Below wc.heap.size wc wx))
            case first =>
              go_region_held3 (fun w' => w'.cell? ⟨p5, 0, none⟩ = some (.int .i64 K) ∧ w'.cell? ⟨p5, 1, none⟩ = some (.int .u64 Ar) ∧ w'.cell? ⟨p16, 0, none⟩ = some (.int .i64 v0) ∧ w'.cell? ⟨p16, 1, none⟩ = some (.int .i64 v1) ∧ w'.cell? ⟨p16, 2, none⟩ = some (.int .i64 v2) ∧ w'.cell? ⟨p16, 3, none⟩ = some (.int .i64 v3) ∧ Below wc.heap.size wc w') (first | (refine ⟨?_, ?_, ?_, ?_, ?_, ?_, ?_⟩ <;> first | assumption | (exact cell_later (by assumption) (by assumption)) | (exact below_drew1 (by assumption)) | (exact below_trans (by assumption) (by assumption))) | (go_split_ands; refine ⟨?_, ?_, ?_, ?_, ?_, ?_, ?_⟩ <;> first | (exact cell_later (by assumption) (by assumption)) | (exact below_trans (by assumption) (by assumption)) | go_keep))
                        (first
                          | (go_at_call 35; with_reducible refine (HA2.out _).mono ?_; rintro e w9 ⟨rfl, hb9⟩)
                          | (go_at_call 34; with_reducible refine (HD2.out _).mono ?_; rintro e w9 ⟨rfl, hb9⟩))
              all_goals
                go_split_ands
                go_wp2
                go_meet
                exact ⟨rfl, Lib.hid (by assumption)⟩
            case rest =>
              obtain ⟨rfl, HBC⟩ := hcut
              clear hbW f0 f1 v_0 v_1 v_2 v_3 HA2 HD2
              subst hp5
              replace HB2 := Lib.hid (below_trans HB2.out HBC.out)
              replace K4 := Lib.hid (K4.out.thru0 HBC.out)
              replace K6 := Lib.hid (K6.out.thru0 HBC.out)
              replace K16 := Lib.hid (K16.out.thru0 HBC.out)
              clear HBC
              have HE := Lib.hid (show TT = if dO = true then some ⟨v0, v1, v2, v3, L, x, y, 2, on⟩ else none by rw [HT.out]; simp)
              cases dO with
              | true =>
                clear hp15 hL hLb
                have k0 : _ = some (Value.int .i64 L) := K4.out.cell 0
                have k1 : _ = some (Value.int .i64 x) := K4.out.cell 1
                have k2 : _ = some (Value.int .i64 y) := K4.out.cell 2
                have v_0 : _ = some (Value.int .i64 v0) := K16.out.cell 0
                have v_1 : _ = some (Value.int .i64 v1) := K16.out.cell 1
                have v_2 : _ = some (Value.int .i64 v2) := K16.out.cell 2
                have v_3 : _ = some (Value.int .i64 v3) := K16.out.cell 3
                have u6_0 : _ = some (Value.int .i64 0) := K6.out.cell 0
                have u6_1 : _ = some (Value.int .i64 0) := K6.out.cell 1
                have u6_2 : _ = some (Value.int .i64 0) := K6.out.cell 2
                have u6_3 : _ = some (Value.int .i64 0) := K6.out.cell 3
                have u6_4 : _ = some (Value.int .i64 0) := K6.out.cell 4
                have u6_5 : _ = some (Value.int .i64 0) := K6.out.cell 5
                have u6_6 : _ = some (Value.int .i64 0) := K6.out.cell 6
                have u6_7 : _ = some (Value.int .i64 0) := K6.out.cell 7
                have u6_8 : _ = some (Value.int .i64 0) := K6.out.cell 8
                have f6_0 := K6.out.frozen 0
                have f6_1 := K6.out.frozen 1
                have f6_2 := K6.out.frozen 2
                have f6_3 := K6.out.frozen 3
                have f6_4 := K6.out.frozen 4
                have f6_5 := K6.out.frozen 5
                have f6_6 := K6.out.frozen 6
                have f6_7 := K6.out.frozen 7
                have f6_8 := K6.out.frozen 8
                go_wp2_with fail
                clear u6_0 f6_0 u6_1 f6_1 u6_2 f6_2 u6_3 f6_3 u6_4 f6_4 u6_5 f6_5 u6_6 f6_6 u6_7 f6_7 u6_8 f6_8
                have HN9 := Lib.hid (K6.out.nine9 (.int .i64 v0) (.int .i64 v1) (.int .i64 v2) (.int .i64 v3) (.int .i64 L) (.int .i64 x) (.int .i64 y) (.int .i64 2) (.int .i64 on))
                have HB9 := Lib.hid (Below.nine9 (p := w.heap.size + 1 + 1) HB2.out HG6.out (.int .i64 v0) (.int .i64 v1) (.int .i64 v2) (.int .i64 v3) (.int .i64 L) (.int .i64 x) (.int .i64 y) (.int .i64 2) (.int .i64 on))
                obtain ⟨WF, hWF⟩ := blk_world HN9.out
                rw [← hWF] at HN9 HB9 ⊢
                clear hWF
                have n9_0 : _ = some (Value.int .i64 v0) := HN9.out.cell 0
                have n9_1 : _ = some (Value.int .i64 v1) := HN9.out.cell 1
                have n9_2 : _ = some (Value.int .i64 v2) := HN9.out.cell 2
                have n9_3 : _ = some (Value.int .i64 v3) := HN9.out.cell 3
                have n9_4 : _ = some (Value.int .i64 L) := HN9.out.cell 4
                have n9_5 : _ = some (Value.int .i64 x) := HN9.out.cell 5
                have n9_6 : _ = some (Value.int .i64 y) := HN9.out.cell 6
                have n9_7 : _ = some (Value.int .i64 2) := HN9.out.cell 7
                have n9_8 : _ = some (Value.int .i64 on) := HN9.out.cell 8
                refine bodyPost_ret (v := .tuple #[(⟨v0, v1, v2, v3, L, x, y, 2, on⟩ : Ck).val, .bool true]) ?_ rfl ⟨by rw [HE.out]; rfl, HB9.out⟩
                simp [results, Try.results19, go_sem, *, Ck.val]
              | false =>
                have u6_0 : _ = some (Value.int .i64 0) := K6.out.cell 0
                have u6_1 : _ = some (Value.int .i64 0) := K6.out.cell 1
                have u6_2 : _ = some (Value.int .i64 0) := K6.out.cell 2
                have u6_3 : _ = some (Value.int .i64 0) := K6.out.cell 3
                have u6_4 : _ = some (Value.int .i64 0) := K6.out.cell 4
                have u6_5 : _ = some (Value.int .i64 0) := K6.out.cell 5
                have u6_6 : _ = some (Value.int .i64 0) := K6.out.cell 6
                have u6_7 : _ = some (Value.int .i64 0) := K6.out.cell 7
                have u6_8 : _ = some (Value.int .i64 0) := K6.out.cell 8
                have f6_0 := K6.out.frozen 0
                have f6_1 := K6.out.frozen 1
                have f6_2 := K6.out.frozen 2
                have f6_3 := K6.out.frozen 3
                have f6_4 := K6.out.frozen 4
                have f6_5 := K6.out.frozen 5
                have f6_6 := K6.out.frozen 6
                have f6_7 := K6.out.frozen 7
                have f6_8 := K6.out.frozen 8
                go_wp2_with fail
                clear u6_0 f6_0 u6_1 f6_1 u6_2 f6_2 u6_3 f6_3 u6_4 f6_4 u6_5 f6_5 u6_6 f6_6 u6_7 f6_7 u6_8 f6_8
                have HN9 := Lib.hid (K6.out.nine9 (.int .i64 0) (.int .i64 0) (.int .i64 0) (.int .i64 0) (.int .i64 0) (.int .i64 0) (.int .i64 0) (.int .i64 0) (.int .i64 0))
                have HB9 := Lib.hid (Below.nine9 (p := w.heap.size + 1 + 1) HB2.out HG6.out (.int .i64 0) (.int .i64 0) (.int .i64 0) (.int .i64 0) (.int .i64 0) (.int .i64 0) (.int .i64 0) (.int .i64 0) (.int .i64 0))
                obtain ⟨WF, hWF⟩ := blk_world HN9.out
                rw [← hWF] at HN9 HB9 ⊢
                clear hWF
                have n9_0 : _ = some (Value.int .i64 0) := HN9.out.cell 0
                have n9_1 : _ = some (Value.int .i64 0) := HN9.out.cell 1
                have n9_2 : _ = some (Value.int .i64 0) := HN9.out.cell 2
                have n9_3 : _ = some (Value.int .i64 0) := HN9.out.cell 3
                have n9_4 : _ = some (Value.int .i64 0) := HN9.out.cell 4
                have n9_5 : _ = some (Value.int .i64 0) := HN9.out.cell 5
                have n9_6 : _ = some (Value.int .i64 0) := HN9.out.cell 6
                have n9_7 : _ = some (Value.int .i64 0) := HN9.out.cell 7
                have n9_8 : _ = some (Value.int .i64 0) := HN9.out.cell 8
                refine bodyPost_ret (v := .tuple #[ck0.val, .bool false]) ?_ rfl ⟨by rw [HE.out]; rfl, HB9.out⟩
                simp [results, Try.results19, go_sem, *, Ck.val, ck0]
end Go.Proofs.Ytipfhleedfbnaaa
