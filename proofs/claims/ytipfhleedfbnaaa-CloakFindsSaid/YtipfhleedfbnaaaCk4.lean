/- cloak: seek, by contract. -/
import Derived.Test.YtipfhleedfbnaaaCk3
import Derived.Deep.LoopGhost
namespace Go.Proofs.Ytipfhleedfbnaaa
set_option linter.unusedVariables false
set_option linter.unusedSimpArgs false
open Go.RowKit
theorem triedK_len (S : List Pn) (L x y : Int) : (triedK S L x y).length ≤ 3 := by
  unfold triedK; split
  · split <;> simp
  · simp
def ckAt (l : List Ck) (i : Nat) : Ck := l.getD i ck0
theorem flat_get (l : List Ck) (i j : Nat) (hi : i < l.length) (hj : j < 9) : (l.flatMap Ck.cells)[i * 9 + j]? = (ckAt l i).cells[j]? := by
  induction l generalizing i with
  | nil => simp at hi
  | cons k r ih =>
    rw [List.flatMap_cons]
    match i with
    | 0 => rw [List.getElem?_append_left (by simp [Ck.cells]; omega)]; simp [ckAt]
    | i + 1 =>
      rw [List.getElem?_append_right (by simp [Ck.cells]; omega), show (i + 1) * 9 + j - k.cells.length = i * 9 + j by simp [Ck.cells]; omega, ih i (by simp at hi; omega)]
      simp [ckAt]
theorem Below.nine9 {B p : Nat} {a W0 : World} (h : Below B a W0) (hp : B ≤ p) (v0 v1 v2 v3 v4 v5 v6 v7 v8 : Value) : Below B a (((((((((W0.setCell ⟨p, 0, none⟩ v0).setCell ⟨p, 1, none⟩ v1).setCell ⟨p, 2, none⟩ v2).setCell ⟨p, 3, none⟩ v3).setCell ⟨p, 4, none⟩ v4).setCell ⟨p, 5, none⟩ v5).setCell ⟨p, 6, none⟩ v6).setCell ⟨p, 7, none⟩ v7).setCell ⟨p, 8, none⟩ v8) := by
  have h := h.setCell (p := ⟨p, 0, none⟩) hp v0
  generalize W0.setCell ⟨p, 0, none⟩ v0 = W1 at *
  have h := h.setCell (p := ⟨p, 1, none⟩) hp v1
  generalize W1.setCell ⟨p, 1, none⟩ v1 = W2 at *
  have h := h.setCell (p := ⟨p, 2, none⟩) hp v2
  generalize W2.setCell ⟨p, 2, none⟩ v2 = W3 at *
  have h := h.setCell (p := ⟨p, 3, none⟩) hp v3
  generalize W3.setCell ⟨p, 3, none⟩ v3 = W4 at *
  have h := h.setCell (p := ⟨p, 4, none⟩) hp v4
  generalize W4.setCell ⟨p, 4, none⟩ v4 = W5 at *
  have h := h.setCell (p := ⟨p, 5, none⟩) hp v5
  generalize W5.setCell ⟨p, 5, none⟩ v5 = W6 at *
  have h := h.setCell (p := ⟨p, 6, none⟩) hp v6
  generalize W6.setCell ⟨p, 6, none⟩ v6 = W7 at *
  have h := h.setCell (p := ⟨p, 7, none⟩) hp v7
  generalize W7.setCell ⟨p, 7, none⟩ v7 = W8 at *
  have h := h.setCell (p := ⟨p, 8, none⟩) hp v8
  generalize W8.setCell ⟨p, 8, none⟩ v8 = W9 at *
  exact h
theorem firstK_none {K A : Int} {l : List Ck} (h : ∀ j, j < l.length → doesP K A (ckAt l j).n (areaU (ckAt l j).a (ckAt l j).b (ckAt l j).c (ckAt l j).d) = false) : firstK K A l = none := by
  unfold firstK
  rw [List.find?_eq_none]
  intro k hk
  obtain ⟨j, hj, rfl⟩ := List.mem_iff_getElem.1 hk
  have := h j hj
  have e : ckAt l j = l[j] := by simp [ckAt, List.getD_eq_getElem?_getD, List.getElem?_eq_getElem hj]
  rw [e] at this
  simp [this]
theorem firstK_some {K A : Int} {l : List Ck} {m : Nat} (hm : m < l.length) (h : ∀ j, j < m → doesP K A (ckAt l j).n (areaU (ckAt l j).a (ckAt l j).b (ckAt l j).c (ckAt l j).d) = false) (hd : doesP K A (ckAt l m).n (areaU (ckAt l m).a (ckAt l m).b (ckAt l m).c (ckAt l m).d) = true) : firstK K A l = some (ckAt l m) := by
  unfold firstK
  induction l generalizing m with
  | nil => simp at hm
  | cons k r ih =>
    match m with
    | 0 => 
      have e : ckAt (k :: r) 0 = k := rfl
      rw [e] at hd ⊢
      simp [hd]
    | m + 1 =>
      have h0 := h 0 (by omega)
      have e0 : ckAt (k :: r) 0 = k := rfl
      rw [e0] at h0
      rw [List.find?_cons, h0]
      have e1 : ckAt (k :: r) (m + 1) = ckAt r m := rfl
      rw [e1] at hd ⊢
      exact ih (by simpa using hm) (fun j hj => by have := h (j + 1) (by omega); exact this) hd
/-- Inside a round. -/
structure InSt2 (w : World) (y : Nat) (cs : Array Value) (S : List Pn) (B : Nat) (K A L x y' : Int) (p3 p4 p6 p8 gb p12 : Nat) (TK : List Ck) (k : Ck) (W : World) : Prop where
  st : SeekSt w y cs S B K A L x y' p3 p4 p6 p8 W
  hb : Blk W gb 37 (TK.flatMap Ck.cells).toArray
  hk : Blk W p12 37 k.cells.toArray
theorem InSt2.below {w W X : World} {y : Nat} {cs : Array Value} {S : List Pn} {B : Nat} {K A L x y' : Int} {p3 p4 p6 p8 gb p12 : Nat} {TK : List Ck} {k : Ck} (h : InSt2 w y cs S B K A L x y' p3 p4 p6 p8 gb p12 TK k W) (hb : Below W.heap.size W X) : InSt2 w y cs S B K A L x y' p3 p4 p6 p8 gb p12 TK k X :=
  ⟨h.st.below hb, h.hb.thru0 hb, h.hk.thru0 hb⟩
theorem SeekSt.par {w W : World} {y : Nat} {cs : Array Value} {S : List Pn} {B : Nat} {K A L x y' : Int} {p3 p4 p6 p8 : Nat} (h : SeekSt w y cs S B K A L x y' p3 p4 p6 p8 W) (ho : Out y cs p3) (hg : w.heap.size ≤ p3) (L1 x1 y1 : Int) :
    SeekSt w y cs S B K A L1 x1 y1 p3 p4 p6 p8 (((W.setCell ⟨p3, 0, none⟩ (.int .i64 L1)).setCell ⟨p3, 1, none⟩ (.int .i64 x1)).setCell ⟨p3, 2, none⟩ (.int .i64 y1)) :=
  { h3 := h.h3.set3 _ _ _
    h4 := h.h4.far3 (Blk.ne_ h.h4 h.h3 (by decide)) _ _ _
    h6 := h.h6.far3 (Blk.ne_ h.h6 h.h3 (by decide)) _ _ _
    h8 := h.h8.far3 (Blk.ne_ h.h8 h.h3 (by decide)) _ _ _
    py := ((h.py.far ho _).far ho _).far ho _
    und := ((h.und.setCell (p := ⟨p3, 0, none⟩) hg _).setCell (p := ⟨p3, 1, none⟩) hg _).setCell (p := ⟨p3, 2, none⟩) hg _ }
/-- How a search ends. -/
def SeekP (T : Option Ck) (w : World) (e : Ending) (w' : World) : Prop :=
  e = .returned (.tuple #[(T.getD ck0).val, .int .i64 (if T.isSome then 0 else 21)]) ∧ Below w.heap.size w w'
set_option maxRecDepth 100000 in
set_option maxHeartbeats 8000000 in
theorem seek_any (y : Nat) (cs : Array Value) (S : List Pn) (B : Nat) (K A cx cy : Int) (w : World) (h : PyR w y cs (fun _ => S) B) (hS : S.length ≤ 500000) (hok : okC 16 cx cy = true) :
    Calls Try.prog 15 #[.agg #[.int .i64 16, .int .i64 cx, .int .i64 cy], .agg #[.int .i64 K, .int .u64 A], .func (.func 16) #[.pointer (some ⟨y, 0, none⟩)] #[]] w fun e w' => SeekP (seekK S K A 16 cx cy) w e w' := by
  have HPY := Lib.hid h; have HOK := Lib.hid hok; clear h hok
  generalize hT : seekK S K A 16 cx cy = T at *
  have HT := Lib.hid hT; clear hT
  go_enter Try.func15, Try.ntmps15
  go_wp2_with fail
  go_step3
  go_wp2_with fail
  have hA : Below w.heap.size w ((((w.alloc (.cells #[.int .i64 16, .int .i64 cx, .int .i64 cy] 35)).alloc (.cells #[.int .i64 K, .int .u64 A] 27)).alloc (.cells #[.int .i64 0, .int .i64 0, .int .i64 0, .int .i64 0, .int .i64 0, .int .i64 0, .int .i64 0, .int .i64 0, .int .i64 0] 37)).alloc (.cells #[.int .i64 0, .int .i64 0, .int .i64 0, .int .i64 0, .int .i64 0, .int .i64 0, .int .i64 0, .int .i64 0, .int .i64 0] 37)) := ((((Below.refl _ _).alloc (Nat.le_refl _) _).alloc (by simp) _).alloc (by simp; omega) _).alloc (by simp; omega) _
  have HST := Lib.hid (show SeekSt w y cs S B K A 16 cx cy w.heap.size (w.heap.size + 1) (w.heap.size + 1 + 1) (w.heap.size + 1 + 1 + 1) ((((w.alloc (.cells #[.int .i64 16, .int .i64 cx, .int .i64 cy] 35)).alloc (.cells #[.int .i64 K, .int .u64 A] 27)).alloc (.cells #[.int .i64 0, .int .i64 0, .int .i64 0, .int .i64 0, .int .i64 0, .int .i64 0, .int .i64 0, .int .i64 0, .int .i64 0] 37)).alloc (.cells #[.int .i64 0, .int .i64 0, .int .i64 0, .int .i64 0, .int .i64 0, .int .i64 0, .int .i64 0, .int .i64 0, .int .i64 0] 37)) from
    { h3 := (((Blk.new w _ _).alloc _).alloc _).alloc _
      h4 := ((Blk.newAt (by simp)).alloc _).alloc _
      h6 := (Blk.newAt (by simp)).alloc _
      h8 := Blk.newAt (by simp)
      py := HPY.out.below hA
      und := hA })
  clear hA
  go_step3
  go_wp2_with fail
  generalize ((((w.alloc (.cells #[.int .i64 16, .int .i64 cx, .int .i64 cy] 35)).alloc (.cells #[.int .i64 K, .int .u64 A] 27)).alloc (.cells #[.int .i64 0, .int .i64 0, .int .i64 0, .int .i64 0, .int .i64 0, .int .i64 0, .int .i64 0, .int .i64 0, .int .i64 0] 37)).alloc (.cells #[.int .i64 0, .int .i64 0, .int .i64 0, .int .i64 0, .int .i64 0, .int .i64 0, .int .i64 0, .int .i64 0, .int .i64 0] 37)) = W at *
  have HN : Hid (w.heap.size + 1 + 1 + 1 ≠ w.heap.size + 1 + 1) := Lib.hid (by omega)
  have HG3 : Hid (w.heap.size ≤ w.heap.size) := Lib.hid (Nat.le_refl _)
  have HG6 : Hid (w.heap.size ≤ w.heap.size + 1 + 1) := Lib.hid (by omega)
  have HG8 : Hid (w.heap.size ≤ w.heap.size + 1 + 1 + 1) := Lib.hid (by omega)
  have HO := Lib.hid (fun i (hi : w.heap.size ≤ i) => HPY.out.out hi)
  generalize hp8 : w.heap.size + 1 + 1 + 1 = p8 at *
  generalize hp6 : w.heap.size + 1 + 1 = p6 at *
  generalize hp4 : w.heap.size + 1 = p4 at *
  generalize hp3 : w.heap.size = p3 at *
  go_loopg [9, 10] 18 (fun g e o wr => e = .int .i64 21 ∧ ∃ (b : Bool) (l : Nat) (L x y' : Int), o = .bool b ∧ Hid (SeekSt w y cs S B K A L x y' p3 p4 p6 p8 wr) ∧ Hid (b = true → L = (l : Int) ∧ okC L x y' = true ∧ g = l + 2 ∧ seekK S K A l x y' = T) ∧ Hid (b = false → T = none ∧ g = 1))
  case atStart => exact ⟨rfl, true, 16, 16, cx, cy, rfl, HST, Lib.hid fun _ => ⟨rfl, HOK.out, rfl, HT.out⟩, Lib.hid fun h => by cases h⟩
  case round =>
    clear HST
    obtain ⟨rfl, b, l, L, x, y', rfl, HR, HTR, HFA⟩ := hrel
    have x0 := HR.out.h3.cell 0
    have x1 := HR.out.h3.cell 1
    have x2 := HR.out.h3.cell 2
    simp only [List.getElem?_toArray, List.getElem?_cons_zero, List.getElem?_cons_succ] at x0 x1 x2
    cases b with
    | false =>
      have HTN := Lib.hid (HFA.out rfl).1
      clear HTR HFA
      have u8_0 : _ = some (Value.int .i64 0) := HR.out.h8.cell 0
      have u8_1 : _ = some (Value.int .i64 0) := HR.out.h8.cell 1
      have u8_2 : _ = some (Value.int .i64 0) := HR.out.h8.cell 2
      have u8_3 : _ = some (Value.int .i64 0) := HR.out.h8.cell 3
      have u8_4 : _ = some (Value.int .i64 0) := HR.out.h8.cell 4
      have u8_5 : _ = some (Value.int .i64 0) := HR.out.h8.cell 5
      have u8_6 : _ = some (Value.int .i64 0) := HR.out.h8.cell 6
      have u8_7 : _ = some (Value.int .i64 0) := HR.out.h8.cell 7
      have u8_8 : _ = some (Value.int .i64 0) := HR.out.h8.cell 8
      have u6_0 : _ = some (Value.int .i64 0) := HR.out.h6.cell 0
      have u6_1 : _ = some (Value.int .i64 0) := HR.out.h6.cell 1
      have u6_2 : _ = some (Value.int .i64 0) := HR.out.h6.cell 2
      have u6_3 : _ = some (Value.int .i64 0) := HR.out.h6.cell 3
      have u6_4 : _ = some (Value.int .i64 0) := HR.out.h6.cell 4
      have u6_5 : _ = some (Value.int .i64 0) := HR.out.h6.cell 5
      have u6_6 : _ = some (Value.int .i64 0) := HR.out.h6.cell 6
      have u6_7 : _ = some (Value.int .i64 0) := HR.out.h6.cell 7
      have u6_8 : _ = some (Value.int .i64 0) := HR.out.h6.cell 8
      have f6_0 := HR.out.h6.frozen 0
      have f6_1 := HR.out.h6.frozen 1
      have f6_2 := HR.out.h6.frozen 2
      have f6_3 := HR.out.h6.frozen 3
      have f6_4 := HR.out.h6.frozen 4
      have f6_5 := HR.out.h6.frozen 5
      have f6_6 := HR.out.h6.frozen 6
      have f6_7 := HR.out.h6.frozen 7
      have f6_8 := HR.out.h6.frozen 8
      have HB9 := Lib.hid ((Below.nine9 (p := p6) HR.out.und (by have := HG6.out; omega) (.int .i64 0) (.int .i64 0) (.int .i64 0) (.int .i64 0) (.int .i64 0) (.int .i64 0) (.int .i64 0) (.int .i64 0) (.int .i64 0)))
      have HN9 := HR.out.h6.nine9 (.int .i64 0) (.int .i64 0) (.int .i64 0) (.int .i64 0) (.int .i64 0) (.int .i64 0) (.int .i64 0) (.int .i64 0) (.int .i64 0)
      have n9_0 := HN9.cell 0
      have n9_1 := HN9.cell 1
      have n9_2 := HN9.cell 2
      have n9_3 := HN9.cell 3
      have n9_4 := HN9.cell 4
      have n9_5 := HN9.cell 5
      have n9_6 := HN9.cell 6
      have n9_7 := HN9.cell 7
      have n9_8 := HN9.cell 8
      simp only [List.getElem?_toArray, List.getElem?_cons_zero, List.getElem?_cons_succ] at n9_0 n9_1 n9_2 n9_3 n9_4 n9_5 n9_6 n9_7 n9_8
      clear HN9
      go_wp2_with fail
      (try rw [Exit.noGoto_ret])
      have e := HTN.out
      subst e
      refine bodyPost_ret (v := .tuple #[ck0.val, .int .i64 21]) ?_ rfl ⟨rfl, by subst hp3; exact HB9.out⟩
      simp [results, Try.results15, go_sem, *, Ck.val, ck0]
    | true =>
      obtain ⟨e1', e2', e3', e4'⟩ := HTR.out rfl
      subst e1'
      have HOC := Lib.hid e2'; have HGL := Lib.hid e3'; have HSK := Lib.hid e4'
      clear e2' e3' e4' HTR HFA
      have HTRI := Lib.hid (tried_any y cs S B (l : Int) x y' wr HR.out.py hS)
      have HLEN := Lib.hid (triedK_len S (l : Int) x y')
      go_wp2_with fail
      refine HTRI.out.mono ?_
      rintro e w5 ⟨gb, rfl, hblk, hb5, hgb⟩
      have HR5 := Lib.hid (HR.out.below hb5)
      have HB5 := Lib.hid hblk
      have HGB := Lib.hid (Nat.le_trans HR.out.und.size hgb)
      clear hblk hb5 hgb HTRI HR x0 x1 x2
      generalize hTK : triedK S (l : Int) x y' = TK at *
      go_wp2_with fail
      go_loopg [9, 24] 4 (fun gi e9 i wr2 => e9 = .int .i64 21 ∧ ∃ m : Nat, i = .int .i64 m ∧ m ≤ TK.length ∧ Hid (gi + m = 4) ∧ Hid (SeekSt w y cs S B K A (l : Int) x y' p3 p4 p6 p8 wr2) ∧ Hid (Blk wr2 gb 37 (TK.flatMap Ck.cells).toArray) ∧ Hid (∀ j, j < m → doesP K A (ckAt TK j).n (areaU (ckAt TK j).a (ckAt TK j).b (ckAt TK j).c (ckAt TK j).d) = false))
      case atStart => exact ⟨rfl, 0, rfl, Nat.zero_le _, rfl, HR5, HB5, Lib.hid fun j hj => absurd hj (by omega)⟩
      case round =>
        clear HR5 HB5
        obtain ⟨rfl, m, rfl, hm, hgi, HR, HBK, HNO⟩ := hrel
        by_cases hlt : m < TK.length
        · have hmi : (m : Int) < (TK.length : Int) := by omega
          have hm9 : m < 4 := by have := HLEN.out; omega
          have hwm : IntKind.i64.wrap ((m : Int) + 1) = (m : Int) + 1 := by rw [IntKind.wrap_i64]; omega
          have hget : ∀ j, j < 9 → wr.cell? ⟨gb, m * 9 + j, none⟩ = (ckAt TK m).cells[j]? := fun j hj => by
            rw [HBK.out.cell, List.getElem?_toArray]; exact flat_get TK m j hlt hj
          generalize hkk : ckAt TK m = k at *
          have m0 : wr.cell? ⟨gb, m * 9 + 0, none⟩ = some (.int .i64 k.a) := hget 0 (by omega)
          have m1 : wr.cell? ⟨gb, m * 9 + 1, none⟩ = some (.int .i64 k.b) := hget 1 (by omega)
          have m2 : wr.cell? ⟨gb, m * 9 + 2, none⟩ = some (.int .i64 k.c) := hget 2 (by omega)
          have m3 : wr.cell? ⟨gb, m * 9 + 3, none⟩ = some (.int .i64 k.d) := hget 3 (by omega)
          have m4 : wr.cell? ⟨gb, m * 9 + 4, none⟩ = some (.int .i64 k.L) := hget 4 (by omega)
          have m5 : wr.cell? ⟨gb, m * 9 + 5, none⟩ = some (.int .i64 k.x) := hget 5 (by omega)
          have m6 : wr.cell? ⟨gb, m * 9 + 6, none⟩ = some (.int .i64 k.y) := hget 6 (by omega)
          have m7 : wr.cell? ⟨gb, m * 9 + 7, none⟩ = some (.int .i64 k.kd) := hget 7 (by omega)
          have m8 : wr.cell? ⟨gb, m * 9 + 8, none⟩ = some (.int .i64 k.n) := hget 8 (by omega)
          rw [Nat.add_zero] at m0
          have HIN := Lib.hid (show InSt2 w y cs S B K A (l : Int) x y' p3 p4 p6 p8 gb wr.heap.size TK k (wr.alloc (.cells #[.int .i64 k.a, .int .i64 k.b, .int .i64 k.c, .int .i64 k.d, .int .i64 k.L, .int .i64 k.x, .int .i64 k.y, .int .i64 k.kd, .int .i64 k.n] 37)) from ⟨HR.out.below ((Below.refl _ _).alloc (Nat.le_refl _) _), HBK.out.alloc _, Blk.new _ _ _⟩)
          clear hget
          go_upto_region 8 with fail
          clear m0 m1 m2 m3 m4 m5 m6 m7 m8
          generalize hp12 : wr.heap.size = p12 at *
          generalize (wr.alloc (.cells #[.int .i64 k.a, .int .i64 k.b, .int .i64 k.c, .int .i64 k.d, .int .i64 k.L, .int .i64 k.x, .int .i64 k.y, .int .i64 k.kd, .int .i64 k.n] 37)) = V at *
          have s0 : V.cell? ⟨p4, 0, none⟩ = some (.int .i64 K) := HIN.out.st.h4.cell 0
          have s1 : V.cell? ⟨p4, 1, none⟩ = some (.int .u64 A) := HIN.out.st.h4.cell 1
          have r0 : V.cell? ⟨p12, 0, none⟩ = some (.int .i64 k.a) := HIN.out.hk.cell 0
          have r1 : V.cell? ⟨p12, 1, none⟩ = some (.int .i64 k.b) := HIN.out.hk.cell 1
          have r2 : V.cell? ⟨p12, 2, none⟩ = some (.int .i64 k.c) := HIN.out.hk.cell 2
          have r3 : V.cell? ⟨p12, 3, none⟩ = some (.int .i64 k.d) := HIN.out.hk.cell 3
          have r8 : V.cell? ⟨p12, 8, none⟩ = some (.int .i64 k.n) := HIN.out.hk.cell 8
          have HAR := Lib.hid (area_u k.a k.b k.c k.d)
          have HDO := Lib.hid (cdoes_any K A k.n (areaU k.a k.b k.c k.d))
          have HDD := Lib.hid (show doesP K A (ckAt TK m).n (areaU (ckAt TK m).a (ckAt TK m).b (ckAt TK m).c (ckAt TK m).d) = doesP K A k.n (areaU k.a k.b k.c k.d) by rw [hkk])
          generalize areaU k.a k.b k.c k.d = ar at *
          generalize hdd : doesP K A k.n ar = D at *
          go_region_held3 (fun w' => w'.cell? ⟨p4, 0, none⟩ = some (.int .i64 K) ∧ w'.cell? ⟨p4, 1, none⟩ = some (.int .u64 A) ∧ w'.cell? ⟨p12, 8, none⟩ = some (.int .i64 k.n) ∧ w'.cell? ⟨p12, 0, none⟩ = some (.int .i64 k.a) ∧ w'.cell? ⟨p12, 1, none⟩ = some (.int .i64 k.b) ∧ w'.cell? ⟨p12, 2, none⟩ = some (.int .i64 k.c) ∧ w'.cell? ⟨p12, 3, none⟩ = some (.int .i64 k.d)) (first | (refine ⟨?_, ?_, ?_, ?_, ?_, ?_, ?_⟩ <;> first | assumption | (exact cell_later (by assumption) (by assumption))) | (go_split_ands; refine ⟨?_, ?_, ?_, ?_, ?_, ?_, ?_⟩ <;> first | (exact cell_later (by assumption) (by assumption)) | go_keep))
            (first
              | (go_at_call 28; refine (HAR.out _).mono ?_; rintro e w9 ⟨rfl, hb9⟩; have HQA := Lib.hid (HIN.out.below (by first | exact hb9 | exact below_of_drew hb9)))
              | (go_at_call 27; refine (HDO.out _).mono ?_; rintro e w9 ⟨rfl, hb9⟩; have HQB := Lib.hid (HQA.out.below (by first | exact hb9 | exact below_of_drew hb9))))
          all_goals
            go_split_ands
            clear s0 s1 r0 r1 r2 r3 r8
            cases D with
            | false =>
              go_wp2_with fail
              go_roundg (gk - 1)
              case rel =>
                have h9 := hgi.out
                have h8 := HLEN.out
                refine ⟨rfl, m + 1, by go_num, by omega, (show gk - 1 + (m + 1) = 4 by omega), Lib.hid HQB.out.st, Lib.hid HQB.out.hb, Lib.hid fun j hj => ?_⟩
                by_cases e : j = m
                · subst e; exact HDD.out
                · exact HNO.out j (by omega)
              case measure => have h9 := hgi.out; have h8 := HLEN.out; omega
            | true =>
              have HRES : Hid (T = some k) := Lib.hid (by
                have h1 := firstK_some hlt HNO.out HDD.out
                rw [hkk, ← hTK] at h1
                have h2 := HSK.out
                match l, h2, h1 with
                | 0, h2, h1 => rw [← h2, seekK]; exact h1
                | l + 1, h2, h1 =>
                  rw [← h2, seekK]
                  push_cast at h1
                  rw [h1]
                  rfl)
              have r0 : _ = some (Value.int .i64 k.a) := HQB.out.hk.cell 0
              have r1 : _ = some (Value.int .i64 k.b) := HQB.out.hk.cell 1
              have r2 : _ = some (Value.int .i64 k.c) := HQB.out.hk.cell 2
              have r3 : _ = some (Value.int .i64 k.d) := HQB.out.hk.cell 3
              have r4 : _ = some (Value.int .i64 k.L) := HQB.out.hk.cell 4
              have r5 : _ = some (Value.int .i64 k.x) := HQB.out.hk.cell 5
              have r6 : _ = some (Value.int .i64 k.y) := HQB.out.hk.cell 6
              have r7 : _ = some (Value.int .i64 k.kd) := HQB.out.hk.cell 7
              have r8 : _ = some (Value.int .i64 k.n) := HQB.out.hk.cell 8
              have u8_0 : _ = some (Value.int .i64 0) := HQB.out.st.h8.cell 0
              have u8_1 : _ = some (Value.int .i64 0) := HQB.out.st.h8.cell 1
              have u8_2 : _ = some (Value.int .i64 0) := HQB.out.st.h8.cell 2
              have u8_3 : _ = some (Value.int .i64 0) := HQB.out.st.h8.cell 3
              have u8_4 : _ = some (Value.int .i64 0) := HQB.out.st.h8.cell 4
              have u8_5 : _ = some (Value.int .i64 0) := HQB.out.st.h8.cell 5
              have u8_6 : _ = some (Value.int .i64 0) := HQB.out.st.h8.cell 6
              have u8_7 : _ = some (Value.int .i64 0) := HQB.out.st.h8.cell 7
              have u8_8 : _ = some (Value.int .i64 0) := HQB.out.st.h8.cell 8
              have f8_0 := HQB.out.st.h8.frozen 0
              have f8_1 := HQB.out.st.h8.frozen 1
              have f8_2 := HQB.out.st.h8.frozen 2
              have f8_3 := HQB.out.st.h8.frozen 3
              have f8_4 := HQB.out.st.h8.frozen 4
              have f8_5 := HQB.out.st.h8.frozen 5
              have f8_6 := HQB.out.st.h8.frozen 6
              have f8_7 := HQB.out.st.h8.frozen 7
              have f8_8 := HQB.out.st.h8.frozen 8
              go_upto_region 11 with fail
              have B8 := Lib.hid (HQB.out.st.h8.nine9 (.int .i64 k.a) (.int .i64 k.b) (.int .i64 k.c) (.int .i64 k.d) (.int .i64 k.L) (.int .i64 k.x) (.int .i64 k.y) (.int .i64 k.kd) (.int .i64 k.n))
              have B6 := Lib.hid (HQB.out.st.h6.far9 HN.out.symm (.int .i64 k.a) (.int .i64 k.b) (.int .i64 k.c) (.int .i64 k.d) (.int .i64 k.L) (.int .i64 k.x) (.int .i64 k.y) (.int .i64 k.kd) (.int .i64 k.n))
              have BB := Lib.hid (Below.nine9 (p := p8) HQB.out.st.und (by have := HG8.out; omega) (.int .i64 k.a) (.int .i64 k.b) (.int .i64 k.c) (.int .i64 k.d) (.int .i64 k.L) (.int .i64 k.x) (.int .i64 k.y) (.int .i64 k.kd) (.int .i64 k.n))
              clear r0 r1 r2 r3 r4 r5 r6 r7 r8 u8_0 u8_1 u8_2 u8_3 u8_4 u8_5 u8_6 u8_7 u8_8 f8_0 f8_1 f8_2 f8_3 f8_4 f8_5 f8_6 f8_7 f8_8
              generalize (((((((((w9.setCell ⟨p8, 0, none⟩ (.int .i64 k.a)).setCell ⟨p8, 1, none⟩ (.int .i64 k.b)).setCell ⟨p8, 2, none⟩ (.int .i64 k.c)).setCell ⟨p8, 3, none⟩ (.int .i64 k.d)).setCell ⟨p8, 4, none⟩ (.int .i64 k.L)).setCell ⟨p8, 5, none⟩ (.int .i64 k.x)).setCell ⟨p8, 6, none⟩ (.int .i64 k.y)).setCell ⟨p8, 7, none⟩ (.int .i64 k.kd)).setCell ⟨p8, 8, none⟩ (.int .i64 k.n)) = V8 at *
              have r0 : _ = some (Value.int .i64 k.a) := B8.out.cell 0
              have r1 : _ = some (Value.int .i64 k.b) := B8.out.cell 1
              have r2 : _ = some (Value.int .i64 k.c) := B8.out.cell 2
              have r3 : _ = some (Value.int .i64 k.d) := B8.out.cell 3
              have r4 : _ = some (Value.int .i64 k.L) := B8.out.cell 4
              have r5 : _ = some (Value.int .i64 k.x) := B8.out.cell 5
              have r6 : _ = some (Value.int .i64 k.y) := B8.out.cell 6
              have r7 : _ = some (Value.int .i64 k.kd) := B8.out.cell 7
              have r8 : _ = some (Value.int .i64 k.n) := B8.out.cell 8
              have u6_0 : _ = some (Value.int .i64 0) := B6.out.cell 0
              have u6_1 : _ = some (Value.int .i64 0) := B6.out.cell 1
              have u6_2 : _ = some (Value.int .i64 0) := B6.out.cell 2
              have u6_3 : _ = some (Value.int .i64 0) := B6.out.cell 3
              have u6_4 : _ = some (Value.int .i64 0) := B6.out.cell 4
              have u6_5 : _ = some (Value.int .i64 0) := B6.out.cell 5
              have u6_6 : _ = some (Value.int .i64 0) := B6.out.cell 6
              have u6_7 : _ = some (Value.int .i64 0) := B6.out.cell 7
              have u6_8 : _ = some (Value.int .i64 0) := B6.out.cell 8
              have f6_0 := B6.out.frozen 0
              have f6_1 := B6.out.frozen 1
              have f6_2 := B6.out.frozen 2
              have f6_3 := B6.out.frozen 3
              have f6_4 := B6.out.frozen 4
              have f6_5 := B6.out.frozen 5
              have f6_6 := B6.out.frozen 6
              have f6_7 := B6.out.frozen 7
              have f6_8 := B6.out.frozen 8
              have HB9 := Lib.hid (Below.nine9 (p := p6) BB.out (by have := HG6.out; omega) (.int .i64 k.a) (.int .i64 k.b) (.int .i64 k.c) (.int .i64 k.d) (.int .i64 k.L) (.int .i64 k.x) (.int .i64 k.y) (.int .i64 k.kd) (.int .i64 k.n))
              have HN9 := B6.out.nine9 (.int .i64 k.a) (.int .i64 k.b) (.int .i64 k.c) (.int .i64 k.d) (.int .i64 k.L) (.int .i64 k.x) (.int .i64 k.y) (.int .i64 k.kd) (.int .i64 k.n)
              have n9_0 : _ = some (Value.int .i64 k.a) := HN9.cell 0
              have n9_1 : _ = some (Value.int .i64 k.b) := HN9.cell 1
              have n9_2 : _ = some (Value.int .i64 k.c) := HN9.cell 2
              have n9_3 : _ = some (Value.int .i64 k.d) := HN9.cell 3
              have n9_4 : _ = some (Value.int .i64 k.L) := HN9.cell 4
              have n9_5 : _ = some (Value.int .i64 k.x) := HN9.cell 5
              have n9_6 : _ = some (Value.int .i64 k.y) := HN9.cell 6
              have n9_7 : _ = some (Value.int .i64 k.kd) := HN9.cell 7
              have n9_8 : _ = some (Value.int .i64 k.n) := HN9.cell 8
              clear HN9
              go_wp2_with fail
              (try rw [Exit.noGoto_ret])
              have e := HRES.out
              subst e
              refine bodyPost_ret (v := .tuple #[k.val, .int .i64 0]) ?_ rfl ⟨rfl, by subst hp3; exact HB9.out⟩
              simp [results, Try.results15, go_sem, *, Ck.val]
        · obtain rfl : m = TK.length := by omega
          have HFN := Lib.hid (firstK_none HNO.out)
          have x0 : wr.cell? ⟨p3, 0, none⟩ = some (.int .i64 (l : Int)) := HR.out.h3.cell 0
          have x1 : wr.cell? ⟨p3, 1, none⟩ = some (.int .i64 x) := HR.out.h3.cell 1
          have x2 : wr.cell? ⟨p3, 2, none⟩ = some (.int .i64 y') := HR.out.h3.cell 2
          have HPA := Lib.hid (cparent_any (l : Int) x y')
          go_wp2_with fail
          refine (HPA.out _).mono ?_
          rintro e w6 ⟨rfl, hb6⟩
          have HR6 := Lib.hid (HR.out.below hb6)
          clear hb6 x0 x1 x2
          have x0 : w6.cell? ⟨p3, 0, none⟩ = some (.int .i64 (l : Int)) := HR6.out.h3.cell 0
          have x1 : w6.cell? ⟨p3, 1, none⟩ = some (.int .i64 x) := HR6.out.h3.cell 1
          have x2 : w6.cell? ⟨p3, 2, none⟩ = some (.int .i64 y') := HR6.out.h3.cell 2
          have f0_ := HR6.out.h3.frozen 0
          have f1_ := HR6.out.h3.frozen 1
          have f2_ := HR6.out.h3.frozen 2
          have HSP := Lib.hid (HR6.out.par (HO.out p3 HG3.out) (by have := HG3.out; omega) (a0 (l : Int) x y' ((l : Int) - 1)) (a1 (l : Int) x y' ((l : Int) - 1)) (a2 (l : Int) x y' ((l : Int) - 1)))
          cases l with
          | zero =>
            have hbb : okA ((0 : Nat) : Int) x y' (((0 : Nat) : Int) - 1) = false := by rw [okA]; simp
            have HTN := Lib.hid (show T = none by
              have h2 := HSK.out
              rw [seekK, show triedK S 0 x y' = TK from hTK, HFN.out] at h2
              exact h2.symm)
            rw [hbb]
            go_wp2_with fail
            go_roundg 1
            case rel => exact ⟨rfl, false, 0, _, _, _, rfl, HSP, Lib.hid (fun h => by cases h), Lib.hid fun _ => ⟨HTN.out, rfl⟩⟩
            case measure => have := HGL.out; omega
          | succ l' =>
            have hL := (okC_16 _ _ _ HOC.out).2.1
            have hbb : okA ((l' + 1 : Nat) : Int) x y' (((l' + 1 : Nat) : Int) - 1) = true := by rw [okA, HOC.out]; simp; omega
            have e0 : a0 ((l' + 1 : Nat) : Int) x y' (((l' + 1 : Nat) : Int) - 1) = (l' : Int) := by rw [a0, if_pos hbb]; omega
            have e1 : a1 ((l' + 1 : Nat) : Int) x y' (((l' + 1 : Nat) : Int) - 1) = x / 2 := by rw [a1, if_pos hbb, show (((l' + 1 : Nat) : Int) - (((l' + 1 : Nat) : Int) - 1)).toNat = 1 by omega]; simp
            have e2 : a2 ((l' + 1 : Nat) : Int) x y' (((l' + 1 : Nat) : Int) - 1) = y' / 2 := by rw [a2, if_pos hbb, show (((l' + 1 : Nat) : Int) - (((l' + 1 : Nat) : Int) - 1)).toNat = 1 by omega]; simp
            have HTS := Lib.hid (show seekK S K A l' (x / 2) (y' / 2) = T by
              have h2 := HSK.out
              have h3 : triedK S ((l' : Int) + 1) x y' = TK := by rw [← hTK]; push_cast; rfl
              rw [seekK, h3, HFN.out] at h2
              exact h2)
            rw [e0, e1, e2] at HSP
            rw [hbb, e0, e1, e2]
            have HOC2 : Hid (okC (l' : Int) (x / 2) (y' / 2) = true) := Lib.hid (by
              have h := (okC_iff _ _ _).1 HOC.out
              rw [okC_iff]
              simp only [Int.toNat_natCast] at h ⊢
              rw [Int.pow_succ] at h
              omega)
            clear hbb e0 e1 e2 hL
            go_wp2_with fail
            go_roundg (l' + 2)
            case rel => exact ⟨rfl, true, l', _, _, _, rfl, HSP, Lib.hid (fun _ => ⟨rfl, HOC2.out, rfl, HTS.out⟩), Lib.hid (fun h => by cases h)⟩
            case measure => have := HGL.out; omega
end Go.Proofs.Ytipfhleedfbnaaa
