/- Texts: Po4. -/
import Derived.Test.YtkpmeelbjldcoaaGreatDoorZbPo3
import Derived.Deep.RegionLaw
import Derived.Deep.RegionHeld3
import Derived.RegionTactic
namespace Go.Proofs.YtkpmeelbjldcoaaGreatDoor
set_option linter.unusedVariables false
set_option linter.unusedSimpArgs false
open Go.RowKit
section
variable {α : Type} {E : El α}
theorem step_epush {w : World} {ops : Array Oper} {o : Oper} {a : Act} {K : Act → World → Prop} {Q : Exit → Act → World → Prop} {F : Prop} (hE : E.Ok) (hgd : o.guard = none) (s x : Operand) (t : TypeId)
    (ho : o.op = .call { callee := .builtin .append, args := #[s, x], argTypes := #[t, t] }) (ht : Tryz.prog.underlying t = some (.slice E.T)) (v : Value) (L : List α) (e : α) (b c : Nat) (hs : a.eval s = v) (hx : a.eval x = .slice (some ⟨b, 0, none⟩) 1 c)
    (h : EOwn E w v L) (h0 : ∀ j u, (E.enc e)[j]? = some u → w.cell? ⟨b, j, none⟩ = some u) (hl : L.length ≤ 1000000)
    (hK : ∀ v' w', EAppended E v (L ++ [e]) w v' w' → K (a.put o.dst v') w') : if Region.wanted o (yielded ops a.tmps) = true then Oper.wp Tryz.prog o a w K Q else F := by
  have hw : Region.wanted o (yielded ops a.tmps) = true := by simp [Region.wanted, hgd]
  rw [if_pos hw]
  exact wp_epush hE s x t ho ht v L e b c hs hx h h0 hl hK
theorem EOwn.alloc {w : World} {v : Value} {L : List α} (h : EOwn E w v L) (o : Obj) : EOwn E (w.alloc o) v L := h.below ((Below.refl _ _).alloc (Nat.le_refl _) _)
theorem EOwn.drew {w : World} {v : Value} {L : List α} (h : EOwn E w v L) : EOwn E w.drew v L := h
end
theorem new_cell_d (w : World) (cs : Array Value) (t : TypeId) (i : Nat) {v : Value} (h : cs[i]? = some v) : (w.alloc (.cells cs t)).drew.cell? ⟨w.heap.size, i, none⟩ = some v := new_cell w cs t i h
theorem cell_alloc {w : World} {a : Addr} {v : Value} (h : w.cell? a = some v) (o : Obj) : (w.alloc o).cell? a = some v := cell_later ((Below.refl _ _).alloc (Nat.le_refl _) _) h
theorem PRd.setFar {w : World} {r p o : Nat} {L : List Tk} {d : Dc} {bv : Value} (h : PRd w r L d bv) (hp : r < p) (v : Value) : PRd (w.setCell ⟨p, o, none⟩ v) r L d bv := by
  obtain ⟨lv, h1, A, c, rfl, h2, h3, h4⟩ := h
  refine ⟨_, h1.far (p := ⟨p, o, none⟩) (by show r ≠ p; omega) v, A, c, rfl, h2, h3, fun i x hx => ?_⟩
  obtain ⟨g, o', e, hg, hc⟩ := h4 i x hx
  exact ⟨g, o', e, hg, fun j u hu => cell_block (hc j u hu) fun hl => Below.heap_setCell w ⟨p, o, none⟩ v g (by show g ≠ p; omega)⟩
theorem Left.low {w w' : World} {r : Nat} {lv : Value} {L : List Tk} (h : Left w r lv L) (hk : ∀ k, k < r → w'.heap[k]? = w.heap[k]?) : Left w' r lv L := by
  obtain ⟨A, c, rfl, h2, h3, h4⟩ := h
  refine ⟨A, c, rfl, h2, h3, fun i x hx => ?_⟩
  obtain ⟨g, o', e, hg, hc⟩ := h4 i x hx
  exact ⟨g, o', e, hg, fun j u hu => cell_block (hc j u hu) fun hl => hk g hg⟩
def But2 (r p : Nat) (w w' : World) : Prop := ∀ a, But r a w → a.heap.size ≤ p → But r a w'
theorem pnum_box (w : World) (r : Nat) (L : List Tk) (d : Dc) (bv : Value) (p o : Nat) (cs : Array Value) (v0 : Value) (h : PRd w r L d bv) (hB : Blk w p 70 cs) (hc : cs[o]? = some v0) (hrp : r < p) :
    Calls Tryz.prog 148 #[ptr r, ptrAt p o] w fun e w' => e = .returned (.bool (kindB 3 L)) ∧ PRd w' r (kindL 3 L) d bv ∧ Blk w' p 70 (cs.set! o (.int .i64 (kindT 3 L).n)) ∧ But2 r p w w' := by
  refine (pnum_any w r L d bv p o v0 h (by rw [hB.cell]; exact hc) (hB.frozen o) (fun e => absurd e (by omega))).mono ?_
  rintro e w' ⟨W, ob, rfl, hP, hBt, rfl⟩
  refine ⟨rfl, (hP.setFar hrp _).alloc _, Blk.thru0 ((hB.but hBt (by omega)).set_ o _) ((Below.refl _ _).alloc (Nat.le_refl _) _), fun a ha hs => ((ha.trans hBt).setNew hs _).alloc _⟩
/-- The reader, whose declaration is that of d, with the boxes acc. -/
structure BxSt (w : World) (r : Nat) (L0 : List Tk) (d : Dc) (g : Nat) (L : List Tk) (acc : List Bx) (bv : Value) (wr : World) : Prop where
  rd : PRd wr r L { d with bx := acc } bv
  own : EOwn elR wr bv acc
  far : ∀ i, bv.ownBlock = some i → w.heap.size ≤ i
  but : But r w wr
  few : acc.length + L.length ≤ L0.length
  eq : boxesF (L0.length + 1) L0 [] = boxesF g L acc
  fuel : L.length < g
/-- What a part of the reader answers and leaves, the boxes in a row of their own. -/
def BodyP (w : World) (r : Nat) (a : Bool × PS) (e : Ending) (w' : World) : Prop :=
  ∃ bv', e = .returned (.bool a.1) ∧ PRd w' r a.2.1 a.2.2 bv' ∧ EOwn elR w' bv' a.2.2.bx ∧ (∀ i, bv'.ownBlock = some i → w.heap.size ≤ i) ∧ But r w w'
theorem kind_cons {k : Int} {L : List Tk} (h : kindB k L = true) : L.tail.length + 1 = L.length := by
  cases L with
  | nil => simp [kindB] at h
  | cons x L => simp
theorem takes_cons {s : Bs} {L : List Tk} (h : takesB s L = true) : L.tail.length + 1 = L.length := by
  cases L with
  | nil => simp [takesB] at h
  | cons x L => simp
set_option maxRecDepth 100000 in
set_option maxHeartbeats 4000000 in
theorem pboxes_any (w : World) (r : Nat) (L0 : List Tk) (d : Dc) (h : PRd w r L0 d (.slice none 0 0)) (hbx : d.bx = []) (hl : L0.length ≤ 100000) :
    Calls Tryz.prog 124 #[ptr r] w (BodyP w r (boxesM (L0, d))) := by
  have HST := Lib.hid (show BxSt w r L0 d (L0.length + 1) L0 [] (.slice none 0 0) w from ⟨by rw [← hbx]; exact h, EOwn.nil_ w, fun i hi => by simp [Value.ownBlock] at hi, But.refl r w, by simp, rfl, Nat.lt_succ_self _⟩)
  have HRL := Lib.hid (show r < w.heap.size by obtain ⟨lv, h1, _⟩ := h; exact h1.lt)
  have HM := Lib.hid (show boxesM (L0, d) = ((boxesF (L0.length + 1) L0 []).1, ((boxesF (L0.length + 1) L0 []).2.1, { d with bx := (boxesF (L0.length + 1) L0 []).2.2 })) by simp only [boxesM, hbx])
  have HLN := Lib.hid hl
  clear h hbx hl
  go_enter Tryz.func124, Tryz.ntmps124
  go_wp2_with fail
  go_loopg [3] (L0.length + 1) (fun g b wr => ∃ (L : List Tk) (acc : List Bx) (bv : Value), Hid (BxSt w r L0 d g L acc bv wr))
  case atStart => exact ⟨L0, [], _, HST⟩
  case round =>
    clear HST
    obtain ⟨L, acc, bv, HS⟩ := hrel
    have HP0 := Lib.hid (HS.out.rd.alloc (.cells #[.int .i64 0, .int .i64 0, .int .i64 0, .int .i64 0] 70))
    have HX0 := Lib.hid (Blk.new wr 70 #[.int .i64 0, .int .i64 0, .int .i64 0, .int .i64 0])
    have HB0 := Lib.hid (((But.refl r wr)).alloc (.cells #[.int .i64 0, .int .i64 0, .int .i64 0, .int .i64 0] 70))
    have HRW := Lib.hid (show r < wr.heap.size by have := HRL.out; have := HS.out.but.size; omega)
    obtain ⟨g', hg⟩ : ∃ g', gk = g' + 1 := ⟨gk - 1, by have := HS.out.fuel; omega⟩
    subst hg
    generalize hp : wr.heap.size = p at *
    go_wp2_with fail

    cases K0 : kindB 3 L with
    | false =>
      have HFL := Lib.hid (show boxesF (g' + 1) L acc = (false, L, acc) by simp [boxesF, fourB, fourL, K0])
      have hN := pnum_box _ r L { d with bx := acc } bv p 0 _ (.int .i64 0) HP0.out HX0.out rfl HRW.out
      rw [kindL_f K0, K0] at hN
      have HN := Lib.hid hN
      clear hN
      refine HN.out.mono ?_
      rintro e W1 ⟨rfl, hP, hX, hB⟩
      have HP1 := Lib.hid hP
      have HX1 := Lib.hid hX
      have HB1 := Lib.hid (hB _ HB0.out (Nat.le_of_eq hp))
      clear hP hX hB HN
      go_wp2_with fail
      go_ret
      rw [HM.out, HS.out.eq, HFL.out]
      exact ⟨bv, rfl, HP1.out, HS.out.own.but HB1.out (fun i hi => by have := HS.out.far i hi; have := HRL.out; omega), HS.out.far, HS.out.but.trans HB1.out⟩
    | true =>
    cases K1 : kindB 3 L.tail with
    | false =>
      have HFL := Lib.hid (show boxesF (g' + 1) L acc = (false, L.tail, acc) by simp [boxesF, fourB, fourL, K0, K1])
      have hN := pnum_box _ r L { d with bx := acc } bv p 0 _ (.int .i64 0) HP0.out HX0.out rfl HRW.out
      rw [kindL_t K0, K0] at hN
      have HN := Lib.hid hN
      clear hN
      refine HN.out.mono ?_
      rintro e W1 ⟨rfl, hP, hX, hB⟩
      have HP1 := Lib.hid hP
      have HX1 := Lib.hid hX
      have HB1 := Lib.hid (hB _ HB0.out (Nat.le_of_eq hp))
      clear hP hX hB HN
      go_wp2_with fail
      have hN := pnum_box _ r L.tail { d with bx := acc } bv p 1 _ (.int .i64 0) HP1.out HX1.out rfl HRW.out
      rw [kindL_f K1, K1] at hN
      have HN := Lib.hid hN
      clear hN
      refine HN.out.mono ?_
      rintro e W2 ⟨rfl, hP, hX, hB⟩
      have HP2 := Lib.hid hP
      have HX2 := Lib.hid hX
      have HB2 := Lib.hid (hB _ HB1.out (Nat.le_of_eq hp))
      clear hP hX hB HN
      go_wp2_with fail
      go_ret
      rw [HM.out, HS.out.eq, HFL.out]
      exact ⟨bv, rfl, HP2.out, HS.out.own.but HB2.out (fun i hi => by have := HS.out.far i hi; have := HRL.out; omega), HS.out.far, HS.out.but.trans HB2.out⟩
    | true =>
    cases K2 : kindB 3 L.tail.tail with
    | false =>
      have HFL := Lib.hid (show boxesF (g' + 1) L acc = (false, L.tail.tail, acc) by simp [boxesF, fourB, fourL, K0, K1, K2])
      have hN := pnum_box _ r L { d with bx := acc } bv p 0 _ (.int .i64 0) HP0.out HX0.out rfl HRW.out
      rw [kindL_t K0, K0] at hN
      have HN := Lib.hid hN
      clear hN
      refine HN.out.mono ?_
      rintro e W1 ⟨rfl, hP, hX, hB⟩
      have HP1 := Lib.hid hP
      have HX1 := Lib.hid hX
      have HB1 := Lib.hid (hB _ HB0.out (Nat.le_of_eq hp))
      clear hP hX hB HN
      go_wp2_with fail
      have hN := pnum_box _ r L.tail { d with bx := acc } bv p 1 _ (.int .i64 0) HP1.out HX1.out rfl HRW.out
      rw [kindL_t K1, K1] at hN
      have HN := Lib.hid hN
      clear hN
      refine HN.out.mono ?_
      rintro e W2 ⟨rfl, hP, hX, hB⟩
      have HP2 := Lib.hid hP
      have HX2 := Lib.hid hX
      have HB2 := Lib.hid (hB _ HB1.out (Nat.le_of_eq hp))
      clear hP hX hB HN
      go_wp2_with fail
      have hN := pnum_box _ r L.tail.tail { d with bx := acc } bv p 2 _ (.int .i64 0) HP2.out HX2.out rfl HRW.out
      rw [kindL_f K2, K2] at hN
      have HN := Lib.hid hN
      clear hN
      refine HN.out.mono ?_
      rintro e W3 ⟨rfl, hP, hX, hB⟩
      have HP3 := Lib.hid hP
      have HX3 := Lib.hid hX
      have HB3 := Lib.hid (hB _ HB2.out (Nat.le_of_eq hp))
      clear hP hX hB HN
      go_wp2_with fail
      go_ret
      rw [HM.out, HS.out.eq, HFL.out]
      exact ⟨bv, rfl, HP3.out, HS.out.own.but HB3.out (fun i hi => by have := HS.out.far i hi; have := HRL.out; omega), HS.out.far, HS.out.but.trans HB3.out⟩
    | true =>
    cases K3 : kindB 3 L.tail.tail.tail with
    | false =>
      have HFL := Lib.hid (show boxesF (g' + 1) L acc = (false, L.tail.tail.tail, acc) by simp [boxesF, fourB, fourL, K0, K1, K2, K3, kindL_f K3])
      have hN := pnum_box _ r L { d with bx := acc } bv p 0 _ (.int .i64 0) HP0.out HX0.out rfl HRW.out
      rw [kindL_t K0, K0] at hN
      have HN := Lib.hid hN
      clear hN
      refine HN.out.mono ?_
      rintro e W1 ⟨rfl, hP, hX, hB⟩
      have HP1 := Lib.hid hP
      have HX1 := Lib.hid hX
      have HB1 := Lib.hid (hB _ HB0.out (Nat.le_of_eq hp))
      clear hP hX hB HN
      go_wp2_with fail
      have hN := pnum_box _ r L.tail { d with bx := acc } bv p 1 _ (.int .i64 0) HP1.out HX1.out rfl HRW.out
      rw [kindL_t K1, K1] at hN
      have HN := Lib.hid hN
      clear hN
      refine HN.out.mono ?_
      rintro e W2 ⟨rfl, hP, hX, hB⟩
      have HP2 := Lib.hid hP
      have HX2 := Lib.hid hX
      have HB2 := Lib.hid (hB _ HB1.out (Nat.le_of_eq hp))
      clear hP hX hB HN
      go_wp2_with fail
      have hN := pnum_box _ r L.tail.tail { d with bx := acc } bv p 2 _ (.int .i64 0) HP2.out HX2.out rfl HRW.out
      rw [kindL_t K2, K2] at hN
      have HN := Lib.hid hN
      clear hN
      refine HN.out.mono ?_
      rintro e W3 ⟨rfl, hP, hX, hB⟩
      have HP3 := Lib.hid hP
      have HX3 := Lib.hid hX
      have HB3 := Lib.hid (hB _ HB2.out (Nat.le_of_eq hp))
      clear hP hX hB HN
      go_wp2_with fail
      have hN := pnum_box _ r L.tail.tail.tail { d with bx := acc } bv p 3 _ (.int .i64 0) HP3.out HX3.out rfl HRW.out
      rw [kindL_f K3, K3] at hN
      have HN := Lib.hid hN
      clear hN
      refine HN.out.mono ?_
      rintro e W4 ⟨rfl, hP, hX, hB⟩
      have HP4 := Lib.hid hP
      have HX4 := Lib.hid hX
      have HB4 := Lib.hid (hB _ HB3.out (Nat.le_of_eq hp))
      clear hP hX hB HN
      go_wp2_with fail
      go_ret
      rw [HM.out, HS.out.eq, HFL.out]
      exact ⟨bv, rfl, HP4.out, HS.out.own.but HB4.out (fun i hi => by have := HS.out.far i hi; have := HRL.out; omega), HS.out.far, HS.out.but.trans HB4.out⟩
    | true =>
      have hN := pnum_box _ r L { d with bx := acc } bv p 0 _ (.int .i64 0) HP0.out HX0.out rfl HRW.out
      rw [kindL_t K0, K0] at hN
      have HN := Lib.hid hN
      clear hN
      refine HN.out.mono ?_
      rintro e W1 ⟨rfl, hP, hX, hB⟩
      have HP1 := Lib.hid hP
      have HX1 := Lib.hid hX
      have HB1 := Lib.hid (hB _ HB0.out (Nat.le_of_eq hp))
      clear hP hX hB HN
      go_wp2_with fail
      have hN := pnum_box _ r L.tail { d with bx := acc } bv p 1 _ (.int .i64 0) HP1.out HX1.out rfl HRW.out
      rw [kindL_t K1, K1] at hN
      have HN := Lib.hid hN
      clear hN
      refine HN.out.mono ?_
      rintro e W2 ⟨rfl, hP, hX, hB⟩
      have HP2 := Lib.hid hP
      have HX2 := Lib.hid hX
      have HB2 := Lib.hid (hB _ HB1.out (Nat.le_of_eq hp))
      clear hP hX hB HN
      go_wp2_with fail
      have hN := pnum_box _ r L.tail.tail { d with bx := acc } bv p 2 _ (.int .i64 0) HP2.out HX2.out rfl HRW.out
      rw [kindL_t K2, K2] at hN
      have HN := Lib.hid hN
      clear hN
      refine HN.out.mono ?_
      rintro e W3 ⟨rfl, hP, hX, hB⟩
      have HP3 := Lib.hid hP
      have HX3 := Lib.hid hX
      have HB3 := Lib.hid (hB _ HB2.out (Nat.le_of_eq hp))
      clear hP hX hB HN
      go_wp2_with fail
      have hN := pnum_box _ r L.tail.tail.tail { d with bx := acc } bv p 3 _ (.int .i64 0) HP3.out HX3.out rfl HRW.out
      rw [kindL_t K3, K3] at hN
      have HN := Lib.hid hN
      clear hN
      refine HN.out.mono ?_
      rintro e W4 ⟨rfl, hP, hX, hB⟩
      have HP4 := Lib.hid hP
      have HX4 := Lib.hid hX
      have HB4 := Lib.hid (hB _ HB3.out (Nat.le_of_eq hp))
      clear hP hX hB HN
      have HXX := Lib.hid (show Blk W4 p 70 #[.int .i64 (kindT 3 L).n, .int .i64 (kindT 3 L.tail).n, .int .i64 (kindT 3 L.tail.tail).n, .int .i64 (kindT 3 L.tail.tail.tail).n] from HX4.out)
      have HOW := Lib.hid (HS.out.own.but HB4.out (fun i hi => by have := HS.out.far i hi; have := HRL.out; omega))
      have HNE := Lib.hid (show some r ≠ bv.ownBlock from fun e => by have := HS.out.far r e.symm; have := HRL.out; omega)
      have HNP := Lib.hid (show some p ≠ bv.ownBlock from fun e => by have := HS.out.own.lt e.symm; omega)
      have HAC := Lib.hid (show acc.length ≤ 1000000 by have := HS.out.few; have := HLN.out; omega)
      obtain ⟨A0, c0, rfl, hc1, hc2⟩ := HS.out.own.slice
      obtain ⟨lv4, hK, hL⟩ := HP4.out
      have HK := Lib.hid hK
      have HLF := Lib.hid hL
      have k4 := Blk.cell hK 4
      have f4 := hK.frozen 4
      simp only [rcells] at k4
      simp only [List.getElem?_toArray, List.getElem?_cons_zero, List.getElem?_cons_succ] at k4
      have e0 := HXX.out.cell 0
      have e1 := HXX.out.cell 1
      have e2 := HXX.out.cell 2
      have e3 := HXX.out.cell 3
      simp only [List.getElem?_toArray, List.getElem?_cons_zero, List.getElem?_cons_succ] at e0 e1 e2 e3
      clear hK hL HX0 HX1 HX2 HX3 HX4 HP0 HP1 HP2 HP3 HB0 HB1 HB2 HB3
      have HFR := Lib.hid (show ∀ i, (Value.slice A0 acc.length c0).ownBlock = some i → w.heap.size ≤ i from HS.out.far)
      have zr := World.new_ne W4 _ k4
      have zr2 := HK.out.lt
      have zp := World.new_ne W4 _ e0
      have zp2 := HXX.out.lt
      have kx := cell_alloc k4 (.cells #[.int .i64 (kindT 3 L).n, .int .i64 (kindT 3 L.tail).n, .int .i64 (kindT 3 L.tail.tail).n, .int .i64 (kindT 3 L.tail.tail.tail).n] 70)
      go_wp2_with fail
      go_region_law ((refine step_epush elR_ok rfl (.tmp 31) (.tmp 33) _ rfl (by kernel_rfl) (.slice A0 acc.length c0) acc ⟨(kindT 3 L).n, (kindT 3 L.tail).n, (kindT 3 L.tail.tail).n, (kindT 3 L.tail.tail.tail).n⟩ W4.heap.size 1 (by simp [Act.eval, Act.put]) (by simp [Act.eval, Act.put]) (by first | exact (HOW.out.alloc _).drew | exact HOW.out.alloc _) (fun j u hu => by first | exact new_cell_d _ _ _ j (by simpa [elR] using hu) | exact new_cell _ _ _ j (by simpa [elR] using hu)) HAC.out ?_; rintro v' w' ⟨g, cap, rfl, hrow, hgr, hor⟩; have HB2 := Lib.hid ((HK.out.alloc (.cells #[.int .i64 (kindT 3 L).n, .int .i64 (kindT 3 L.tail).n, .int .i64 (kindT 3 L.tail.tail).n, .int .i64 (kindT 3 L.tail.tail.tail).n] 70)).drew.grown hgr HNE.out); have kk4 := HB2.out.cell 4; have ff4 := HB2.out.frozen 4; simp only [rcells] at kk4; simp only [List.getElem?_toArray, List.getElem?_cons_zero, List.getElem?_cons_succ] at kk4; have HROW := Lib.hid hrow; have HGR := Lib.hid hgr; have HOR := Lib.hid hor; clear hrow hgr hor))
      all_goals
        have hrg : r ≠ g := by
          obtain ⟨cur, h9, _⟩ := HROW.out
          exact Blk.ne_ HB2.out h9 (by decide)
        have hll : (acc ++ [(⟨(kindT 3 L).n, (kindT 3 L.tail).n, (kindT 3 L.tail.tail).n, (kindT 3 L.tail.tail.tail).n⟩ : Bx)]).length = acc.length + 1 := by simp
        have hP5 : PRd (w'.setCell ⟨r, 4, none⟩ (.slice (some ⟨g, 0, none⟩) (acc.length + 1) cap)) r L.tail.tail.tail.tail { d with bx := acc ++ [(⟨(kindT 3 L).n, (kindT 3 L.tail).n, (kindT 3 L.tail.tail).n, (kindT 3 L.tail.tail.tail).n⟩ : Bx)] } (.slice (some ⟨g, 0, none⟩) (acc.length + 1) cap) := by
          refine ⟨lv4, rset HB2.out 4 _ rfl, HLF.out.low fun k hk => ?_⟩
          rw [Below.heap_setCell _ _ _ _ (by show k ≠ r; omega), HGR.out.block k (by simp; omega) (fun e => by have := HFR.out k e.symm; have := HRL.out; omega)]
          exact Below.heap_alloc W4 _ k (by omega)
        have hO5 : EOwn elR (w'.setCell ⟨r, 4, none⟩ (.slice (some ⟨g, 0, none⟩) (acc.length + 1) cap)) (.slice (some ⟨g, 0, none⟩) (acc.length + 1) cap) (acc ++ [(⟨(kindT 3 L).n, (kindT 3 L.tail).n, (kindT 3 L.tail.tail).n, (kindT 3 L.tail.tail.tail).n⟩ : Bx)]) := .inr ⟨g, cap, by rw [hll], HROW.out.keep (Below.heap_setCell _ _ _ _ (fun e => hrg e.symm))⟩
        have hF5 : ∀ i, (Value.slice (some ⟨g, 0, none⟩) (acc.length + 1) cap).ownBlock = some i → w.heap.size ≤ i := by
          intro i hi
          simp [Value.ownBlock] at hi
          subst hi
          rcases HOR.out with h9 | h9
          · exact HFR.out _ h9
          · rw [h9]
            have := HS.out.but.size
            have := HB4.out.size
            simp
            omega
        have hB5 : But r w (w'.setCell ⟨r, 4, none⟩ (.slice (some ⟨g, 0, none⟩) (acc.length + 1) cap)) := by
          have h9 := HGR.out
          have hb := HS.out.but.trans HB4.out
          refine But.trans (b := w') ⟨h9.os.trans hb.os, h9.tape.trans hb.tape, h9.output.trans hb.output, ?_, fun i hi hr => ?_⟩ (But.set _ _ _)
          · have a1 := h9.size
            have a2 := hb.size
            simp at a1
            omega
          · have hi2 : i < W4.heap.size := Nat.lt_of_lt_of_le hi hb.size
            rw [h9.block i (by simp; omega) (fun e => by have := HFR.out i e.symm; omega)]
            exact (Below.heap_alloc W4 _ i hi2).trans (hb.block i hi hr)
        have HP5 := Lib.hid hP5
        have HO5 := Lib.hid hO5
        have HF5 := Lib.hid hF5
        have HB5 := Lib.hid hB5
        clear hP5 hO5 hF5 hB5 HB2 kk4 ff4 HROW HGR HOR e0 e1 e2 e3 k4 f4 kx zr zr2 zp zp2 HK HLF HOW HXX HNE HNP HP4 HB4 hc1 hc2
        have hfew := HS.out.few
        have hfuel := HS.out.fuel
        have hk0 := kind_cons K0
        have hk1 := kind_cons K1
        have hk2 := kind_cons K2
        have hk3 := kind_cons K3
        generalize (w'.setCell ⟨r, 4, none⟩ (.slice (some ⟨g, 0, none⟩) (acc.length + 1) cap)) = W5 at *
        cases hT : takesB mAnd L.tail.tail.tail.tail with
        | true =>
          have hq : boxesF (g' + 1) L acc = boxesF g' L.tail.tail.tail.tail.tail (acc ++ [(⟨(kindT 3 L).n, (kindT 3 L.tail).n, (kindT 3 L.tail.tail).n, (kindT 3 L.tail.tail.tail).n⟩ : Bx)]) := by simp [boxesF, fourB, fourL, fourV, K0, K1, K2, K3, kindL_t K3, hT]
          have hTK := takes_any W5 r L.tail.tail.tail.tail { d with bx := acc ++ [(⟨(kindT 3 L).n, (kindT 3 L.tail).n, (kindT 3 L.tail.tail).n, (kindT 3 L.tail.tail.tail).n⟩ : Bx)] } _ mAnd HP5.out
          rw [takesL_t hT, hT] at hTK
          have HTK := Lib.hid hTK
          have HQ := Lib.hid hq
          have HSZ := Lib.hid (takes_cons hT)
          clear hTK hq hT
          go_wp2_with fail
          refine HTK.out.mono ?_
          rintro e W6 ⟨rfl, hP6, hB6⟩
          have HN6 := Lib.hid (show BxSt w r L0 d g' L.tail.tail.tail.tail.tail (acc ++ [(⟨(kindT 3 L).n, (kindT 3 L.tail).n, (kindT 3 L.tail.tail).n, (kindT 3 L.tail.tail.tail).n⟩ : Bx)]) _ W6 from ⟨hP6, HO5.out.but hB6 (fun i hi => by have := HF5.out i hi; have := HRL.out; omega), HF5.out, HB5.out.trans hB6, by have := HSZ.out; rw [hll]; omega, HS.out.eq.trans HQ.out, by have := HSZ.out; omega⟩)
          clear hP6 hB6 HTK
          go_wp2_with fail
          go_roundg g'
          case rel => exact ⟨_, _, _, HN6⟩
          case measure => omega
        | false =>
          have hq : boxesF (g' + 1) L acc = (true, L.tail.tail.tail.tail, acc ++ [(⟨(kindT 3 L).n, (kindT 3 L.tail).n, (kindT 3 L.tail.tail).n, (kindT 3 L.tail.tail.tail).n⟩ : Bx)]) := by simp [boxesF, fourB, fourL, fourV, K0, K1, K2, K3, kindL_t K3, hT]
          have hTK := takes_any W5 r L.tail.tail.tail.tail { d with bx := acc ++ [(⟨(kindT 3 L).n, (kindT 3 L.tail).n, (kindT 3 L.tail.tail).n, (kindT 3 L.tail.tail.tail).n⟩ : Bx)] } _ mAnd HP5.out
          rw [takesL_f hT, hT] at hTK
          have HTK := Lib.hid hTK
          have HQ := Lib.hid hq
          clear hTK hq hT
          go_wp2_with fail
          refine HTK.out.mono ?_
          rintro e W6 ⟨rfl, hP6, hB6⟩
          have HP6 := Lib.hid hP6
          have HB6 := Lib.hid hB6
          clear hP6 hB6 HTK
          go_wp2_with fail
          go_ret
          rw [HM.out, HS.out.eq, HQ.out]
          exact ⟨_, rfl, HP6.out, HO5.out.but HB6.out (fun i hi => by have := HF5.out i hi; have := HRL.out; omega), HF5.out, HB5.out.trans HB6.out⟩
end Go.Proofs.YtkpmeelbjldcoaaGreatDoor
