/- lex: take, by contract, with each method that is handed on. -/
import Derived.Test.YtileecbccmfpdaaGreatDoorLxRow
namespace Go.Proofs.YtileecbccmfpdaaGreatDoor
set_option linter.unusedVariables false
set_option linter.unusedSimpArgs false
open Go.RowKit
def TakeP (r : Nat) (a l : Bs) (p : Pl) (w : World) (e : Ending) (w' : World) : Prop :=
  e = .returned (.string (bs a)) ∧ RdS w' r l (advs p a) ∧ But r w w'
theorem span_on {f : UInt8 → Bool} {l : Bs} (h : on f l = true) : ∃ c l', l = c :: l' ∧ f c = true := by
  cases l with
  | nil => cases h
  | cons c l => exact ⟨c, l, rfl, h⟩
theorem span_off {f : UInt8 → Bool} {l : Bs} (h : on f l = false) : l.takeWhile f = [] ∧ l.dropWhile f = l := by
  cases l with
  | nil => exact ⟨rfl, rfl⟩
  | cons c l =>
    have hc : ¬ f c = true := by simpa [on] using h
    exact ⟨List.takeWhile_cons_of_neg hc, List.dropWhile_cons_of_neg hc⟩
theorem But.appended {α : Type} {E : El α} {r : Nat} {w0 w w' : World} {v v' : Value} {L : List α} (hb : But r w0 w) (h : EAppended E v L w v' w') (hv : ∀ i, v.ownBlock = some i → w0.heap.size ≤ i) : But r w0 w' := by
  have h0 := h.below0
  refine ⟨h0.os.trans hb.os, h0.tape.trans hb.tape, h0.output.trans hb.output, Nat.le_trans hb.size h0.size, fun k hk hr => ?_⟩
  exact (h.keep (by have := hb.size; omega) (fun e => by have := hv k e; omega)).trans (hb.block k hk hr)
theorem new_cell (w : World) (cs : Array Value) (t : TypeId) (i : Nat) {v : Value} (h : cs[i]? = some v) : (w.alloc (.cells cs t)).cell? ⟨w.heap.size, i, none⟩ = some v := by rw [(Blk.new w t cs).cell]; exact h
def lenOf : Value → Nat
  | .slice _ n _ => n
  | _ => 0
theorem But.grown {r : Nat} {w w' : World} {row : Option Nat} (h : w.grownBy w' row) : (∀ i, row = some i → False) → But r w w' := fun hr =>
  But.of_below ((Below.refl w.heap.size w).grown h (Nat.le_refl _) (fun i hi => (hr i hi).elim))
/-- take's rounds: what was taken, what is left. -/
structure TkSt (w0 : World) (r : Nat) (l0 : Bs) (p0 : Pl) (v : Value) (a l : Bs) (W : World) : Prop where
  eq : l0 = a ++ l
  rd : RdS W r l (advs p0 a)
  own : EOwn elB W v a
  far : ∀ i, v.ownBlock = some i → w0.heap.size ≤ i
  but : But r w0 W
set_option maxHeartbeats 4000000 in
theorem take_blank (w : World) (r : Nat) (l : Bs) (p : Pl) (h : RdS w r l p) (hp : OkP l p) :
    Calls Tryz.prog 70 #[.pointer (some ⟨r, 0, none⟩), .func (.func 71) #[.pointer (some ⟨r, 0, none⟩)] #[]] w fun e w' => TakeP r (l.takeWhile isBl) (l.dropWhile isBl) p w e w' := by
  have HP := Lib.hid hp
  have hrl : r < w.heap.size := Blk.lt h
  have HS0 := Lib.hid (show TkSt w r l p (.slice none 0 0) [] l w from ⟨rfl, h, EOwn.nil_ w, fun i hi => by simp [Value.ownBlock] at hi, But.refl r w⟩)
  have HRL := Lib.hid hrl
  clear h hp hrl
  go_enter Tryz.func70, Tryz.ntmps70
  go_wp2_with fail
  go_loopw [5] (fun v wr => ∃ a k, Hid (TkSt w r l p v a k wr ∧ a ++ k.takeWhile isBl = l.takeWhile isBl ∧ k.dropWhile isBl = l.dropWhile isBl)) (fun v _ => 600 - lenOf v)
  case atStart => exact ⟨[], l, Lib.hid ⟨HS0.out, rfl, rfl⟩⟩
  case round =>
    rename_i v wr
    obtain ⟨a, k, HS⟩ := hrel
    have HB := Lib.hid (blank_any wr r k (advs p a) HS.out.1.rd)
    cases hon : on isBl k with
    | false =>
      rw [hon] at HB
      obtain ⟨e1, e2⟩ := span_off hon
      clear hon
      have HA := Lib.hid (show l.takeWhile isBl = a by have := HS.out.2.1; rw [e1, List.append_nil] at this; exact this.symm)
      have HD := Lib.hid (show l.dropWhile isBl = k by have := HS.out.2.2; rw [e2] at this; exact this.symm)
      clear e1 e2
      have hcv := convert_own HS.out.1.own 63 (by kernel_rfl) 9 (by kernel_rfl)
      go_wp2_with ((go_at_call 71; refine HB.out.mono ?_; rintro e w9 ⟨rfl, hw9⟩; subst hw9))
      go_ret
      unfold TakeP
      rw [HA.out, HD.out]
      exact ⟨rfl, HS.out.1.rd, HS.out.1.but⟩
    | true =>
      rw [hon] at HB
      obtain ⟨c, k', rfl, hc⟩ := span_on hon
      clear hon
      have HPK := Lib.hid (show OkP (c :: k') (advs p a) by have := HP.out; rw [HS.out.1.eq] at this; exact OkP.steps this)
      have HST := Lib.hid (step_any wr r c k' (advs p a) HS.out.1.rd HPK.out)
      have HT := Lib.hid (show a ++ [c] ++ k'.takeWhile isBl = l.takeWhile isBl by have := HS.out.2.1; rw [List.takeWhile_cons_of_pos hc] at this; rw [List.append_assoc]; exact this)
      have HD := Lib.hid (show k'.dropWhile isBl = l.dropWhile isBl by have := HS.out.2.2; rw [List.dropWhile_cons_of_pos hc] at this; exact this)
      unfold StepP at HST
      have hcv : (c.toNat : Int) < 256 := by have := c.toNat_lt; omega
      have HLN := Lib.hid (show a.length < 512 by have := HP.out.1; rw [HS.out.1.eq] at this; simp at this; omega)
      go_wp2_with fail
      refine HB.out.mono ?_
      rintro e w9 ⟨rfl, hw9⟩
      subst hw9
      go_wp2_with fail
      refine HST.out.mono ?_
      rintro e w1 ⟨rfl, hrd1, hbut1⟩
      have HRD1 := Lib.hid hrd1
      have HBUT1 := Lib.hid hbut1
      have HOW1 := Lib.hid (HS.out.1.own.but hbut1 (fun i hi => by have := HS.out.1.far i hi; have := HRL.out; omega))
      have HFAR := Lib.hid HS.out.1.far
      have HLT1 := Lib.hid (fun i hi => HOW1.out.lt (i := i) hi)
      clear hrd1 hbut1
      go_wp2_with ((at_builtin; refine wpList_epush elB_ok rfl _ _ 63 rfl (by kernel_rfl) _ a c w1.heap.size 1 rfl rfl (HOW1.out.below ((Below.refl _ _).alloc (Nat.le_refl _) _)) (fun j u hu => by (have hj : j = 0 := by (have := (List.getElem?_eq_some_iff.1 hu).1; simp [elB] at this; omega)); subst hj; simp [elB] at hu; subst hu; exact new_cell w1 _ _ 0 rfl) (by have := HLN.out; omega) ?_; intro v' w2 hA))
      go_roundw
      case rel =>
        refine ⟨a ++ [c], k', Lib.hid ⟨⟨?_, ?_, hA.own, ?_, ?_⟩, HT.out, HD.out⟩⟩
        · rw [HS.out.1.eq]; simp
        · have hra := HRD1.out.below ((Below.refl w1.heap.size w1).alloc (Nat.le_refl _) (.cells #[.int .u8 (c.toNat : Int)] 5))
          rw [advs_app]
          exact (hA.keep (Blk.lt hra) (fun e => by have := HFAR.out _ e; have := HRL.out; omega)).trans hra
        · refine hA.far ?_ HFAR.out
          have := HS.out.1.but.size; have := HBUT1.out.size; simp; omega
        · exact But.appended ((HS.out.1.but.trans HBUT1.out).trans (But.of_below ((Below.refl _ _).alloc (Nat.le_refl _) _))) hA HFAR.out
      case measure =>
        obtain ⟨A1, c1, rfl, _⟩ := HS.out.1.own.slice
        obtain ⟨g, cap, rfl, _⟩ := hA
        have := HLN.out
        simp [lenOf]; omega
set_option maxHeartbeats 4000000 in
theorem take_ofLine (w : World) (r : Nat) (l : Bs) (p : Pl) (h : RdS w r l p) (hp : OkP l p) :
    Calls Tryz.prog 70 #[.pointer (some ⟨r, 0, none⟩), .func (.func 73) #[.pointer (some ⟨r, 0, none⟩)] #[]] w fun e w' => TakeP r (l.takeWhile ofLn) (l.dropWhile ofLn) p w e w' := by
  have HP := Lib.hid hp
  have hrl : r < w.heap.size := Blk.lt h
  have HS0 := Lib.hid (show TkSt w r l p (.slice none 0 0) [] l w from ⟨rfl, h, EOwn.nil_ w, fun i hi => by simp [Value.ownBlock] at hi, But.refl r w⟩)
  have HRL := Lib.hid hrl
  clear h hp hrl
  go_enter Tryz.func70, Tryz.ntmps70
  go_wp2_with fail
  go_loopw [5] (fun v wr => ∃ a k, Hid (TkSt w r l p v a k wr ∧ a ++ k.takeWhile ofLn = l.takeWhile ofLn ∧ k.dropWhile ofLn = l.dropWhile ofLn)) (fun v _ => 600 - lenOf v)
  case atStart => exact ⟨[], l, Lib.hid ⟨HS0.out, rfl, rfl⟩⟩
  case round =>
    rename_i v wr
    obtain ⟨a, k, HS⟩ := hrel
    have HB := Lib.hid (ofLine_any wr r k (advs p a) HS.out.1.rd)
    cases hon : on ofLn k with
    | false =>
      rw [hon] at HB
      obtain ⟨e1, e2⟩ := span_off hon
      clear hon
      have HA := Lib.hid (show l.takeWhile ofLn = a by have := HS.out.2.1; rw [e1, List.append_nil] at this; exact this.symm)
      have HD := Lib.hid (show l.dropWhile ofLn = k by have := HS.out.2.2; rw [e2] at this; exact this.symm)
      clear e1 e2
      have hcv := convert_own HS.out.1.own 63 (by kernel_rfl) 9 (by kernel_rfl)
      go_wp2_with ((go_at_call 73; refine HB.out.mono ?_; rintro e w9 ⟨rfl, hw9⟩; subst hw9))
      go_ret
      unfold TakeP
      rw [HA.out, HD.out]
      exact ⟨rfl, HS.out.1.rd, HS.out.1.but⟩
    | true =>
      rw [hon] at HB
      obtain ⟨c, k', rfl, hc⟩ := span_on hon
      clear hon
      have HPK := Lib.hid (show OkP (c :: k') (advs p a) by have := HP.out; rw [HS.out.1.eq] at this; exact OkP.steps this)
      have HST := Lib.hid (step_any wr r c k' (advs p a) HS.out.1.rd HPK.out)
      have HT := Lib.hid (show a ++ [c] ++ k'.takeWhile ofLn = l.takeWhile ofLn by have := HS.out.2.1; rw [List.takeWhile_cons_of_pos hc] at this; rw [List.append_assoc]; exact this)
      have HD := Lib.hid (show k'.dropWhile ofLn = l.dropWhile ofLn by have := HS.out.2.2; rw [List.dropWhile_cons_of_pos hc] at this; exact this)
      unfold StepP at HST
      have hcv : (c.toNat : Int) < 256 := by have := c.toNat_lt; omega
      have HLN := Lib.hid (show a.length < 512 by have := HP.out.1; rw [HS.out.1.eq] at this; simp at this; omega)
      go_wp2_with fail
      refine HB.out.mono ?_
      rintro e w9 ⟨rfl, hw9⟩
      subst hw9
      go_wp2_with fail
      refine HST.out.mono ?_
      rintro e w1 ⟨rfl, hrd1, hbut1⟩
      have HRD1 := Lib.hid hrd1
      have HBUT1 := Lib.hid hbut1
      have HOW1 := Lib.hid (HS.out.1.own.but hbut1 (fun i hi => by have := HS.out.1.far i hi; have := HRL.out; omega))
      have HFAR := Lib.hid HS.out.1.far
      have HLT1 := Lib.hid (fun i hi => HOW1.out.lt (i := i) hi)
      clear hrd1 hbut1
      go_wp2_with ((at_builtin; refine wpList_epush elB_ok rfl _ _ 63 rfl (by kernel_rfl) _ a c w1.heap.size 1 rfl rfl (HOW1.out.below ((Below.refl _ _).alloc (Nat.le_refl _) _)) (fun j u hu => by (have hj : j = 0 := by (have := (List.getElem?_eq_some_iff.1 hu).1; simp [elB] at this; omega)); subst hj; simp [elB] at hu; subst hu; exact new_cell w1 _ _ 0 rfl) (by have := HLN.out; omega) ?_; intro v' w2 hA))
      go_roundw
      case rel =>
        refine ⟨a ++ [c], k', Lib.hid ⟨⟨?_, ?_, hA.own, ?_, ?_⟩, HT.out, HD.out⟩⟩
        · rw [HS.out.1.eq]; simp
        · have hra := HRD1.out.below ((Below.refl w1.heap.size w1).alloc (Nat.le_refl _) (.cells #[.int .u8 (c.toNat : Int)] 5))
          rw [advs_app]
          exact (hA.keep (Blk.lt hra) (fun e => by have := HFAR.out _ e; have := HRL.out; omega)).trans hra
        · refine hA.far ?_ HFAR.out
          have := HS.out.1.but.size; have := HBUT1.out.size; simp; omega
        · exact But.appended ((HS.out.1.but.trans HBUT1.out).trans (But.of_below ((Below.refl _ _).alloc (Nat.le_refl _) _))) hA HFAR.out
      case measure =>
        obtain ⟨A1, c1, rfl, _⟩ := HS.out.1.own.slice
        obtain ⟨g, cap, rfl, _⟩ := hA
        have := HLN.out
        simp [lenOf]; omega
set_option maxHeartbeats 4000000 in
theorem take_ofName (w : World) (r : Nat) (l : Bs) (p : Pl) (h : RdS w r l p) (hp : OkP l p) :
    Calls Tryz.prog 70 #[.pointer (some ⟨r, 0, none⟩), .func (.func 76) #[.pointer (some ⟨r, 0, none⟩)] #[]] w fun e w' => TakeP r (l.takeWhile ofNm) (l.dropWhile ofNm) p w e w' := by
  have HP := Lib.hid hp
  have hrl : r < w.heap.size := Blk.lt h
  have HS0 := Lib.hid (show TkSt w r l p (.slice none 0 0) [] l w from ⟨rfl, h, EOwn.nil_ w, fun i hi => by simp [Value.ownBlock] at hi, But.refl r w⟩)
  have HRL := Lib.hid hrl
  clear h hp hrl
  go_enter Tryz.func70, Tryz.ntmps70
  go_wp2_with fail
  go_loopw [5] (fun v wr => ∃ a k, Hid (TkSt w r l p v a k wr ∧ a ++ k.takeWhile ofNm = l.takeWhile ofNm ∧ k.dropWhile ofNm = l.dropWhile ofNm)) (fun v _ => 600 - lenOf v)
  case atStart => exact ⟨[], l, Lib.hid ⟨HS0.out, rfl, rfl⟩⟩
  case round =>
    rename_i v wr
    obtain ⟨a, k, HS⟩ := hrel
    have HB := Lib.hid (ofName_any wr r k (advs p a) HS.out.1.rd)
    cases hon : on ofNm k with
    | false =>
      rw [hon] at HB
      obtain ⟨e1, e2⟩ := span_off hon
      clear hon
      have HA := Lib.hid (show l.takeWhile ofNm = a by have := HS.out.2.1; rw [e1, List.append_nil] at this; exact this.symm)
      have HD := Lib.hid (show l.dropWhile ofNm = k by have := HS.out.2.2; rw [e2] at this; exact this.symm)
      clear e1 e2
      have hcv := convert_own HS.out.1.own 63 (by kernel_rfl) 9 (by kernel_rfl)
      go_wp2_with ((go_at_call 76; refine HB.out.mono ?_; rintro e w9 ⟨rfl, hw9⟩; subst hw9))
      go_ret
      unfold TakeP
      rw [HA.out, HD.out]
      exact ⟨rfl, HS.out.1.rd, HS.out.1.but⟩
    | true =>
      rw [hon] at HB
      obtain ⟨c, k', rfl, hc⟩ := span_on hon
      clear hon
      have HPK := Lib.hid (show OkP (c :: k') (advs p a) by have := HP.out; rw [HS.out.1.eq] at this; exact OkP.steps this)
      have HST := Lib.hid (step_any wr r c k' (advs p a) HS.out.1.rd HPK.out)
      have HT := Lib.hid (show a ++ [c] ++ k'.takeWhile ofNm = l.takeWhile ofNm by have := HS.out.2.1; rw [List.takeWhile_cons_of_pos hc] at this; rw [List.append_assoc]; exact this)
      have HD := Lib.hid (show k'.dropWhile ofNm = l.dropWhile ofNm by have := HS.out.2.2; rw [List.dropWhile_cons_of_pos hc] at this; exact this)
      unfold StepP at HST
      have hcv : (c.toNat : Int) < 256 := by have := c.toNat_lt; omega
      have HLN := Lib.hid (show a.length < 512 by have := HP.out.1; rw [HS.out.1.eq] at this; simp at this; omega)
      go_wp2_with fail
      refine HB.out.mono ?_
      rintro e w9 ⟨rfl, hw9⟩
      subst hw9
      go_wp2_with fail
      refine HST.out.mono ?_
      rintro e w1 ⟨rfl, hrd1, hbut1⟩
      have HRD1 := Lib.hid hrd1
      have HBUT1 := Lib.hid hbut1
      have HOW1 := Lib.hid (HS.out.1.own.but hbut1 (fun i hi => by have := HS.out.1.far i hi; have := HRL.out; omega))
      have HFAR := Lib.hid HS.out.1.far
      have HLT1 := Lib.hid (fun i hi => HOW1.out.lt (i := i) hi)
      clear hrd1 hbut1
      go_wp2_with ((at_builtin; refine wpList_epush elB_ok rfl _ _ 63 rfl (by kernel_rfl) _ a c w1.heap.size 1 rfl rfl (HOW1.out.below ((Below.refl _ _).alloc (Nat.le_refl _) _)) (fun j u hu => by (have hj : j = 0 := by (have := (List.getElem?_eq_some_iff.1 hu).1; simp [elB] at this; omega)); subst hj; simp [elB] at hu; subst hu; exact new_cell w1 _ _ 0 rfl) (by have := HLN.out; omega) ?_; intro v' w2 hA))
      go_roundw
      case rel =>
        refine ⟨a ++ [c], k', Lib.hid ⟨⟨?_, ?_, hA.own, ?_, ?_⟩, HT.out, HD.out⟩⟩
        · rw [HS.out.1.eq]; simp
        · have hra := HRD1.out.below ((Below.refl w1.heap.size w1).alloc (Nat.le_refl _) (.cells #[.int .u8 (c.toNat : Int)] 5))
          rw [advs_app]
          exact (hA.keep (Blk.lt hra) (fun e => by have := HFAR.out _ e; have := HRL.out; omega)).trans hra
        · refine hA.far ?_ HFAR.out
          have := HS.out.1.but.size; have := HBUT1.out.size; simp; omega
        · exact But.appended ((HS.out.1.but.trans HBUT1.out).trans (But.of_below ((Below.refl _ _).alloc (Nat.le_refl _) _))) hA HFAR.out
      case measure =>
        obtain ⟨A1, c1, rfl, _⟩ := HS.out.1.own.slice
        obtain ⟨g, cap, rfl, _⟩ := hA
        have := HLN.out
        simp [lenOf]; omega
set_option maxHeartbeats 4000000 in
theorem take_digit (w : World) (r : Nat) (l : Bs) (p : Pl) (h : RdS w r l p) (hp : OkP l p) :
    Calls Tryz.prog 70 #[.pointer (some ⟨r, 0, none⟩), .func (.func 77) #[.pointer (some ⟨r, 0, none⟩)] #[]] w fun e w' => TakeP r (l.takeWhile isDg) (l.dropWhile isDg) p w e w' := by
  have HP := Lib.hid hp
  have hrl : r < w.heap.size := Blk.lt h
  have HS0 := Lib.hid (show TkSt w r l p (.slice none 0 0) [] l w from ⟨rfl, h, EOwn.nil_ w, fun i hi => by simp [Value.ownBlock] at hi, But.refl r w⟩)
  have HRL := Lib.hid hrl
  clear h hp hrl
  go_enter Tryz.func70, Tryz.ntmps70
  go_wp2_with fail
  go_loopw [5] (fun v wr => ∃ a k, Hid (TkSt w r l p v a k wr ∧ a ++ k.takeWhile isDg = l.takeWhile isDg ∧ k.dropWhile isDg = l.dropWhile isDg)) (fun v _ => 600 - lenOf v)
  case atStart => exact ⟨[], l, Lib.hid ⟨HS0.out, rfl, rfl⟩⟩
  case round =>
    rename_i v wr
    obtain ⟨a, k, HS⟩ := hrel
    have HB := Lib.hid (digit_any wr r k (advs p a) HS.out.1.rd)
    cases hon : on isDg k with
    | false =>
      rw [hon] at HB
      obtain ⟨e1, e2⟩ := span_off hon
      clear hon
      have HA := Lib.hid (show l.takeWhile isDg = a by have := HS.out.2.1; rw [e1, List.append_nil] at this; exact this.symm)
      have HD := Lib.hid (show l.dropWhile isDg = k by have := HS.out.2.2; rw [e2] at this; exact this.symm)
      clear e1 e2
      have hcv := convert_own HS.out.1.own 63 (by kernel_rfl) 9 (by kernel_rfl)
      go_wp2_with ((go_at_call 77; refine HB.out.mono ?_; rintro e w9 ⟨rfl, hw9⟩; subst hw9))
      go_ret
      unfold TakeP
      rw [HA.out, HD.out]
      exact ⟨rfl, HS.out.1.rd, HS.out.1.but⟩
    | true =>
      rw [hon] at HB
      obtain ⟨c, k', rfl, hc⟩ := span_on hon
      clear hon
      have HPK := Lib.hid (show OkP (c :: k') (advs p a) by have := HP.out; rw [HS.out.1.eq] at this; exact OkP.steps this)
      have HST := Lib.hid (step_any wr r c k' (advs p a) HS.out.1.rd HPK.out)
      have HT := Lib.hid (show a ++ [c] ++ k'.takeWhile isDg = l.takeWhile isDg by have := HS.out.2.1; rw [List.takeWhile_cons_of_pos hc] at this; rw [List.append_assoc]; exact this)
      have HD := Lib.hid (show k'.dropWhile isDg = l.dropWhile isDg by have := HS.out.2.2; rw [List.dropWhile_cons_of_pos hc] at this; exact this)
      unfold StepP at HST
      have hcv : (c.toNat : Int) < 256 := by have := c.toNat_lt; omega
      have HLN := Lib.hid (show a.length < 512 by have := HP.out.1; rw [HS.out.1.eq] at this; simp at this; omega)
      go_wp2_with fail
      refine HB.out.mono ?_
      rintro e w9 ⟨rfl, hw9⟩
      subst hw9
      go_wp2_with fail
      refine HST.out.mono ?_
      rintro e w1 ⟨rfl, hrd1, hbut1⟩
      have HRD1 := Lib.hid hrd1
      have HBUT1 := Lib.hid hbut1
      have HOW1 := Lib.hid (HS.out.1.own.but hbut1 (fun i hi => by have := HS.out.1.far i hi; have := HRL.out; omega))
      have HFAR := Lib.hid HS.out.1.far
      have HLT1 := Lib.hid (fun i hi => HOW1.out.lt (i := i) hi)
      clear hrd1 hbut1
      go_wp2_with ((at_builtin; refine wpList_epush elB_ok rfl _ _ 63 rfl (by kernel_rfl) _ a c w1.heap.size 1 rfl rfl (HOW1.out.below ((Below.refl _ _).alloc (Nat.le_refl _) _)) (fun j u hu => by (have hj : j = 0 := by (have := (List.getElem?_eq_some_iff.1 hu).1; simp [elB] at this; omega)); subst hj; simp [elB] at hu; subst hu; exact new_cell w1 _ _ 0 rfl) (by have := HLN.out; omega) ?_; intro v' w2 hA))
      go_roundw
      case rel =>
        refine ⟨a ++ [c], k', Lib.hid ⟨⟨?_, ?_, hA.own, ?_, ?_⟩, HT.out, HD.out⟩⟩
        · rw [HS.out.1.eq]; simp
        · have hra := HRD1.out.below ((Below.refl w1.heap.size w1).alloc (Nat.le_refl _) (.cells #[.int .u8 (c.toNat : Int)] 5))
          rw [advs_app]
          exact (hA.keep (Blk.lt hra) (fun e => by have := HFAR.out _ e; have := HRL.out; omega)).trans hra
        · refine hA.far ?_ HFAR.out
          have := HS.out.1.but.size; have := HBUT1.out.size; simp; omega
        · exact But.appended ((HS.out.1.but.trans HBUT1.out).trans (But.of_below ((Below.refl _ _).alloc (Nat.le_refl _) _))) hA HFAR.out
      case measure =>
        obtain ⟨A1, c1, rfl, _⟩ := HS.out.1.own.slice
        obtain ⟨g, cap, rfl, _⟩ := hA
        have := HLN.out
        simp [lenOf]; omega
end Go.Proofs.YtileecbccmfpdaaGreatDoor
