/- reply: a reader of bytes: cut, numbers, by contract. -/
import Derived.Test.YtmapcdmegkfheaaZbRe15
import Derived.Test.YtmapcdmegkfheaaZbGet
import Derived.Test.YtmapcdmegkfheaaZbLxSpecM
namespace Go.Proofs.Ytmapcdmegkfheaa
set_option linter.unusedVariables false
set_option linter.unusedSimpArgs false
open Go.RowKit
abbrev TRs : TypeId := 78
abbrev ptrR (q : Nat) : Value := .pointer (some ⟨q, 0, none⟩)
/-- The bytes R are still to be read at q; they lie below B. -/
structure RS (B q : Nat) (R : Bs) (w : World) : Prop where
  hq : B ≤ q
  st : ∃ A c, Blk w q TRs #[.slice A R.length c] ∧ R.length ≤ c ∧ c ≤ maxLen ∧ Reads w B 1 A R.length (bv R)
theorem RS.lt {B q : Nat} {R : Bs} {w : World} (h : RS B q R w) : q < w.heap.size := by obtain ⟨A, c, hb, _⟩ := h.st; exact hb.lt
theorem RS.below {B q : Nat} {R : Bs} {w w' : World} (h : RS B q R w) (hb : Below w.heap.size w w') : RS B q R w' := by
  have hl := h.lt
  have hB := h.hq
  obtain ⟨A, c, h1, h2, h3, h4⟩ := h.st
  exact ⟨hB, A, c, h1.thru0 hb, h2, h3, h4.below (hb.mono (by omega))⟩
theorem RS.far {B q g o : Nat} {R : Bs} {w : World} (h : RS B q R w) (hg : B ≤ g) (hn : q ≠ g) (u : Value) : RS B q R (w.setCell ⟨g, o, none⟩ u) := by
  obtain ⟨A, c, h1, h2, h3, h4⟩ := h.st
  exact ⟨h.hq, A, c, h1.far (p := ⟨g, o, none⟩) hn u, h2, h3, h4.setCell (p := ⟨g, o, none⟩) hg u⟩
/-- Only the blocks of S have turned, and none is new. -/
structure Nf (S : List Nat) (w w' : World) : Prop where
  os : w'.os = w.os
  tape : w'.tape = w.tape
  output : w'.output = w.output
  size : w'.heap.size = w.heap.size
  block : ∀ i, i ∉ S → w'.heap[i]? = w.heap[i]?
theorem Nf.refl (S : List Nat) (w : World) : Nf S w w := ⟨rfl, rfl, rfl, rfl, fun _ _ => rfl⟩
theorem Nf.trans {S : List Nat} {a b c : World} (h : Nf S a b) (k : Nf S b c) : Nf S a c := ⟨k.os.trans h.os, k.tape.trans h.tape, k.output.trans h.output, k.size.trans h.size, fun i hi => (k.block i hi).trans (h.block i hi)⟩
theorem Nf.set {S : List Nat} {g : Nat} (w : World) (o : Nat) (v : Value) (hg : g ∈ S) : Nf S w (w.setCell ⟨g, o, none⟩ v) := ⟨rfl, rfl, rfl, by simp, fun i hi => Below.heap_setCell w ⟨g, o, none⟩ v i (fun e => hi (by have e2 : i = g := e; rw [e2]; exact hg))⟩
theorem Nf.blk {S : List Nat} {w w' : World} {g : Nat} {t : TypeId} {cs : Array Value} (h : Nf S w w') (hb : Blk w g t cs) (hg : g ∉ S) : Blk w' g t cs := (h.block g hg).trans hb
theorem Nf.below {S : List Nat} {B : Nat} {a w w' : World} (h : Nf S w w') (hb : Below B a w) (hS : ∀ i ∈ S, B ≤ i) : Below B a w' :=
  ⟨h.os.trans hb.os, h.tape.trans hb.tape, h.output.trans hb.output, by rw [h.size]; exact hb.size, fun i hi => (h.block i (fun hm => by have := hS i hm; omega)).trans (hb.block i hi)⟩
theorem Nf.rs {S : List Nat} {B q : Nat} {R : Bs} {w w' : World} (h : Nf S w w') (hr : RS B q R w) (hS : ∀ i ∈ S, B ≤ i) (hq : q ∉ S) : RS B q R w' := by
  obtain ⟨A, c, h1, h2, h3, h4⟩ := hr.st
  exact ⟨hr.hq, A, c, h.blk h1 hq, h2, h3, h4.below (h.below (Below.refl _ _) hS)⟩
theorem Nf.but {S : List Nat} {q : Nat} {a w w' : World} (h : Nf S w w') (hb : But q a w) (hS : ∀ i ∈ S, i = q ∨ a.heap.size ≤ i) : But q a w' :=
  ⟨h.os.trans hb.os, h.tape.trans hb.tape, h.output.trans hb.output, by rw [h.size]; exact hb.size, fun i hi hn => (h.block i (fun hm => by have := hS i hm; omega)).trans (hb.block i hi hn)⟩
/-- The first k bytes of those that are still to be read. -/
def CutP (B q k : Nat) (R : Bs) (w : World) (e : Ending) (w' : World) : Prop :=
  ∃ A, e = .returned (.slice A k k) ∧ Reads w B 1 A k (bv (R.take k)) ∧ RS B q (R.drop k) w' ∧ ∃ v, w' = w.setCell ⟨q, 0, none⟩ v
set_option maxHeartbeats 2000000 in
theorem rcut_any {B q : Nat} {R : Bs} (w : World) (k : Nat) (h : RS B q R w) (hk : k ≤ R.length) :
    Calls Try.prog 54 #[ptrR q, .int .i64 (k : Int)] w fun e w' => CutP B q k R w e w' := by
  obtain ⟨A, c, h1, hlc, hcm, hrd⟩ := h.st
  have k0 := h1.cell 0
  have f0 := h1.frozen 0
  simp only [List.getElem?_toArray, List.getElem?_cons_zero, List.getElem?_cons_succ] at k0
  have H1 := Lib.hid h1
  have HQ := Lib.hid h.hq
  have HRD := Lib.hid hrd
  unfold maxLen at hcm
  have HC := Lib.hid hcm
  clear h1 h hrd
  have HE : ∀ (A2 : Option Addr) (m : Nat), m = R.length - k → A2 = (if c = k then A else A.map (·.add (k * 1))) → CutP B q k R w (.returned (.slice A k k)) (w.setCell ⟨q, 0, none⟩ (.slice A2 m (c - k))) := by
    intro A2 m hm hA2
    refine ⟨A, rfl, by rw [bv_take]; exact reads_take HRD.out hk, ⟨HQ.out, A2, c - k, ?_, ?_, ?_, ?_⟩, _, rfl⟩
    · have hl : (R.drop k).length = m := by rw [List.length_drop]; omega
      rw [hl]
      have := H1.out.set_ 0 (.slice A2 m (c - k))
      simpa using this
    · rw [List.length_drop]; omega
    · have := HC.out; simp only [maxLen] at *; omega
    · have hl : (R.drop k).length = R.length - k := List.length_drop ..
      rw [hl, bv_drop, hA2]
      have h9 := HRD.out.cut hk hlc
      simp only [Nat.mul_one] at h9 ⊢
      exact h9.setCell (p := ⟨q, 0, none⟩) HQ.out _
  have HE := Lib.hid HE
  have hki : (k : Int) ≤ (R.length : Int) := by omega
  by_cases hck : c = k
  · have hlk : R.length = k := by omega
    have HLK := Lib.hid hlk
    have HCK := Lib.hid hck
    subst hck
    rw [hlk] at k0
    clear hlk hlc hki
    go_enter Try.func54, Try.ntmps54
    go_wp2_with fail
    go_ret
    have := HE.out A 0 (by have := HLK.out; omega) (by simp)
    simpa using this
  · have hck2 : k < c := by omega
    go_enter Try.func54, Try.ntmps54
    go_wp2_with fail
    go_ret
    have := HE.out (A.map (·.add k)) (R.length - k) rfl (by rw [if_neg hck]; simp)
    simpa using this
/-- The first k bytes of those that are still to be read, or as many as there are. -/
def CutL (B q k : Nat) (R : Bs) (w : World) (e : Ending) (w' : World) : Prop :=
  ∃ A, e = .returned (.slice A (R.take k).length (R.take k).length) ∧ Reads w B 1 A (R.take k).length (bv (R.take k)) ∧ RS B q (R.drop k) w' ∧ ∃ v, w' = w.setCell ⟨q, 0, none⟩ v
set_option maxHeartbeats 2000000 in
theorem rcut_lo {B q : Nat} {R : Bs} (w : World) (k : Nat) (h : RS B q R w) (h9 : k ≤ 1000) :
    Calls Try.prog 54 #[ptrR q, .int .i64 (k : Int)] w fun e w' => CutL B q k R w e w' := by
  by_cases hk : k ≤ R.length
  · have hl : (R.take k).length = k := by rw [List.length_take]; omega
    unfold CutL
    rw [hl]
    exact rcut_any w k h hk
  · have hlt : R.length < k := by omega
    have ht : R.take k = R := List.take_of_length_le (by omega)
    have hd : R.drop k = [] := List.drop_of_length_le (by omega)
    obtain ⟨A, c, h1, hlc, hcm, hrd⟩ := h.st
    have k0 := h1.cell 0
    have f0 := h1.frozen 0
    simp only [List.getElem?_toArray, List.getElem?_cons_zero, List.getElem?_cons_succ] at k0
    have H1 := Lib.hid h1
    have HQ := Lib.hid h.hq
    have HRD := Lib.hid hrd
    unfold maxLen at hcm
    have HC := Lib.hid hcm
    clear h1 h hrd
    have HE : ∀ (A2 : Option Addr) (c2 : Nat), c2 ≤ 9223372036854775807 → CutL B q k R w (.returned (.slice A R.length R.length)) (w.setCell ⟨q, 0, none⟩ (.slice A2 0 c2)) := by
      intro A2 c2 hc2
      unfold CutL
      rw [ht, hd]
      refine ⟨A, rfl, HRD.out, ⟨HQ.out, A2, c2, ?_, Nat.zero_le _, by simp only [maxLen]; omega, ⟨by simp [bv_length], fun h => by simp at h⟩⟩, _, rfl⟩
      have := H1.out.set_ 0 (.slice A2 0 c2)
      simpa using this
    have HE := Lib.hid HE
    have hki : ¬ (k : Int) ≤ (R.length : Int) := by omega
    have hkj : (R.length : Int) ≤ (k : Int) := by omega
    have hkl : (R.length : Int) < (k : Int) := by omega
    clear ht hd hk
    generalize hrl : R.length = rl at *
    clear hrl
    by_cases hck : c = rl
    · subst hck
      clear hlc
      go_enter Try.func54, Try.ntmps54
      go_wp2_with fail
      go_ret
      have := HE.out A 0 (by omega)
      simpa using this
    · have hck2 : rl < c := by omega
      go_enter Try.func54, Try.ntmps54
      go_wp2_with fail
      go_ret
      have := HE.out (A.map (·.add rl)) (c - rl) (by have := HC.out; omega)
      simpa using this
/-- Get of whatever bytes; none have 0. -/
theorem get_lo (A : Option Addr) (n c : Nat) (xs : Bs) (w : World) (ha : RB w A n xs) (hn : n ≤ 8) :
    Calls Try.prog 53 #[.slice A n c] w fun e w' => ∃ er : Int, e = .returned (.tuple #[.int .u64 (getB xs : Nat), .int .i64 er]) ∧ w = w' := by
  by_cases h1 : 1 ≤ n
  · exact (get_any A n c xs w ha h1 hn).mono fun e w' h => ⟨0, h⟩
  · have h0 : n = 0 := by omega
    subst h0
    have hx : xs = [] := List.eq_nil_of_length_eq_zero ha.len
    subst hx
    exact (get_bad A 0 c w (by omega) (by decide)).mono fun e w' h => ⟨1, h⟩
theorem get_small {L : Bs} {k : Nat} (hk : k ≤ 4) : getB (L.take k) ≤ 4294967295 := by
  have h1 := getB_lt (L.take k)
  have h2 : (256 : Nat) ^ ((L.take k).length) ≤ 256 ^ 4 := Nat.pow_le_pow_right (by omega) (by rw [List.length_take]; omega)
  have h3 : (256 : Nat) ^ 4 = 4294967296 := by decide
  omega
set_option maxRecDepth 100000 in
set_option maxHeartbeats 4000000 in
theorem nums_a {B q : Nat} {R : Bs} (w : World) (k rg c : Nat) (g o0 : Nat) (Tg : TypeId) (cg : Array Value) (hk1 : 1 ≤ k) (hk4 : k ≤ 4) (hr : RS B q R w) (hw : Blk w rg 80 #[.pointer (some ⟨g, o0, none⟩)]) (hwB : B ≤ rg) (hwq : rg ≠ q) (Hg : Blk w g Tg cg) (Bg : B ≤ g) (Ng : g ≠ q) (Mg : rg ≠ g) (z0 : o0 < cg.size) :
    Calls Try.prog 52 #[ptrR q, .int .i64 (k : Int), .slice (some ⟨rg, 0, none⟩) 1 c] w fun e w' => e = .returned (.tuple #[]) ∧ RS B q (R.drop k) w' ∧ Blk w' g Tg (cg.setIfInBounds o0 (.int .i64 ((getB ((R).take k) : Nat) : Int))) ∧ Nf [q, g] w w' := by
  have HR0 := Lib.hid hr
  have HW0 := Lib.hid hw
  have HK1 := Lib.hid hk1
  have HK4 := Lib.hid hk4
  have HWB := Lib.hid hwB
  have HWQ := Lib.hid hwq
  have HBW : Hid (B ≤ w.heap.size) := Lib.hid (by have := hr.lt; have := hr.hq; omega)
  have HNF0 := Lib.hid (Nf.refl [q, g] w)
  have Hg0 := Lib.hid Hg
  have Ng9 := Lib.hid Ng
  have Mg9 := Lib.hid Mg
  have Bg9 := Lib.hid Bg
  have z09 := Lib.hid z0
  clear hr hw hk1 hk4 hwB hwq Hg Ng Mg Bg  z0
  go_enter Try.func52, Try.ntmps52
  go_wp2_with fail
  refine wp_loop_rounds 2 ?_
  have kp := HW0.out.cell 0
  simp only [List.getElem?_toArray, List.getElem?_cons_zero, List.getElem?_cons_succ] at kp
  have HCT := Lib.hid (rcut_lo w k HR0.out (by have := HK4.out; omega))
  unfold CutL at HCT
  have HTK : Hid (((R).take k).length ≤ k) := Lib.hid (by rw [List.length_take]; omega)
  generalize hkk : ((R).take k).length = kk at *
  clear hkk
  rw [rounds_succ]
  go_wp2_with fail
  refine HCT.out.mono ?_
  rintro e v1 ⟨A1, rfl, hrd, hrs, u1, hu1⟩
  have HRD := Lib.hid hrd
  have HRS := Lib.hid hrs
  have HNF := Lib.hid (HNF0.out.trans (show Nf [q, g] w v1 by rw [hu1]; exact Nf.set _ _ _ (by simp)))
  have HWX := Lib.hid (show Blk v1 rg 80 _ by rw [hu1]; exact HW0.out.far (p := ⟨q, 0, none⟩) HWQ.out _)
  have HXg := Lib.hid (show Blk v1 g Tg _ by rw [hu1]; exact Hg0.out.far (p := ⟨q, 0, none⟩) Ng9.out _)
  have HRB : Hid (RB v1 A1 kk ((R).take k)) := Lib.hid (by
    have h9 : Reads v1 B 1 A1 kk (bv ((R).take k)) := by rw [hu1]; exact HRD.out.setCell (p := ⟨q, 0, none⟩) HRS.out.hq _
    exact h9.more (by rw [HNF.out.size]; exact HBW.out))
  have HSM := Lib.hid (get_small (L := R) HK4.out)
  clear hrd hrs hu1 kp
  have hcs : ∃ y, cg[o0]? = some y := ⟨_, Array.getElem?_eq_getElem (by (try simp only [Array.size_setIfInBounds]); exact z09.out)⟩
  obtain ⟨y1, hy1⟩ := hcs
  have kx := HXg.out.cell o0
  rw [hy1] at kx
  have fx := HXg.out.frozen o0
  have HGT := Lib.hid (get_lo A1 kk kk ((R).take k) v1 HRB.out (by have := HK4.out; have := HTK.out; omega))
  have HR1 := Lib.hid (HRS.out.far (g := g) (o := o0) Bg9.out (Ne.symm Ng9.out) (.int .i64 ((getB ((R).take k) : Nat) : Int)))
  have HW1 := Lib.hid (HWX.out.far (p := ⟨g, o0, none⟩) Mg9.out (.int .i64 ((getB ((R).take k) : Nat) : Int)))
  have HNF1 := Lib.hid (HNF.out.trans (Nf.set (g := g) (S := [q, g]) v1 o0 (.int .i64 ((getB ((R).take k) : Nat) : Int)) (by simp)))
  have Hg1 := Lib.hid (HXg.out.set_ o0 (.int .i64 ((getB ((R).take k) : Nat) : Int)))
  clear HRS HNF HWX HRB HRD HCT HXg
  generalize hm1 : getB ((R).take k) = m1 at *
  have HM1 := Lib.hid hm1
  clear hm1
  have hm9 := HSM.out
  have wi1 : IntKind.i64.wrap (m1 : Int) = (m1 : Int) := by rw [IntKind.wrap_i64]; omega
  clear HSM
  go_wp2_with fail
  refine HGT.out.mono ?_
  rintro e vg ⟨er, rfl, hvg⟩
  subst hvg
  go_wp2_with fail
  clear kx fx hy1 HGT hm9 wi1 HTK
  generalize v1.setCell ⟨g, o0, none⟩ (.int .i64 (m1 : Int)) = w1 at *
  rw [rounds_succ]
  go_wp2_with fail
  go_end0
  refine ⟨rfl, HR1.out, ?_, HNF1.out⟩
  · have h9 := Hg1.out
    simp only [← HM1.out] at h9 ⊢
    exact h9
set_option maxRecDepth 100000 in
set_option maxHeartbeats 4000000 in
theorem nums_aa {B q : Nat} {R : Bs} (w : World) (k rg c : Nat) (g o0 o1 : Nat) (Tg : TypeId) (cg : Array Value) (hk1 : 1 ≤ k) (hk4 : k ≤ 4) (hr : RS B q R w) (hw : Blk w rg 80 #[.pointer (some ⟨g, o0, none⟩), .pointer (some ⟨g, o1, none⟩)]) (hwB : B ≤ rg) (hwq : rg ≠ q) (Hg : Blk w g Tg cg) (Bg : B ≤ g) (Ng : g ≠ q) (Mg : rg ≠ g) (z0 : o0 < cg.size) (z1 : o1 < cg.size) :
    Calls Try.prog 52 #[ptrR q, .int .i64 (k : Int), .slice (some ⟨rg, 0, none⟩) 2 c] w fun e w' => e = .returned (.tuple #[]) ∧ RS B q ((R.drop k).drop k) w' ∧ Blk w' g Tg ((cg.setIfInBounds o0 (.int .i64 ((getB ((R).take k) : Nat) : Int))).setIfInBounds o1 (.int .i64 ((getB ((R.drop k).take k) : Nat) : Int))) ∧ Nf [q, g] w w' := by
  have HR0 := Lib.hid hr
  have HW0 := Lib.hid hw
  have HK1 := Lib.hid hk1
  have HK4 := Lib.hid hk4
  have HWB := Lib.hid hwB
  have HWQ := Lib.hid hwq
  have HBW : Hid (B ≤ w.heap.size) := Lib.hid (by have := hr.lt; have := hr.hq; omega)
  have HNF0 := Lib.hid (Nf.refl [q, g] w)
  have Hg0 := Lib.hid Hg
  have Ng9 := Lib.hid Ng
  have Mg9 := Lib.hid Mg
  have Bg9 := Lib.hid Bg
  have z09 := Lib.hid z0
  have z19 := Lib.hid z1
  clear hr hw hk1 hk4 hwB hwq Hg Ng Mg Bg  z0 z1
  go_enter Try.func52, Try.ntmps52
  go_wp2_with fail
  refine wp_loop_rounds 3 ?_
  have kp := HW0.out.cell 0
  simp only [List.getElem?_toArray, List.getElem?_cons_zero, List.getElem?_cons_succ] at kp
  have HCT := Lib.hid (rcut_lo w k HR0.out (by have := HK4.out; omega))
  unfold CutL at HCT
  have HTK : Hid (((R).take k).length ≤ k) := Lib.hid (by rw [List.length_take]; omega)
  generalize hkk : ((R).take k).length = kk at *
  clear hkk
  rw [rounds_succ]
  go_wp2_with fail
  refine HCT.out.mono ?_
  rintro e v1 ⟨A1, rfl, hrd, hrs, u1, hu1⟩
  have HRD := Lib.hid hrd
  have HRS := Lib.hid hrs
  have HNF := Lib.hid (HNF0.out.trans (show Nf [q, g] w v1 by rw [hu1]; exact Nf.set _ _ _ (by simp)))
  have HWX := Lib.hid (show Blk v1 rg 80 _ by rw [hu1]; exact HW0.out.far (p := ⟨q, 0, none⟩) HWQ.out _)
  have HXg := Lib.hid (show Blk v1 g Tg _ by rw [hu1]; exact Hg0.out.far (p := ⟨q, 0, none⟩) Ng9.out _)
  have HRB : Hid (RB v1 A1 kk ((R).take k)) := Lib.hid (by
    have h9 : Reads v1 B 1 A1 kk (bv ((R).take k)) := by rw [hu1]; exact HRD.out.setCell (p := ⟨q, 0, none⟩) HRS.out.hq _
    exact h9.more (by rw [HNF.out.size]; exact HBW.out))
  have HSM := Lib.hid (get_small (L := R) HK4.out)
  clear hrd hrs hu1 kp
  have hcs : ∃ y, cg[o0]? = some y := ⟨_, Array.getElem?_eq_getElem (by (try simp only [Array.size_setIfInBounds]); exact z09.out)⟩
  obtain ⟨y1, hy1⟩ := hcs
  have kx := HXg.out.cell o0
  rw [hy1] at kx
  have fx := HXg.out.frozen o0
  have HGT := Lib.hid (get_lo A1 kk kk ((R).take k) v1 HRB.out (by have := HK4.out; have := HTK.out; omega))
  have HR1 := Lib.hid (HRS.out.far (g := g) (o := o0) Bg9.out (Ne.symm Ng9.out) (.int .i64 ((getB ((R).take k) : Nat) : Int)))
  have HW1 := Lib.hid (HWX.out.far (p := ⟨g, o0, none⟩) Mg9.out (.int .i64 ((getB ((R).take k) : Nat) : Int)))
  have HNF1 := Lib.hid (HNF.out.trans (Nf.set (g := g) (S := [q, g]) v1 o0 (.int .i64 ((getB ((R).take k) : Nat) : Int)) (by simp)))
  have Hg1 := Lib.hid (HXg.out.set_ o0 (.int .i64 ((getB ((R).take k) : Nat) : Int)))
  clear HRS HNF HWX HRB HRD HCT HXg
  generalize hm1 : getB ((R).take k) = m1 at *
  have HM1 := Lib.hid hm1
  clear hm1
  have hm9 := HSM.out
  have wi1 : IntKind.i64.wrap (m1 : Int) = (m1 : Int) := by rw [IntKind.wrap_i64]; omega
  clear HSM
  go_wp2_with fail
  refine HGT.out.mono ?_
  rintro e vg ⟨er, rfl, hvg⟩
  subst hvg
  go_wp2_with fail
  clear kx fx hy1 HGT hm9 wi1 HTK
  generalize v1.setCell ⟨g, o0, none⟩ (.int .i64 (m1 : Int)) = w1 at *
  have kp := HW1.out.cell 1
  simp only [List.getElem?_toArray, List.getElem?_cons_zero, List.getElem?_cons_succ] at kp
  have HCT := Lib.hid (rcut_lo w1 k HR1.out (by have := HK4.out; omega))
  unfold CutL at HCT
  have HTK : Hid (((R.drop k).take k).length ≤ k) := Lib.hid (by rw [List.length_take]; omega)
  generalize hkk : ((R.drop k).take k).length = kk at *
  clear hkk
  rw [rounds_succ]
  go_wp2_with fail
  refine HCT.out.mono ?_
  rintro e v2 ⟨A2, rfl, hrd, hrs, u2, hu2⟩
  have HRD := Lib.hid hrd
  have HRS := Lib.hid hrs
  have HNF := Lib.hid (HNF1.out.trans (show Nf [q, g] w1 v2 by rw [hu2]; exact Nf.set _ _ _ (by simp)))
  have HWX := Lib.hid (show Blk v2 rg 80 _ by rw [hu2]; exact HW1.out.far (p := ⟨q, 0, none⟩) HWQ.out _)
  have HXg := Lib.hid (show Blk v2 g Tg _ by rw [hu2]; exact Hg1.out.far (p := ⟨q, 0, none⟩) Ng9.out _)
  have HRB : Hid (RB v2 A2 kk ((R.drop k).take k)) := Lib.hid (by
    have h9 : Reads v2 B 1 A2 kk (bv ((R.drop k).take k)) := by rw [hu2]; exact HRD.out.setCell (p := ⟨q, 0, none⟩) HRS.out.hq _
    exact h9.more (by rw [HNF.out.size]; exact HBW.out))
  have HSM := Lib.hid (get_small (L := R.drop k) HK4.out)
  clear hrd hrs hu2 kp
  have hcs : ∃ y, (cg.setIfInBounds o0 (.int .i64 (m1 : Int)))[o1]? = some y := ⟨_, Array.getElem?_eq_getElem (by (try simp only [Array.size_setIfInBounds]); exact z19.out)⟩
  obtain ⟨y2, hy2⟩ := hcs
  have kx := HXg.out.cell o1
  rw [hy2] at kx
  have fx := HXg.out.frozen o1
  have HGT := Lib.hid (get_lo A2 kk kk ((R.drop k).take k) v2 HRB.out (by have := HK4.out; have := HTK.out; omega))
  have HR2 := Lib.hid (HRS.out.far (g := g) (o := o1) Bg9.out (Ne.symm Ng9.out) (.int .i64 ((getB ((R.drop k).take k) : Nat) : Int)))
  have HW2 := Lib.hid (HWX.out.far (p := ⟨g, o1, none⟩) Mg9.out (.int .i64 ((getB ((R.drop k).take k) : Nat) : Int)))
  have HNF2 := Lib.hid (HNF.out.trans (Nf.set (g := g) (S := [q, g]) v2 o1 (.int .i64 ((getB ((R.drop k).take k) : Nat) : Int)) (by simp)))
  have Hg2 := Lib.hid (HXg.out.set_ o1 (.int .i64 ((getB ((R.drop k).take k) : Nat) : Int)))
  clear HRS HNF HWX HRB HRD HCT HXg
  generalize hm2 : getB ((R.drop k).take k) = m2 at *
  have HM2 := Lib.hid hm2
  clear hm2
  have hm9 := HSM.out
  have wi2 : IntKind.i64.wrap (m2 : Int) = (m2 : Int) := by rw [IntKind.wrap_i64]; omega
  clear HSM
  go_wp2_with fail
  refine HGT.out.mono ?_
  rintro e vg ⟨er, rfl, hvg⟩
  subst hvg
  go_wp2_with fail
  clear kx fx hy2 HGT hm9 wi2 HTK
  generalize v2.setCell ⟨g, o1, none⟩ (.int .i64 (m2 : Int)) = w2 at *
  rw [rounds_succ]
  go_wp2_with fail
  go_end0
  refine ⟨rfl, HR2.out, ?_, HNF2.out⟩
  · have h9 := Hg2.out
    simp only [← HM1.out, ← HM2.out] at h9 ⊢
    exact h9
set_option maxRecDepth 100000 in
set_option maxHeartbeats 4000000 in
theorem nums_aaaa {B q : Nat} {R : Bs} (w : World) (k rg c : Nat) (g o0 o1 o2 o3 : Nat) (Tg : TypeId) (cg : Array Value) (hk1 : 1 ≤ k) (hk4 : k ≤ 4) (hr : RS B q R w) (hw : Blk w rg 80 #[.pointer (some ⟨g, o0, none⟩), .pointer (some ⟨g, o1, none⟩), .pointer (some ⟨g, o2, none⟩), .pointer (some ⟨g, o3, none⟩)]) (hwB : B ≤ rg) (hwq : rg ≠ q) (Hg : Blk w g Tg cg) (Bg : B ≤ g) (Ng : g ≠ q) (Mg : rg ≠ g) (z0 : o0 < cg.size) (z1 : o1 < cg.size) (z2 : o2 < cg.size) (z3 : o3 < cg.size) :
    Calls Try.prog 52 #[ptrR q, .int .i64 (k : Int), .slice (some ⟨rg, 0, none⟩) 4 c] w fun e w' => e = .returned (.tuple #[]) ∧ RS B q ((((R.drop k).drop k).drop k).drop k) w' ∧ Blk w' g Tg ((((cg.setIfInBounds o0 (.int .i64 ((getB ((R).take k) : Nat) : Int))).setIfInBounds o1 (.int .i64 ((getB ((R.drop k).take k) : Nat) : Int))).setIfInBounds o2 (.int .i64 ((getB (((R.drop k).drop k).take k) : Nat) : Int))).setIfInBounds o3 (.int .i64 ((getB ((((R.drop k).drop k).drop k).take k) : Nat) : Int))) ∧ Nf [q, g] w w' := by
  have HR0 := Lib.hid hr
  have HW0 := Lib.hid hw
  have HK1 := Lib.hid hk1
  have HK4 := Lib.hid hk4
  have HWB := Lib.hid hwB
  have HWQ := Lib.hid hwq
  have HBW : Hid (B ≤ w.heap.size) := Lib.hid (by have := hr.lt; have := hr.hq; omega)
  have HNF0 := Lib.hid (Nf.refl [q, g] w)
  have Hg0 := Lib.hid Hg
  have Ng9 := Lib.hid Ng
  have Mg9 := Lib.hid Mg
  have Bg9 := Lib.hid Bg
  have z09 := Lib.hid z0
  have z19 := Lib.hid z1
  have z29 := Lib.hid z2
  have z39 := Lib.hid z3
  clear hr hw hk1 hk4 hwB hwq Hg Ng Mg Bg  z0 z1 z2 z3
  go_enter Try.func52, Try.ntmps52
  go_wp2_with fail
  refine wp_loop_rounds 5 ?_
  have kp := HW0.out.cell 0
  simp only [List.getElem?_toArray, List.getElem?_cons_zero, List.getElem?_cons_succ] at kp
  have HCT := Lib.hid (rcut_lo w k HR0.out (by have := HK4.out; omega))
  unfold CutL at HCT
  have HTK : Hid (((R).take k).length ≤ k) := Lib.hid (by rw [List.length_take]; omega)
  generalize hkk : ((R).take k).length = kk at *
  clear hkk
  rw [rounds_succ]
  go_wp2_with fail
  refine HCT.out.mono ?_
  rintro e v1 ⟨A1, rfl, hrd, hrs, u1, hu1⟩
  have HRD := Lib.hid hrd
  have HRS := Lib.hid hrs
  have HNF := Lib.hid (HNF0.out.trans (show Nf [q, g] w v1 by rw [hu1]; exact Nf.set _ _ _ (by simp)))
  have HWX := Lib.hid (show Blk v1 rg 80 _ by rw [hu1]; exact HW0.out.far (p := ⟨q, 0, none⟩) HWQ.out _)
  have HXg := Lib.hid (show Blk v1 g Tg _ by rw [hu1]; exact Hg0.out.far (p := ⟨q, 0, none⟩) Ng9.out _)
  have HRB : Hid (RB v1 A1 kk ((R).take k)) := Lib.hid (by
    have h9 : Reads v1 B 1 A1 kk (bv ((R).take k)) := by rw [hu1]; exact HRD.out.setCell (p := ⟨q, 0, none⟩) HRS.out.hq _
    exact h9.more (by rw [HNF.out.size]; exact HBW.out))
  have HSM := Lib.hid (get_small (L := R) HK4.out)
  clear hrd hrs hu1 kp
  have hcs : ∃ y, cg[o0]? = some y := ⟨_, Array.getElem?_eq_getElem (by (try simp only [Array.size_setIfInBounds]); exact z09.out)⟩
  obtain ⟨y1, hy1⟩ := hcs
  have kx := HXg.out.cell o0
  rw [hy1] at kx
  have fx := HXg.out.frozen o0
  have HGT := Lib.hid (get_lo A1 kk kk ((R).take k) v1 HRB.out (by have := HK4.out; have := HTK.out; omega))
  have HR1 := Lib.hid (HRS.out.far (g := g) (o := o0) Bg9.out (Ne.symm Ng9.out) (.int .i64 ((getB ((R).take k) : Nat) : Int)))
  have HW1 := Lib.hid (HWX.out.far (p := ⟨g, o0, none⟩) Mg9.out (.int .i64 ((getB ((R).take k) : Nat) : Int)))
  have HNF1 := Lib.hid (HNF.out.trans (Nf.set (g := g) (S := [q, g]) v1 o0 (.int .i64 ((getB ((R).take k) : Nat) : Int)) (by simp)))
  have Hg1 := Lib.hid (HXg.out.set_ o0 (.int .i64 ((getB ((R).take k) : Nat) : Int)))
  clear HRS HNF HWX HRB HRD HCT HXg
  generalize hm1 : getB ((R).take k) = m1 at *
  have HM1 := Lib.hid hm1
  clear hm1
  have hm9 := HSM.out
  have wi1 : IntKind.i64.wrap (m1 : Int) = (m1 : Int) := by rw [IntKind.wrap_i64]; omega
  clear HSM
  go_wp2_with fail
  refine HGT.out.mono ?_
  rintro e vg ⟨er, rfl, hvg⟩
  subst hvg
  go_wp2_with fail
  clear kx fx hy1 HGT hm9 wi1 HTK
  generalize v1.setCell ⟨g, o0, none⟩ (.int .i64 (m1 : Int)) = w1 at *
  have kp := HW1.out.cell 1
  simp only [List.getElem?_toArray, List.getElem?_cons_zero, List.getElem?_cons_succ] at kp
  have HCT := Lib.hid (rcut_lo w1 k HR1.out (by have := HK4.out; omega))
  unfold CutL at HCT
  have HTK : Hid (((R.drop k).take k).length ≤ k) := Lib.hid (by rw [List.length_take]; omega)
  generalize hkk : ((R.drop k).take k).length = kk at *
  clear hkk
  rw [rounds_succ]
  go_wp2_with fail
  refine HCT.out.mono ?_
  rintro e v2 ⟨A2, rfl, hrd, hrs, u2, hu2⟩
  have HRD := Lib.hid hrd
  have HRS := Lib.hid hrs
  have HNF := Lib.hid (HNF1.out.trans (show Nf [q, g] w1 v2 by rw [hu2]; exact Nf.set _ _ _ (by simp)))
  have HWX := Lib.hid (show Blk v2 rg 80 _ by rw [hu2]; exact HW1.out.far (p := ⟨q, 0, none⟩) HWQ.out _)
  have HXg := Lib.hid (show Blk v2 g Tg _ by rw [hu2]; exact Hg1.out.far (p := ⟨q, 0, none⟩) Ng9.out _)
  have HRB : Hid (RB v2 A2 kk ((R.drop k).take k)) := Lib.hid (by
    have h9 : Reads v2 B 1 A2 kk (bv ((R.drop k).take k)) := by rw [hu2]; exact HRD.out.setCell (p := ⟨q, 0, none⟩) HRS.out.hq _
    exact h9.more (by rw [HNF.out.size]; exact HBW.out))
  have HSM := Lib.hid (get_small (L := R.drop k) HK4.out)
  clear hrd hrs hu2 kp
  have hcs : ∃ y, (cg.setIfInBounds o0 (.int .i64 (m1 : Int)))[o1]? = some y := ⟨_, Array.getElem?_eq_getElem (by (try simp only [Array.size_setIfInBounds]); exact z19.out)⟩
  obtain ⟨y2, hy2⟩ := hcs
  have kx := HXg.out.cell o1
  rw [hy2] at kx
  have fx := HXg.out.frozen o1
  have HGT := Lib.hid (get_lo A2 kk kk ((R.drop k).take k) v2 HRB.out (by have := HK4.out; have := HTK.out; omega))
  have HR2 := Lib.hid (HRS.out.far (g := g) (o := o1) Bg9.out (Ne.symm Ng9.out) (.int .i64 ((getB ((R.drop k).take k) : Nat) : Int)))
  have HW2 := Lib.hid (HWX.out.far (p := ⟨g, o1, none⟩) Mg9.out (.int .i64 ((getB ((R.drop k).take k) : Nat) : Int)))
  have HNF2 := Lib.hid (HNF.out.trans (Nf.set (g := g) (S := [q, g]) v2 o1 (.int .i64 ((getB ((R.drop k).take k) : Nat) : Int)) (by simp)))
  have Hg2 := Lib.hid (HXg.out.set_ o1 (.int .i64 ((getB ((R.drop k).take k) : Nat) : Int)))
  clear HRS HNF HWX HRB HRD HCT HXg
  generalize hm2 : getB ((R.drop k).take k) = m2 at *
  have HM2 := Lib.hid hm2
  clear hm2
  have hm9 := HSM.out
  have wi2 : IntKind.i64.wrap (m2 : Int) = (m2 : Int) := by rw [IntKind.wrap_i64]; omega
  clear HSM
  go_wp2_with fail
  refine HGT.out.mono ?_
  rintro e vg ⟨er, rfl, hvg⟩
  subst hvg
  go_wp2_with fail
  clear kx fx hy2 HGT hm9 wi2 HTK
  generalize v2.setCell ⟨g, o1, none⟩ (.int .i64 (m2 : Int)) = w2 at *
  have kp := HW2.out.cell 2
  simp only [List.getElem?_toArray, List.getElem?_cons_zero, List.getElem?_cons_succ] at kp
  have HCT := Lib.hid (rcut_lo w2 k HR2.out (by have := HK4.out; omega))
  unfold CutL at HCT
  have HTK : Hid ((((R.drop k).drop k).take k).length ≤ k) := Lib.hid (by rw [List.length_take]; omega)
  generalize hkk : (((R.drop k).drop k).take k).length = kk at *
  clear hkk
  rw [rounds_succ]
  go_wp2_with fail
  refine HCT.out.mono ?_
  rintro e v3 ⟨A3, rfl, hrd, hrs, u3, hu3⟩
  have HRD := Lib.hid hrd
  have HRS := Lib.hid hrs
  have HNF := Lib.hid (HNF2.out.trans (show Nf [q, g] w2 v3 by rw [hu3]; exact Nf.set _ _ _ (by simp)))
  have HWX := Lib.hid (show Blk v3 rg 80 _ by rw [hu3]; exact HW2.out.far (p := ⟨q, 0, none⟩) HWQ.out _)
  have HXg := Lib.hid (show Blk v3 g Tg _ by rw [hu3]; exact Hg2.out.far (p := ⟨q, 0, none⟩) Ng9.out _)
  have HRB : Hid (RB v3 A3 kk (((R.drop k).drop k).take k)) := Lib.hid (by
    have h9 : Reads v3 B 1 A3 kk (bv (((R.drop k).drop k).take k)) := by rw [hu3]; exact HRD.out.setCell (p := ⟨q, 0, none⟩) HRS.out.hq _
    exact h9.more (by rw [HNF.out.size]; exact HBW.out))
  have HSM := Lib.hid (get_small (L := (R.drop k).drop k) HK4.out)
  clear hrd hrs hu3 kp
  have hcs : ∃ y, ((cg.setIfInBounds o0 (.int .i64 (m1 : Int))).setIfInBounds o1 (.int .i64 (m2 : Int)))[o2]? = some y := ⟨_, Array.getElem?_eq_getElem (by (try simp only [Array.size_setIfInBounds]); exact z29.out)⟩
  obtain ⟨y3, hy3⟩ := hcs
  have kx := HXg.out.cell o2
  rw [hy3] at kx
  have fx := HXg.out.frozen o2
  have HGT := Lib.hid (get_lo A3 kk kk (((R.drop k).drop k).take k) v3 HRB.out (by have := HK4.out; have := HTK.out; omega))
  have HR3 := Lib.hid (HRS.out.far (g := g) (o := o2) Bg9.out (Ne.symm Ng9.out) (.int .i64 ((getB (((R.drop k).drop k).take k) : Nat) : Int)))
  have HW3 := Lib.hid (HWX.out.far (p := ⟨g, o2, none⟩) Mg9.out (.int .i64 ((getB (((R.drop k).drop k).take k) : Nat) : Int)))
  have HNF3 := Lib.hid (HNF.out.trans (Nf.set (g := g) (S := [q, g]) v3 o2 (.int .i64 ((getB (((R.drop k).drop k).take k) : Nat) : Int)) (by simp)))
  have Hg3 := Lib.hid (HXg.out.set_ o2 (.int .i64 ((getB (((R.drop k).drop k).take k) : Nat) : Int)))
  clear HRS HNF HWX HRB HRD HCT HXg
  generalize hm3 : getB (((R.drop k).drop k).take k) = m3 at *
  have HM3 := Lib.hid hm3
  clear hm3
  have hm9 := HSM.out
  have wi3 : IntKind.i64.wrap (m3 : Int) = (m3 : Int) := by rw [IntKind.wrap_i64]; omega
  clear HSM
  go_wp2_with fail
  refine HGT.out.mono ?_
  rintro e vg ⟨er, rfl, hvg⟩
  subst hvg
  go_wp2_with fail
  clear kx fx hy3 HGT hm9 wi3 HTK
  generalize v3.setCell ⟨g, o2, none⟩ (.int .i64 (m3 : Int)) = w3 at *
  have kp := HW3.out.cell 3
  simp only [List.getElem?_toArray, List.getElem?_cons_zero, List.getElem?_cons_succ] at kp
  have HCT := Lib.hid (rcut_lo w3 k HR3.out (by have := HK4.out; omega))
  unfold CutL at HCT
  have HTK : Hid (((((R.drop k).drop k).drop k).take k).length ≤ k) := Lib.hid (by rw [List.length_take]; omega)
  generalize hkk : ((((R.drop k).drop k).drop k).take k).length = kk at *
  clear hkk
  rw [rounds_succ]
  go_wp2_with fail
  refine HCT.out.mono ?_
  rintro e v4 ⟨A4, rfl, hrd, hrs, u4, hu4⟩
  have HRD := Lib.hid hrd
  have HRS := Lib.hid hrs
  have HNF := Lib.hid (HNF3.out.trans (show Nf [q, g] w3 v4 by rw [hu4]; exact Nf.set _ _ _ (by simp)))
  have HWX := Lib.hid (show Blk v4 rg 80 _ by rw [hu4]; exact HW3.out.far (p := ⟨q, 0, none⟩) HWQ.out _)
  have HXg := Lib.hid (show Blk v4 g Tg _ by rw [hu4]; exact Hg3.out.far (p := ⟨q, 0, none⟩) Ng9.out _)
  have HRB : Hid (RB v4 A4 kk ((((R.drop k).drop k).drop k).take k)) := Lib.hid (by
    have h9 : Reads v4 B 1 A4 kk (bv ((((R.drop k).drop k).drop k).take k)) := by rw [hu4]; exact HRD.out.setCell (p := ⟨q, 0, none⟩) HRS.out.hq _
    exact h9.more (by rw [HNF.out.size]; exact HBW.out))
  have HSM := Lib.hid (get_small (L := ((R.drop k).drop k).drop k) HK4.out)
  clear hrd hrs hu4 kp
  have hcs : ∃ y, (((cg.setIfInBounds o0 (.int .i64 (m1 : Int))).setIfInBounds o1 (.int .i64 (m2 : Int))).setIfInBounds o2 (.int .i64 (m3 : Int)))[o3]? = some y := ⟨_, Array.getElem?_eq_getElem (by (try simp only [Array.size_setIfInBounds]); exact z39.out)⟩
  obtain ⟨y4, hy4⟩ := hcs
  have kx := HXg.out.cell o3
  rw [hy4] at kx
  have fx := HXg.out.frozen o3
  have HGT := Lib.hid (get_lo A4 kk kk ((((R.drop k).drop k).drop k).take k) v4 HRB.out (by have := HK4.out; have := HTK.out; omega))
  have HR4 := Lib.hid (HRS.out.far (g := g) (o := o3) Bg9.out (Ne.symm Ng9.out) (.int .i64 ((getB ((((R.drop k).drop k).drop k).take k) : Nat) : Int)))
  have HW4 := Lib.hid (HWX.out.far (p := ⟨g, o3, none⟩) Mg9.out (.int .i64 ((getB ((((R.drop k).drop k).drop k).take k) : Nat) : Int)))
  have HNF4 := Lib.hid (HNF.out.trans (Nf.set (g := g) (S := [q, g]) v4 o3 (.int .i64 ((getB ((((R.drop k).drop k).drop k).take k) : Nat) : Int)) (by simp)))
  have Hg4 := Lib.hid (HXg.out.set_ o3 (.int .i64 ((getB ((((R.drop k).drop k).drop k).take k) : Nat) : Int)))
  clear HRS HNF HWX HRB HRD HCT HXg
  generalize hm4 : getB ((((R.drop k).drop k).drop k).take k) = m4 at *
  have HM4 := Lib.hid hm4
  clear hm4
  have hm9 := HSM.out
  have wi4 : IntKind.i64.wrap (m4 : Int) = (m4 : Int) := by rw [IntKind.wrap_i64]; omega
  clear HSM
  go_wp2_with fail
  refine HGT.out.mono ?_
  rintro e vg ⟨er, rfl, hvg⟩
  subst hvg
  go_wp2_with fail
  clear kx fx hy4 HGT hm9 wi4 HTK
  generalize v4.setCell ⟨g, o3, none⟩ (.int .i64 (m4 : Int)) = w4 at *
  rw [rounds_succ]
  go_wp2_with fail
  go_end0
  refine ⟨rfl, HR4.out, ?_, HNF4.out⟩
  · have h9 := Hg4.out
    simp only [← HM1.out, ← HM2.out, ← HM3.out, ← HM4.out] at h9 ⊢
    exact h9
set_option maxRecDepth 100000 in
set_option maxHeartbeats 4000000 in
theorem nums_abc {B q : Nat} {R : Bs} (w : World) (k rg c : Nat) (g i j o0 o1 o2 : Nat) (Tg Ti Tj : TypeId) (cg ci cj : Array Value) (hk1 : 1 ≤ k) (hk4 : k ≤ 4) (hr : RS B q R w) (hw : Blk w rg 80 #[.pointer (some ⟨g, o0, none⟩), .pointer (some ⟨i, o1, none⟩), .pointer (some ⟨j, o2, none⟩)]) (hwB : B ≤ rg) (hwq : rg ≠ q) (Hg : Blk w g Tg cg) (Bg : B ≤ g) (Ng : g ≠ q) (Mg : rg ≠ g) (Hi : Blk w i Ti ci) (Bi : B ≤ i) (Ni : i ≠ q) (Mi : rg ≠ i) (Hj : Blk w j Tj cj) (Bj : B ≤ j) (Nj : j ≠ q) (Mj : rg ≠ j) (Dgi : g ≠ i) (Dgj : g ≠ j) (Dij : i ≠ j) (z0 : o0 < cg.size) (z1 : o1 < ci.size) (z2 : o2 < cj.size) :
    Calls Try.prog 52 #[ptrR q, .int .i64 (k : Int), .slice (some ⟨rg, 0, none⟩) 3 c] w fun e w' => e = .returned (.tuple #[]) ∧ RS B q (((R.drop k).drop k).drop k) w' ∧ Blk w' g Tg (cg.setIfInBounds o0 (.int .i64 ((getB ((R).take k) : Nat) : Int))) ∧ Blk w' i Ti (ci.setIfInBounds o1 (.int .i64 ((getB ((R.drop k).take k) : Nat) : Int))) ∧ Blk w' j Tj (cj.setIfInBounds o2 (.int .i64 ((getB (((R.drop k).drop k).take k) : Nat) : Int))) ∧ Nf [q, g, i, j] w w' := by
  have HR0 := Lib.hid hr
  have HW0 := Lib.hid hw
  have HK1 := Lib.hid hk1
  have HK4 := Lib.hid hk4
  have HWB := Lib.hid hwB
  have HWQ := Lib.hid hwq
  have HBW : Hid (B ≤ w.heap.size) := Lib.hid (by have := hr.lt; have := hr.hq; omega)
  have HNF0 := Lib.hid (Nf.refl [q, g, i, j] w)
  have Hg0 := Lib.hid Hg
  have Ng9 := Lib.hid Ng
  have Mg9 := Lib.hid Mg
  have Bg9 := Lib.hid Bg
  have Hi0 := Lib.hid Hi
  have Ni9 := Lib.hid Ni
  have Mi9 := Lib.hid Mi
  have Bi9 := Lib.hid Bi
  have Hj0 := Lib.hid Hj
  have Nj9 := Lib.hid Nj
  have Mj9 := Lib.hid Mj
  have Bj9 := Lib.hid Bj
  have Dgi9 := Lib.hid Dgi
  have Dig9 := Lib.hid (Ne.symm Dgi)
  have Dgj9 := Lib.hid Dgj
  have Djg9 := Lib.hid (Ne.symm Dgj)
  have Dij9 := Lib.hid Dij
  have Dji9 := Lib.hid (Ne.symm Dij)
  have z09 := Lib.hid z0
  have z19 := Lib.hid z1
  have z29 := Lib.hid z2
  clear hr hw hk1 hk4 hwB hwq Hg Ng Mg Bg Hi Ni Mi Bi Hj Nj Mj Bj Dgi Dgj Dij z0 z1 z2
  go_enter Try.func52, Try.ntmps52
  go_wp2_with fail
  refine wp_loop_rounds 4 ?_
  have kp := HW0.out.cell 0
  simp only [List.getElem?_toArray, List.getElem?_cons_zero, List.getElem?_cons_succ] at kp
  have HCT := Lib.hid (rcut_lo w k HR0.out (by have := HK4.out; omega))
  unfold CutL at HCT
  have HTK : Hid (((R).take k).length ≤ k) := Lib.hid (by rw [List.length_take]; omega)
  generalize hkk : ((R).take k).length = kk at *
  clear hkk
  rw [rounds_succ]
  go_wp2_with fail
  refine HCT.out.mono ?_
  rintro e v1 ⟨A1, rfl, hrd, hrs, u1, hu1⟩
  have HRD := Lib.hid hrd
  have HRS := Lib.hid hrs
  have HNF := Lib.hid (HNF0.out.trans (show Nf [q, g, i, j] w v1 by rw [hu1]; exact Nf.set _ _ _ (by simp)))
  have HWX := Lib.hid (show Blk v1 rg 80 _ by rw [hu1]; exact HW0.out.far (p := ⟨q, 0, none⟩) HWQ.out _)
  have HXg := Lib.hid (show Blk v1 g Tg _ by rw [hu1]; exact Hg0.out.far (p := ⟨q, 0, none⟩) Ng9.out _)
  have HXi := Lib.hid (show Blk v1 i Ti _ by rw [hu1]; exact Hi0.out.far (p := ⟨q, 0, none⟩) Ni9.out _)
  have HXj := Lib.hid (show Blk v1 j Tj _ by rw [hu1]; exact Hj0.out.far (p := ⟨q, 0, none⟩) Nj9.out _)
  have HRB : Hid (RB v1 A1 kk ((R).take k)) := Lib.hid (by
    have h9 : Reads v1 B 1 A1 kk (bv ((R).take k)) := by rw [hu1]; exact HRD.out.setCell (p := ⟨q, 0, none⟩) HRS.out.hq _
    exact h9.more (by rw [HNF.out.size]; exact HBW.out))
  have HSM := Lib.hid (get_small (L := R) HK4.out)
  clear hrd hrs hu1 kp
  have hcs : ∃ y, cg[o0]? = some y := ⟨_, Array.getElem?_eq_getElem (by (try simp only [Array.size_setIfInBounds]); exact z09.out)⟩
  obtain ⟨y1, hy1⟩ := hcs
  have kx := HXg.out.cell o0
  rw [hy1] at kx
  have fx := HXg.out.frozen o0
  have HGT := Lib.hid (get_lo A1 kk kk ((R).take k) v1 HRB.out (by have := HK4.out; have := HTK.out; omega))
  have HR1 := Lib.hid (HRS.out.far (g := g) (o := o0) Bg9.out (Ne.symm Ng9.out) (.int .i64 ((getB ((R).take k) : Nat) : Int)))
  have HW1 := Lib.hid (HWX.out.far (p := ⟨g, o0, none⟩) Mg9.out (.int .i64 ((getB ((R).take k) : Nat) : Int)))
  have HNF1 := Lib.hid (HNF.out.trans (Nf.set (g := g) (S := [q, g, i, j]) v1 o0 (.int .i64 ((getB ((R).take k) : Nat) : Int)) (by simp)))
  have Hg1 := Lib.hid (HXg.out.set_ o0 (.int .i64 ((getB ((R).take k) : Nat) : Int)))
  have Hi1 := Lib.hid (HXi.out.far (p := ⟨g, o0, none⟩) Dig9.out (.int .i64 ((getB ((R).take k) : Nat) : Int)))
  have Hj1 := Lib.hid (HXj.out.far (p := ⟨g, o0, none⟩) Djg9.out (.int .i64 ((getB ((R).take k) : Nat) : Int)))
  clear HRS HNF HWX HRB HRD HCT HXg HXi HXj
  generalize hm1 : getB ((R).take k) = m1 at *
  have HM1 := Lib.hid hm1
  clear hm1
  have hm9 := HSM.out
  have wi1 : IntKind.i64.wrap (m1 : Int) = (m1 : Int) := by rw [IntKind.wrap_i64]; omega
  clear HSM
  go_wp2_with fail
  refine HGT.out.mono ?_
  rintro e vg ⟨er, rfl, hvg⟩
  subst hvg
  go_wp2_with fail
  clear kx fx hy1 HGT hm9 wi1 HTK
  generalize v1.setCell ⟨g, o0, none⟩ (.int .i64 (m1 : Int)) = w1 at *
  have kp := HW1.out.cell 1
  simp only [List.getElem?_toArray, List.getElem?_cons_zero, List.getElem?_cons_succ] at kp
  have HCT := Lib.hid (rcut_lo w1 k HR1.out (by have := HK4.out; omega))
  unfold CutL at HCT
  have HTK : Hid (((R.drop k).take k).length ≤ k) := Lib.hid (by rw [List.length_take]; omega)
  generalize hkk : ((R.drop k).take k).length = kk at *
  clear hkk
  rw [rounds_succ]
  go_wp2_with fail
  refine HCT.out.mono ?_
  rintro e v2 ⟨A2, rfl, hrd, hrs, u2, hu2⟩
  have HRD := Lib.hid hrd
  have HRS := Lib.hid hrs
  have HNF := Lib.hid (HNF1.out.trans (show Nf [q, g, i, j] w1 v2 by rw [hu2]; exact Nf.set _ _ _ (by simp)))
  have HWX := Lib.hid (show Blk v2 rg 80 _ by rw [hu2]; exact HW1.out.far (p := ⟨q, 0, none⟩) HWQ.out _)
  have HXg := Lib.hid (show Blk v2 g Tg _ by rw [hu2]; exact Hg1.out.far (p := ⟨q, 0, none⟩) Ng9.out _)
  have HXi := Lib.hid (show Blk v2 i Ti _ by rw [hu2]; exact Hi1.out.far (p := ⟨q, 0, none⟩) Ni9.out _)
  have HXj := Lib.hid (show Blk v2 j Tj _ by rw [hu2]; exact Hj1.out.far (p := ⟨q, 0, none⟩) Nj9.out _)
  have HRB : Hid (RB v2 A2 kk ((R.drop k).take k)) := Lib.hid (by
    have h9 : Reads v2 B 1 A2 kk (bv ((R.drop k).take k)) := by rw [hu2]; exact HRD.out.setCell (p := ⟨q, 0, none⟩) HRS.out.hq _
    exact h9.more (by rw [HNF.out.size]; exact HBW.out))
  have HSM := Lib.hid (get_small (L := R.drop k) HK4.out)
  clear hrd hrs hu2 kp
  have hcs : ∃ y, ci[o1]? = some y := ⟨_, Array.getElem?_eq_getElem (by (try simp only [Array.size_setIfInBounds]); exact z19.out)⟩
  obtain ⟨y2, hy2⟩ := hcs
  have kx := HXi.out.cell o1
  rw [hy2] at kx
  have fx := HXi.out.frozen o1
  have HGT := Lib.hid (get_lo A2 kk kk ((R.drop k).take k) v2 HRB.out (by have := HK4.out; have := HTK.out; omega))
  have HR2 := Lib.hid (HRS.out.far (g := i) (o := o1) Bi9.out (Ne.symm Ni9.out) (.int .i64 ((getB ((R.drop k).take k) : Nat) : Int)))
  have HW2 := Lib.hid (HWX.out.far (p := ⟨i, o1, none⟩) Mi9.out (.int .i64 ((getB ((R.drop k).take k) : Nat) : Int)))
  have HNF2 := Lib.hid (HNF.out.trans (Nf.set (g := i) (S := [q, g, i, j]) v2 o1 (.int .i64 ((getB ((R.drop k).take k) : Nat) : Int)) (by simp)))
  have Hg2 := Lib.hid (HXg.out.far (p := ⟨i, o1, none⟩) Dgi9.out (.int .i64 ((getB ((R.drop k).take k) : Nat) : Int)))
  have Hi2 := Lib.hid (HXi.out.set_ o1 (.int .i64 ((getB ((R.drop k).take k) : Nat) : Int)))
  have Hj2 := Lib.hid (HXj.out.far (p := ⟨i, o1, none⟩) Dji9.out (.int .i64 ((getB ((R.drop k).take k) : Nat) : Int)))
  clear HRS HNF HWX HRB HRD HCT HXg HXi HXj
  generalize hm2 : getB ((R.drop k).take k) = m2 at *
  have HM2 := Lib.hid hm2
  clear hm2
  have hm9 := HSM.out
  have wi2 : IntKind.i64.wrap (m2 : Int) = (m2 : Int) := by rw [IntKind.wrap_i64]; omega
  clear HSM
  go_wp2_with fail
  refine HGT.out.mono ?_
  rintro e vg ⟨er, rfl, hvg⟩
  subst hvg
  go_wp2_with fail
  clear kx fx hy2 HGT hm9 wi2 HTK
  generalize v2.setCell ⟨i, o1, none⟩ (.int .i64 (m2 : Int)) = w2 at *
  have kp := HW2.out.cell 2
  simp only [List.getElem?_toArray, List.getElem?_cons_zero, List.getElem?_cons_succ] at kp
  have HCT := Lib.hid (rcut_lo w2 k HR2.out (by have := HK4.out; omega))
  unfold CutL at HCT
  have HTK : Hid ((((R.drop k).drop k).take k).length ≤ k) := Lib.hid (by rw [List.length_take]; omega)
  generalize hkk : (((R.drop k).drop k).take k).length = kk at *
  clear hkk
  rw [rounds_succ]
  go_wp2_with fail
  refine HCT.out.mono ?_
  rintro e v3 ⟨A3, rfl, hrd, hrs, u3, hu3⟩
  have HRD := Lib.hid hrd
  have HRS := Lib.hid hrs
  have HNF := Lib.hid (HNF2.out.trans (show Nf [q, g, i, j] w2 v3 by rw [hu3]; exact Nf.set _ _ _ (by simp)))
  have HWX := Lib.hid (show Blk v3 rg 80 _ by rw [hu3]; exact HW2.out.far (p := ⟨q, 0, none⟩) HWQ.out _)
  have HXg := Lib.hid (show Blk v3 g Tg _ by rw [hu3]; exact Hg2.out.far (p := ⟨q, 0, none⟩) Ng9.out _)
  have HXi := Lib.hid (show Blk v3 i Ti _ by rw [hu3]; exact Hi2.out.far (p := ⟨q, 0, none⟩) Ni9.out _)
  have HXj := Lib.hid (show Blk v3 j Tj _ by rw [hu3]; exact Hj2.out.far (p := ⟨q, 0, none⟩) Nj9.out _)
  have HRB : Hid (RB v3 A3 kk (((R.drop k).drop k).take k)) := Lib.hid (by
    have h9 : Reads v3 B 1 A3 kk (bv (((R.drop k).drop k).take k)) := by rw [hu3]; exact HRD.out.setCell (p := ⟨q, 0, none⟩) HRS.out.hq _
    exact h9.more (by rw [HNF.out.size]; exact HBW.out))
  have HSM := Lib.hid (get_small (L := (R.drop k).drop k) HK4.out)
  clear hrd hrs hu3 kp
  have hcs : ∃ y, cj[o2]? = some y := ⟨_, Array.getElem?_eq_getElem (by (try simp only [Array.size_setIfInBounds]); exact z29.out)⟩
  obtain ⟨y3, hy3⟩ := hcs
  have kx := HXj.out.cell o2
  rw [hy3] at kx
  have fx := HXj.out.frozen o2
  have HGT := Lib.hid (get_lo A3 kk kk (((R.drop k).drop k).take k) v3 HRB.out (by have := HK4.out; have := HTK.out; omega))
  have HR3 := Lib.hid (HRS.out.far (g := j) (o := o2) Bj9.out (Ne.symm Nj9.out) (.int .i64 ((getB (((R.drop k).drop k).take k) : Nat) : Int)))
  have HW3 := Lib.hid (HWX.out.far (p := ⟨j, o2, none⟩) Mj9.out (.int .i64 ((getB (((R.drop k).drop k).take k) : Nat) : Int)))
  have HNF3 := Lib.hid (HNF.out.trans (Nf.set (g := j) (S := [q, g, i, j]) v3 o2 (.int .i64 ((getB (((R.drop k).drop k).take k) : Nat) : Int)) (by simp)))
  have Hg3 := Lib.hid (HXg.out.far (p := ⟨j, o2, none⟩) Dgj9.out (.int .i64 ((getB (((R.drop k).drop k).take k) : Nat) : Int)))
  have Hi3 := Lib.hid (HXi.out.far (p := ⟨j, o2, none⟩) Dij9.out (.int .i64 ((getB (((R.drop k).drop k).take k) : Nat) : Int)))
  have Hj3 := Lib.hid (HXj.out.set_ o2 (.int .i64 ((getB (((R.drop k).drop k).take k) : Nat) : Int)))
  clear HRS HNF HWX HRB HRD HCT HXg HXi HXj
  generalize hm3 : getB (((R.drop k).drop k).take k) = m3 at *
  have HM3 := Lib.hid hm3
  clear hm3
  have hm9 := HSM.out
  have wi3 : IntKind.i64.wrap (m3 : Int) = (m3 : Int) := by rw [IntKind.wrap_i64]; omega
  clear HSM
  go_wp2_with fail
  refine HGT.out.mono ?_
  rintro e vg ⟨er, rfl, hvg⟩
  subst hvg
  go_wp2_with fail
  clear kx fx hy3 HGT hm9 wi3 HTK
  generalize v3.setCell ⟨j, o2, none⟩ (.int .i64 (m3 : Int)) = w3 at *
  rw [rounds_succ]
  go_wp2_with fail
  go_end0
  refine ⟨rfl, HR3.out, ?_, ?_, ?_, HNF3.out⟩
  · have h9 := Hg3.out
    simp only [← HM1.out, ← HM2.out, ← HM3.out] at h9 ⊢
    exact h9
  · have h9 := Hi3.out
    simp only [← HM1.out, ← HM2.out, ← HM3.out] at h9 ⊢
    exact h9
  · have h9 := Hj3.out
    simp only [← HM1.out, ← HM2.out, ← HM3.out] at h9 ⊢
    exact h9
end Go.Proofs.Ytmapcdmegkfheaa
