/- Texts: RuA, RuB, RuC, RuD, RuE, RuF, RuG, RuH. -/
import Derived.Test.YtkpmeelbjldcoaaGreatDoorZbRu9
import Derived.Test.YtkpmeelbjldcoaaGreatDoorZbRu5
namespace Go.Proofs.YtkpmeelbjldcoaaGreatDoor
section
set_option linter.unusedVariables false
set_option linter.unusedSimpArgs false
open Go.RowKit
/-- The number of a who, and what is wrong with it. -/
def sumE (N : Bs → Option Int) (w : Wh) : Int :=
  if w.any = true then 0 else if w.nm = [] then (if 7 < w.n then 33 else 0) else match N w.nm with
    | none => 21
    | some n => if 7 < n then 33 else 0
def sumV (N : Bs → Option Int) (w : Wh) : Int :=
  if w.any = true then 255 else if w.nm = [] then (if 7 < w.n then 0 else 2 ^ w.n.toNat) else match N w.nm with
    | none => 0
    | some n => if 7 < n then 0 else 2 ^ n.toNat
set_option maxRecDepth 100000 in
set_option maxHeartbeats 4000000 in
theorem sum_role {T : List Value} {w : World} {q mo : Nat} {rv : Value} {bx : Int} {B C : Nat} {I : Int → Option Nat} {N : Int → Bs → Option (Dc × RV)} (h : CkAt B C T w q mo rv bx I N) (a : Wh) (hs : a.nm.length ≤ maxLen) (ha : a.any = true) (fv : Value) :
    Calls Tryz.prog 100 #[.agg #[.bool a.any, .string (bs a.nm), .int .i64 a.n, .int .i64 a.p.1, .int .i64 a.p.2], fv, .int .i64 7] w fun e w' => e = .returned (.tuple #[.int .i64 255, fauV 0 (0, 0)]) ∧ Below w.heap.size w w' := by
  rw [ha]
  have HB : Hid (∀ x y : Array Value, Below w.heap.size w ((w.alloc (.cells x 39)).alloc (.cells y 29))) := Lib.hid fun x y => ((Below.refl _ _).alloc (Nat.le_refl _) _).alloc (by simp) _
  have HA := Lib.hid (fun W => all7_any W)
  clear h
  go_enter Tryz.func100, Tryz.ntmps100
  go_wp2_with fail
  refine (HA.out _).mono ?_
  rintro e w1 ⟨rfl, hw⟩
  subst hw
  go_wp2_with fail
  refine bodyPost_ret (v := .tuple #[.int .i64 255, fauV 0 (0, 0)]) ?_ rfl ⟨rfl, HB.out _ _⟩
  simp [results, Tryz.results100, go_sem, *]
end
section
set_option linter.unusedVariables false
set_option linter.unusedSimpArgs false
open Go.RowKit
theorem pow_fits {n M : Int} (h0 : 0 ≤ n) (h : n ≤ M) (hM : M ≤ 62) : IntKind.i64.wrap (2 ^ n.toNat) = 2 ^ n.toNat := by
  have h1 : n.toNat ≤ 62 := by omega
  have h2 : (2 : Int) ^ n.toNat ≤ 2 ^ 62 := by
    have := Nat.pow_le_pow_right (n := 2) (by decide) h1
    exact_mod_cast this
  have h3 : (0 : Int) < 2 ^ n.toNat := Int.pow_pos (by decide)
  generalize (2 : Int) ^ n.toNat = x at *
  have : (2 : Int) ^ 62 = 4611686018427387904 := by decide
  rw [this] at h2
  rw [IntKind.wrap_i64]; omega
theorem bs_some {a : Bs} (h : a ≠ []) : (!(bs a).toList.isEmpty) = true := by
  have : (bs a).toList = a := by simp [bs]
  rw [this]; cases a with
  | nil => exact (h rfl).elim
  | cons x y => rfl
set_option maxRecDepth 100000 in
set_option maxHeartbeats 4000000 in
theorem sum_named_role {T : List Value} {w : World} {q mo : Nat} {rv : Value} {bx : Int} {B C : Nat} {I : Int → Option Nat} {N : Int → Bs → Option (Dc × RV)} (a : Wh) (ha : a.any = false) (hn : a.nm ≠ []) (x : Dc × RV) (hx : N 1 a.nm = some x) (h0 : 0 ≤ x.1.n) (M : Int) (h7 : x.1.n ≤ M) (hM : M ≤ 62) (hs : a.nm.length ≤ maxLen) (hck : ∀ W, Below w.heap.size w W → CkAt B C T W q mo rv bx I N) :
    Calls Tryz.prog 100 #[.agg #[.bool a.any, .string (bs a.nm), .int .i64 a.n, .int .i64 a.p.1, .int .i64 a.p.2], .func (.func 101) #[ptr q] #[], .int .i64 M] w fun e w' => e = .returned (.tuple #[.int .i64 (2 ^ x.1.n.toNat), fauV 0 (0, 0)]) ∧ Below w.heap.size w w' := by
  rw [ha]
  have HB : Hid (∀ x y : Array Value, Below w.heap.size w ((w.alloc (.cells x 39)).alloc (.cells y 29))) := Lib.hid fun x y => ((Below.refl _ _).alloc (Nat.le_refl _) _).alloc (by simp) _
  have HCC := Lib.hid fun W (hW : Below w.heap.size w W) => ckrole_any (hck W hW) a.nm hs
  rw [hx] at HCC
  simp only [nmD, Option.isSome] at HCC
  have hne := bs_some hn
  have HBK : Hid (∀ (x y : Array Value) w1, Below ((w.alloc (.cells x 39)).alloc (.cells y 29)).heap.size ((w.alloc (.cells x 39)).alloc (.cells y 29)) w1 → Blk w1 (w.heap.size + 1) 29 y ∧ Below w.heap.size w w1) := Lib.hid fun x y w1 h => ⟨(Blk.newAt (by simp)).below h (by simp), (HB.out x y).trans (h.mono (by simp; omega))⟩
  have HSZ : Hid (∀ (x y : Array Value), ((w.alloc (.cells x 39)).alloc (.cells y 29)).heap.size = w.heap.size + 2) := Lib.hid fun x y => by simp
  clear hx hck
  obtain ⟨x, xr⟩ := x
  simp only at *
  generalize x.n = n at *
  have hwr := pow_fits h0 h7 hM
  have hgt : ¬ M < n := by omega
  have hgd : decide (M < n) = false := decide_eq_false hgt
  have hb0 : (IntKind.i64.bits : Int) = 64 := rfl
  go_enter Tryz.func100, Tryz.ntmps100
  go_wp2_with fail
  refine ((HCC.out _ (HB.out _ _)).mono ?_)
  rintro e w1 ⟨rfl, hw⟩
  obtain ⟨b1, bw⟩ := HBK.out _ _ _ hw
  clear hw
  have b1 : Blk w1 (w.heap.size + 1) 29 #[.int .i64 0, .int .i64 0, .int .i64 0] := b1
  have c0 := b1.cell 0
  have c1 := b1.cell 1
  have c2 := b1.cell 2
  have f0 := b1.frozen 0
  have f1 := b1.frozen 1
  have f2 := b1.frozen 2
  simp only [List.getElem?_toArray, List.getElem?_cons_zero, List.getElem?_cons_succ] at c0 c1 c2
  have HB2 := Lib.hid (Blk.set3 b1 (.int .i64 0) (.int .i64 0) (.int .i64 0))
  have HB3 : Hid (∀ x y z : Value, Below w.heap.size w (((w1.setCell ⟨w.heap.size + 1, 0, none⟩ x).setCell ⟨w.heap.size + 1, 1, none⟩ y).setCell ⟨w.heap.size + 1, 2, none⟩ z)) := Lib.hid fun x y z => ((bw.setCell (by simp) x).setCell (by simp) y).setCell (by simp) z
  clear b1 bw
  go_wp2_with fail
  refine bodyPost_ret (v := .tuple #[.int .i64 (2 ^ n.toNat), fauV 0 (0, 0)]) ?_ rfl ⟨rfl, HB3.out _ _ _⟩
  have d0 := HB2.out.cell 0
  have d1 := HB2.out.cell 1
  have d2 := HB2.out.cell 2
  simp only [List.getElem?_toArray, List.getElem?_cons_zero, List.getElem?_cons_succ] at d0 d1 d2
  clear c0 c1 c2 f0 f1 f2 HCC HB HBK HB2 HB3
  simp [results, Tryz.results100, go_sem, *]
set_option maxRecDepth 100000 in
set_option maxHeartbeats 4000000 in
theorem sum_named_label {T : List Value} {w : World} {q mo : Nat} {rv : Value} {bx : Int} {B C : Nat} {I : Int → Option Nat} {N : Int → Bs → Option (Dc × RV)} (a : Wh) (ha : a.any = false) (hn : a.nm ≠ []) (x : Dc × RV) (hx : N 2 a.nm = some x) (h0 : 0 ≤ x.1.n) (M : Int) (h7 : x.1.n ≤ M) (hM : M ≤ 62) (hs : a.nm.length ≤ maxLen) (hck : ∀ W, Below w.heap.size w W → CkAt B C T W q mo rv bx I N) :
    Calls Tryz.prog 100 #[.agg #[.bool a.any, .string (bs a.nm), .int .i64 a.n, .int .i64 a.p.1, .int .i64 a.p.2], .func (.func 139) #[ptr q] #[], .int .i64 M] w fun e w' => e = .returned (.tuple #[.int .i64 (2 ^ x.1.n.toNat), fauV 0 (0, 0)]) ∧ Below w.heap.size w w' := by
  rw [ha]
  have HB : Hid (∀ x y : Array Value, Below w.heap.size w ((w.alloc (.cells x 39)).alloc (.cells y 29))) := Lib.hid fun x y => ((Below.refl _ _).alloc (Nat.le_refl _) _).alloc (by simp) _
  have HCC := Lib.hid fun W (hW : Below w.heap.size w W) => cklabel_any (hck W hW) a.nm hs
  rw [hx] at HCC
  simp only [nmD, Option.isSome] at HCC
  have hne := bs_some hn
  have HBK : Hid (∀ (x y : Array Value) w1, Below ((w.alloc (.cells x 39)).alloc (.cells y 29)).heap.size ((w.alloc (.cells x 39)).alloc (.cells y 29)) w1 → Blk w1 (w.heap.size + 1) 29 y ∧ Below w.heap.size w w1) := Lib.hid fun x y w1 h => ⟨(Blk.newAt (by simp)).below h (by simp), (HB.out x y).trans (h.mono (by simp; omega))⟩
  have HSZ : Hid (∀ (x y : Array Value), ((w.alloc (.cells x 39)).alloc (.cells y 29)).heap.size = w.heap.size + 2) := Lib.hid fun x y => by simp
  clear hx hck
  obtain ⟨x, xr⟩ := x
  simp only at *
  generalize x.n = n at *
  have hwr := pow_fits h0 h7 hM
  have hgt : ¬ M < n := by omega
  have hgd : decide (M < n) = false := decide_eq_false hgt
  have hb0 : (IntKind.i64.bits : Int) = 64 := rfl
  go_enter Tryz.func100, Tryz.ntmps100
  go_wp2_with fail
  refine ((HCC.out _ (HB.out _ _)).mono ?_)
  rintro e w1 ⟨rfl, hw⟩
  obtain ⟨b1, bw⟩ := HBK.out _ _ _ hw
  clear hw
  have b1 : Blk w1 (w.heap.size + 1) 29 #[.int .i64 0, .int .i64 0, .int .i64 0] := b1
  have c0 := b1.cell 0
  have c1 := b1.cell 1
  have c2 := b1.cell 2
  have f0 := b1.frozen 0
  have f1 := b1.frozen 1
  have f2 := b1.frozen 2
  simp only [List.getElem?_toArray, List.getElem?_cons_zero, List.getElem?_cons_succ] at c0 c1 c2
  have HB2 := Lib.hid (Blk.set3 b1 (.int .i64 0) (.int .i64 0) (.int .i64 0))
  have HB3 : Hid (∀ x y z : Value, Below w.heap.size w (((w1.setCell ⟨w.heap.size + 1, 0, none⟩ x).setCell ⟨w.heap.size + 1, 1, none⟩ y).setCell ⟨w.heap.size + 1, 2, none⟩ z)) := Lib.hid fun x y z => ((bw.setCell (by simp) x).setCell (by simp) y).setCell (by simp) z
  clear b1 bw
  go_wp2_with fail
  refine bodyPost_ret (v := .tuple #[.int .i64 (2 ^ n.toNat), fauV 0 (0, 0)]) ?_ rfl ⟨rfl, HB3.out _ _ _⟩
  have d0 := HB2.out.cell 0
  have d1 := HB2.out.cell 1
  have d2 := HB2.out.cell 2
  simp only [List.getElem?_toArray, List.getElem?_cons_zero, List.getElem?_cons_succ] at d0 d1 d2
  clear c0 c1 c2 f0 f1 f2 HCC HB HBK HB2 HB3
  simp [results, Tryz.results100, go_sem, *]
end
section
set_option linter.unusedVariables false
set_option linter.unusedSimpArgs false
open Go.RowKit
/-- What fits. -/
def rufitB (d : Dc) : Bool := if d.k = 1 then decide (d.n ≤ 7) else if d.k = 2 then decide (d.n ≤ 7) else d.bx.all bxR
set_option maxRecDepth 100000 in
set_option maxHeartbeats 4000000 in
theorem rufit_any (w : World) (d : Dc) (v : Value) (h : ERd elR w v d.bx) :
    Calls Tryz.prog 99 #[dV d v] w fun e w' => e = .returned (.bool (rufitB d)) ∧ Below w.heap.size w w' := by
  have HBW : Below w.heap.size w (w.alloc (.cells (dcells d v).toArray 41)) := (Below.refl _ _).alloc (Nat.le_refl _) _
  have HA : Hid (∀ W, Below w.heap.size w W → Calls Tryz.prog 77 #[v] W fun e w' => e = .returned (.bool (d.bx.all bxR)) ∧ Below w.heap.size w w') := Lib.hid fun W hW => (allright_any W v d.bx (h.below hW)).mono fun e w' x => ⟨x.1, hW.trans (x.2.mono hW.size)⟩
  have HK := Lib.hid (Blk.new w 41 (dcells d v).toArray)
  have HB := Lib.hid HBW
  clear h HBW
  unfold rufitB
  simp only [dV]
  by_cases h1 : d.k = 1
  · have hb1 : (d.k == 1) = true := by simp [h1]
    rw [if_pos h1]
    go_enter Tryz.func99, Tryz.ntmps99
    go_upto_region 1 with fail
    generalize (w.alloc (.cells (dcells d v).toArray 41)) = W at *
    have x0 := HK.out.cell 0
    have x2 := HK.out.cell 2
    simp only [dcells, List.getElem?_toArray, List.getElem?_cons_zero, List.getElem?_cons_succ] at x0 x2
    rw [h1] at x0
    go_wp2_with fail
    go_ret
    exact ⟨rfl, HB.out⟩
  · by_cases h2 : d.k = 2
    · rw [if_neg h1, if_pos h2]
      go_enter Tryz.func99, Tryz.ntmps99
      go_upto_region 1 with fail
      generalize (w.alloc (.cells (dcells d v).toArray 41)) = W at *
      have x0 := HK.out.cell 0
      have x2 := HK.out.cell 2
      simp only [dcells, List.getElem?_toArray, List.getElem?_cons_zero, List.getElem?_cons_succ] at x0 x2
      rw [h2] at x0
      go_wp2_with fail
      go_ret
      exact ⟨rfl, HB.out⟩
    · have hb1 : (d.k == 1) = false := beq_eq_false_iff_ne.2 h1
      have hb2 : (d.k == 2) = false := beq_eq_false_iff_ne.2 h2
      rw [if_neg h1, if_neg h2]
      go_enter Tryz.func99, Tryz.ntmps99
      go_upto_region 1 with fail
      generalize (w.alloc (.cells (dcells d v).toArray 41)) = W at *
      have x0 := HK.out.cell 0
      have x3 := HK.out.cell 3
      simp only [dcells, List.getElem?_toArray, List.getElem?_cons_zero, List.getElem?_cons_succ] at x0 x3
      go_wp2_with fail
      refine (HA.out _ HB.out).mono ?_
      rintro e w1 ⟨rfl, hw⟩
      have HW := Lib.hid hw
      clear hw
      go_wp2_with fail
      go_ret
      exact ⟨rfl, HW.out⟩
set_option maxRecDepth 100000 in
set_option maxHeartbeats 4000000 in
theorem sum_num (w : World) (a : Wh) (ha : a.any = false) (hn : a.nm = []) (h0 : 0 ≤ a.n) (M : Int) (h7 : a.n ≤ M) (hM : M ≤ 62) (fv : Value) :
    Calls Tryz.prog 100 #[.agg #[.bool a.any, .string (bs a.nm), .int .i64 a.n, .int .i64 a.p.1, .int .i64 a.p.2], fv, .int .i64 M] w fun e w' => e = .returned (.tuple #[.int .i64 (2 ^ a.n.toNat), fauV 0 (0, 0)]) ∧ Below w.heap.size w w' := by
  rw [ha, hn]
  have HB : Hid (∀ x y : Array Value, Below w.heap.size w ((w.alloc (.cells x 39)).alloc (.cells y 29))) := Lib.hid fun x y => ((Below.refl _ _).alloc (Nat.le_refl _) _).alloc (by simp) _
  have hne : (!(bs ([] : Bs)).toList.isEmpty) = false := by rw [show (bs ([] : Bs)).toList = [] by simp [bs]]; rfl
  have hwr := pow_fits h0 h7 hM
  have hgt : ¬ M < a.n := by omega
  have hgd : decide (M < a.n) = false := decide_eq_false hgt
  have hb0 : (IntKind.i64.bits : Int) = 64 := rfl
  generalize a.n = n at *
  go_enter Tryz.func100, Tryz.ntmps100
  go_wp2_with fail
  refine bodyPost_ret (v := .tuple #[.int .i64 (2 ^ n.toNat), fauV 0 (0, 0)]) ?_ rfl ⟨rfl, HB.out _ _⟩
  simp [results, Tryz.results100, go_sem, *]
end
section
set_option linter.unusedVariables false
set_option linter.unusedSimpArgs false
open Go.RowKit Go.Maps
section
variable {T : List Value} {w : World} {q mo : Nat} {rv : Value} {bx : Int} {B C : Nat} {I : Int → Option Nat} {N : Int → Bs → Option (Dc × RV)}
theorem CkAt.below {w' : World} (h : CkAt B C T w q mo rv bx I N) (hb : Below w.heap.size w w') : CkAt B C T w' q mo rv bx I N := by
  obtain ⟨n, H, a, b, c⟩ := h.out
  refine ⟨h.blk.below hb h.blk.lt, ⟨n, H, a, b.below hb, c⟩, fun k i hk hi => ?_, h.no, h.zero, h.lo, h.low, h.inj⟩
  obtain ⟨n, H, a, b, c⟩ := h.inn k i hk hi
  exact ⟨n, H, a, b.below hb, c⟩
theorem CkAt.mlt (h : CkAt B C T w q mo rv bx I N) : mo < w.heap.size := by
  obtain ⟨n, H, a, b, c⟩ := h.out
  exact b.lt
theorem CkAt.qm (h : CkAt B C T w q mo rv bx I N) : q ≠ mo := by
  intro e
  obtain ⟨n, H, a, ⟨D, ⟨es, cl, hb, _⟩, _⟩, c⟩ := h.out
  have := h.blk
  unfold Blk at this
  rw [e, hb] at this
  cases this
theorem CkAt.qi (h : CkAt B C T w q mo rv bx I N) {k : Int} {b : Nat} (hk : I64 k) (hi : I k = some b) : q ≠ b := by
  intro e
  obtain ⟨n, H, a, ⟨D, ⟨es, cl, hb, _⟩, _⟩, c⟩ := h.inn k b hk hi
  have := h.blk
  unfold Blk at this
  rw [e, hb] at this
  cases this
theorem below_of_grown {B : Nat} {w w' : World} {b : Nat} (h : w.grownBy w' (some b)) (hb : B ≤ b) (hB : B ≤ w.heap.size) : Below B w w' :=
  ⟨h.os, h.tape, h.output, h.size, fun k hk => h.block k (by omega) (by simp; omega)⟩
def updI (I : Int → Option Nat) (k : Int) (b : Nat) : Int → Option Nat := fun j => if j = k then some b else I j
/-- A map for a kind that has none. -/
theorem CkAt.made (h : CkAt B C T w q mo rv bx I N) (k : Int) (hk : I64 k) (hC : C < maxLen) (hi : I k = none) :
    ∃ w', (Instr.mapUpdate 59 (.map (some mo)) (.int .i64 k) (.map (some w.heap.size))).run Tryz.prog (w.alloc (.map #[] 0)) = .ok () w' ∧ CkAt B (C + 1) T w' q mo rv bx (updI I k w.heap.size) N ∧ (w.alloc (.map #[] 0)).grownBy w' (some mo) := by
  obtain ⟨n, H, a, g, c⟩ := h.out
  have hmlt := g.lt
  have g1 := g.alloc (.map #[] 0)
  obtain ⟨w', h1, h2, h3⟩ := g1.store intKey Tryz.underlying59 (key_int k hk) (v := .map (some w.heap.size)) ⟨_, rfl⟩ (by omega)
  have hsz : (w.alloc (.map #[] 0)).heap.size = w.heap.size + 1 := by simp
  have hkeep : ∀ i, i < w.heap.size → i ≠ mo → w'.heap[i]? = w.heap[i]? := fun i hi hm => (h3.block i (by omega) (by simpa using hm)).trans (Below.heap_alloc w _ i hi)
  have hne : ∀ j b, I64 j → I j = some b → b < w.heap.size := fun j b hj hb => by
    obtain ⟨n, H, -, x, -⟩ := h.inn j b hj hb
    exact x.lt
  refine ⟨w', h1, ⟨(hkeep q h.blk.lt h.qm).trans h.blk, ⟨n + 1, _, by omega, h2, fun j hj => ?_⟩, fun j b hj hb => ?_, fun j hj hn => ?_, h.zero, h.lo, fun j b hb => ?_, fun j j' b hb hb' => ?_⟩, h3⟩
  · unfold putG updI
    by_cases e : j = k
    · subst e; rw [if_pos rfl, if_pos rfl]; rfl
    · rw [if_neg e, if_neg (by simpa using e)]; exact c j hj
  · unfold updI at hb
    by_cases e : j = k
    · rw [if_pos e] at hb
      cases hb
      subst e
      refine ⟨0, _, by omega, (GMap.made strKey w).keep (h3.block _ (by omega) (by simp; omega)), fun s hs => ?_⟩
      rw [h.no j hj hi s]; rfl
    · rw [if_neg e] at hb
      obtain ⟨n, H, x, y, z⟩ := h.inn j b hj hb
      exact ⟨n, H, by omega, y.keep (hkeep b y.lt (h.low j b hb).2.2), z⟩
  · unfold updI at hn
    by_cases e : j = k
    · rw [if_pos e] at hn; cases hn
    · rw [if_neg e] at hn; exact h.no j hj hn
  · unfold updI at hb
    by_cases e : j = k
    · rw [if_pos e] at hb; cases hb; exact ⟨e ▸ hk, by have := h.lo.2; omega, by omega⟩
    · rw [if_neg e] at hb; exact h.low j b hb
  · have hlt : ∀ j b, I j = some b → b < w.heap.size := fun j b hb => hne j b (h.low j b hb).1 hb
    unfold updI at hb hb'
    by_cases e : j = k
    · by_cases e' : j' = k
      · rw [e, e']
      · rw [if_pos e] at hb; rw [if_neg e'] at hb'; cases hb
        exact absurd (hlt j' _ hb') (by omega)
    · by_cases e' : j' = k
      · rw [if_neg e] at hb; rw [if_pos e'] at hb'; cases hb'
        exact absurd (hlt j _ hb) (by omega)
      · rw [if_neg e] at hb; rw [if_neg e'] at hb'
        exact h.inj j j' b hb hb'
def updN (N : Int → Bs → Option (Dc × RV)) (k : Int) (s : Bs) (x : Dc × RV) : Int → Bs → Option (Dc × RV) := fun j t => if j = k ∧ t = s then some x else N j t
/-- A name in a kind's map. -/
theorem CkAt.put (h : CkAt B C T w q mo rv bx I N) (k : Int) (b : Nat) (hC : C < maxLen) (hi : I k = some b) (s : Bs) (hs : s.length ≤ maxLen) (x : Dc × RV) (hx : dV x.1 x.2.v ∈ T) :
    ∃ w', (Instr.mapUpdate 146 (.map (some b)) (.string (bs s)) (dV x.1 x.2.v)).run Tryz.prog w = .ok () w' ∧ CkAt B (C + 1) T w' q mo rv bx I (updN N k s x) ∧ w.grownBy w' (some b) := by
  have hk := (h.low k b hi).1
  obtain ⟨n, H, a, g, c⟩ := h.inn k b hk hi
  obtain ⟨w', h1, h2, h3⟩ := g.store strKey Tryz.underlying146 (key_str s hs) (v := dV x.1 x.2.v) hx (by omega)
  have hkeep : ∀ i, i < w.heap.size → i ≠ b → w'.heap[i]? = w.heap[i]? := fun i hi hm => h3.block i hi (by simpa using hm)
  refine ⟨w', h1, ⟨(hkeep q h.blk.lt (h.qi hk hi)).trans h.blk, ?_, fun j d hj hd => ?_, fun j hj hn t => ?_, h.zero, h.lo, h.low, h.inj⟩, h3⟩
  · obtain ⟨n, H, x, y, z⟩ := h.out
    exact ⟨n, H, by omega, y.keep (hkeep mo y.lt (Ne.symm (h.low k b hi).2.2)), z⟩
  · by_cases e : j = k
    · subst e
      rw [hi] at hd
      cases hd
      refine ⟨n + 1, _, by omega, h2, fun t ht => ?_⟩
      unfold putG updN
      by_cases e : t = s
      · subst e; rw [if_pos rfl, if_pos ⟨rfl, rfl⟩]; rfl
      · rw [if_neg (fun h => e (by injection h)), if_neg (fun h => e h.2)]; exact c t ht
    · obtain ⟨n, H, x, y, z⟩ := h.inn j d hj hd
      have hdb : d ≠ b := fun hh => e (h.inj j k d hd (hh ▸ hi))
      refine ⟨n, H, by omega, y.keep (hkeep d y.lt hdb), fun t ht => ?_⟩
      rw [z t ht]; unfold updN; rw [if_neg (fun h => e h.1)]
  · have e : j ≠ k := fun e => by rw [e, hi] at hn; cases hn
    unfold updN
    rw [if_neg (fun h => e h.1)]
    exact h.no j hj hn t
end
end
section
set_option linter.unusedVariables false
set_option linter.unusedSimpArgs false
open Go.RowKit Go.Maps
/-- What declare tells. -/
def declE (N : Int → Bs → Option (Dc × RV)) (d : Dc) : Int := if (N d.k d.nm).isSome = true then 20 else if rufitB d = true then 0 else 33
theorem map_some (b : Nat) (w : World) : (binOp BinOp.eql 146 (.map (some b)) (.map none)).run Tryz.prog w = .ok (.bool false) w := by kernel_rfl
theorem map_none (w : World) : (binOp BinOp.eql 146 (.map none) (.map none)).run Tryz.prog w = .ok (.bool true) w := by kernel_rfl
/-- A declaration stored into a new block. -/
theorem store_new (w : World) (d : Dc) (v : Value) (hv : v.oneCell' = true) : (storeCells ⟨w.heap.size, 0, none⟩ (dcells d v)).run Tryz.prog (w.alloc (.cells #[.int .i64 0, .string ⟨#[]⟩, .int .i64 0, .slice none 0 0, .bool false, .string ⟨#[]⟩, .int .i64 0, .int .i64 0, .int .i64 0, .int .i64 0, .int .i64 0, .bool false, .string ⟨#[]⟩, .int .i64 0, .int .i64 0, .int .i64 0, .bool false, .string ⟨#[]⟩, .int .i64 0, .int .i64 0, .int .i64 0, .int .i64 0, .int .i64 0, .int .i64 0] 41)).drew.drew = .ok () ((w.alloc (.cells #[.int .i64 0, .string ⟨#[]⟩, .int .i64 0, .slice none 0 0, .bool false, .string ⟨#[]⟩, .int .i64 0, .int .i64 0, .int .i64 0, .int .i64 0, .int .i64 0, .bool false, .string ⟨#[]⟩, .int .i64 0, .int .i64 0, .int .i64 0, .bool false, .string ⟨#[]⟩, .int .i64 0, .int .i64 0, .int .i64 0, .int .i64 0, .int .i64 0, .int .i64 0] 41)).drew.drew.setCells w.heap.size 0 (dcells d v)) := by
  have hb : Blk (w.alloc (.cells #[.int .i64 0, .string ⟨#[]⟩, .int .i64 0, .slice none 0 0, .bool false, .string ⟨#[]⟩, .int .i64 0, .int .i64 0, .int .i64 0, .int .i64 0, .int .i64 0, .bool false, .string ⟨#[]⟩, .int .i64 0, .int .i64 0, .int .i64 0, .bool false, .string ⟨#[]⟩, .int .i64 0, .int .i64 0, .int .i64 0, .int .i64 0, .int .i64 0, .int .i64 0] 41)).drew.drew w.heap.size 41 #[.int .i64 0, .string ⟨#[]⟩, .int .i64 0, .slice none 0 0, .bool false, .string ⟨#[]⟩, .int .i64 0, .int .i64 0, .int .i64 0, .int .i64 0, .int .i64 0, .bool false, .string ⟨#[]⟩, .int .i64 0, .int .i64 0, .int .i64 0, .bool false, .string ⟨#[]⟩, .int .i64 0, .int .i64 0, .int .i64 0, .int .i64 0, .int .i64 0, .int .i64 0] := Blk.new w 41 #[.int .i64 0, .string ⟨#[]⟩, .int .i64 0, .slice none 0 0, .bool false, .string ⟨#[]⟩, .int .i64 0, .int .i64 0, .int .i64 0, .int .i64 0, .int .i64 0, .bool false, .string ⟨#[]⟩, .int .i64 0, .int .i64 0, .int .i64 0, .bool false, .string ⟨#[]⟩, .int .i64 0, .int .i64 0, .int .i64 0, .int .i64 0, .int .i64 0, .int .i64 0]
  have h1 : (dcells d v).all (·.oneCell') = true := by simpa using dcells_one d hv
  have h24 : (dcells d v).length = 24 := rfl
  have := run_storeCells_cells (P := Tryz.prog) w.heap.size 0 (dcells d v) 0 (w.alloc (.cells #[.int .i64 0, .string ⟨#[]⟩, .int .i64 0, .slice none 0 0, .bool false, .string ⟨#[]⟩, .int .i64 0, .int .i64 0, .int .i64 0, .int .i64 0, .int .i64 0, .bool false, .string ⟨#[]⟩, .int .i64 0, .int .i64 0, .int .i64 0, .bool false, .string ⟨#[]⟩, .int .i64 0, .int .i64 0, .int .i64 0, .int .i64 0, .int .i64 0, .int .i64 0] 41)).drew.drew (fun j hj => ?_) (fun j hj => hb.frozen _) (List.all_eq_true.1 h1)
  · simpa using this
  · rw [hb.cell, Nat.zero_add]
    rw [h24] at hj
    rw [Array.getElem?_eq_getElem (by simpa using hj)]
    rfl
theorem below_setCells {B g : Nat} {a : World} (hg : B ≤ g) : ∀ (vs : List Value) (i : Nat) (W : World), Below B a W → Below B a (W.setCells g i vs)
  | [], _, _, h => h
  | v :: r, i, W, h => below_setCells hg r (i + 1) _ (h.setCell (p := ⟨g, i, none⟩) hg v)
theorem CkAt.drew {T : List Value} {w : World} {q mo : Nat} {rv : Value} {bx : Int} {B C : Nat} {I : Int → Option Nat} {N : Int → Bs → Option (Dc × RV)} (h : CkAt B C T w q mo rv bx I N) : CkAt B C T w.drew q mo rv bx I N := ⟨h.blk, h.out, h.inn, h.no, h.zero, h.lo, h.low, h.inj⟩
set_option maxRecDepth 100000 in
set_option maxHeartbeats 4000000 in
theorem decl_twice {T : List Value} {w : World} {q mo : Nat} {rv : Value} {bx : Int} {B C : Nat} {I : Int → Option Nat} {N : Int → Bs → Option (Dc × RV)} (h : CkAt B C T w q mo rv bx I N) (d : Dc) (x : RV) (hk : I64 d.k) (hs : d.nm.length ≤ maxLen) (b : Nat) (hi : I d.k = some b) (hf : (N d.k d.nm).isSome = true) :
    Calls Tryz.prog 55 #[ptr q, dV d x.v] w fun e w' => e = .returned (.int .i64 20) ∧ Below w.heap.size w w' := by
  have HK := Lib.hid (Blk.new w 41 (dcells d x.v).toArray)
  have hB0 : Below w.heap.size w (w.alloc (.cells (dcells d x.v).toArray 41)) := (Below.refl _ _).alloc (Nat.le_refl _) _
  have HB := Lib.hid hB0
  have h' := h.below hB0
  have HL : Hid (∀ W', CkAt B C T W' q mo rv bx I N → W'.cell? ⟨q, 0, none⟩ = some (.map (some mo)) ∧ (Instr.lookup 59 (.map (some mo)) (.int .i64 d.k) false).run Tryz.prog W' = .ok (.map (some b)) W' ∧ (Instr.lookup 146 (.map (some b)) (.string (bs d.nm)) true).run Tryz.prog W' = .ok (.tuple #[dV (nmD (N d.k d.nm)).1 (nmD (N d.k d.nm)).2, .bool true]) W') := Lib.hid fun W' hW => by
    have k1 := hW.outer d.k hk
    have k2 := hW.inner d.k hk d.nm hs
    rw [hi] at k1 k2
    rw [hf] at k2
    exact ⟨hW.blk.cell 0, k1, k2⟩
  have HCK := Lib.hid h'
  clear h h' hB0 hi hf hs hk
  simp only [dV]
  go_enter Tryz.func55, Tryz.ntmps55
  go_upto_region 1 with fail
  generalize (w.alloc (.cells (dcells d x.v).toArray 41)) = W at *
  have x0 := HK.out.cell 0
  have x1 := HK.out.cell 1
  simp only [dcells, List.getElem?_toArray, List.getElem?_cons_zero, List.getElem?_cons_succ] at x0 x1
  obtain ⟨c0, k1, -⟩ := HL.out _ HCK.out.drew
  have c0' : W.cell? ⟨q, 0, none⟩ = some (.map (some mo)) := c0
  have k3 := map_some b W.drew
  go_region
  clear k1
  go_upto_region 3 with fail
  clear c0 c0' k3
  obtain ⟨c0, k1, k2⟩ := HL.out _ HCK.out.drew.drew
  have c0' : W.cell? ⟨q, 0, none⟩ = some (.map (some mo)) := c0
  clear c0
  have c0 : W.drew.drew.cell? ⟨q, 0, none⟩ = some (.map (some mo)) := c0'
  have x0' : W.drew.drew.cell? ⟨w.heap.size, 0, none⟩ = some (.int .i64 d.k) := x0
  have x1' : W.drew.drew.cell? ⟨w.heap.size, 1, none⟩ = some (.string (bs d.nm)) := x1
  obtain ⟨c0b, k1b, k2b⟩ := HL.out (W.alloc (.cells #[.int .i64 0, .string ⟨#[]⟩, .int .i64 0, .slice none 0 0, .bool false, .string ⟨#[]⟩, .int .i64 0, .int .i64 0, .int .i64 0, .int .i64 0, .int .i64 0, .bool false, .string ⟨#[]⟩, .int .i64 0, .int .i64 0, .int .i64 0, .bool false, .string ⟨#[]⟩, .int .i64 0, .int .i64 0, .int .i64 0, .int .i64 0, .int .i64 0, .int .i64 0] 41)).drew.drew (HCK.out.below ((Below.refl _ _).alloc (Nat.le_refl _) _)).drew.drew
  have x0b : (W.alloc (.cells #[.int .i64 0, .string ⟨#[]⟩, .int .i64 0, .slice none 0 0, .bool false, .string ⟨#[]⟩, .int .i64 0, .int .i64 0, .int .i64 0, .int .i64 0, .int .i64 0, .bool false, .string ⟨#[]⟩, .int .i64 0, .int .i64 0, .int .i64 0, .bool false, .string ⟨#[]⟩, .int .i64 0, .int .i64 0, .int .i64 0, .int .i64 0, .int .i64 0, .int .i64 0] 41)).cell? ⟨w.heap.size, 0, none⟩ = some (.int .i64 d.k) := ((HK.out.alloc _).cell 0).trans rfl
  have x1b : (W.alloc (.cells #[.int .i64 0, .string ⟨#[]⟩, .int .i64 0, .slice none 0 0, .bool false, .string ⟨#[]⟩, .int .i64 0, .int .i64 0, .int .i64 0, .int .i64 0, .int .i64 0, .bool false, .string ⟨#[]⟩, .int .i64 0, .int .i64 0, .int .i64 0, .bool false, .string ⟨#[]⟩, .int .i64 0, .int .i64 0, .int .i64 0, .int .i64 0, .int .i64 0, .int .i64 0] 41)).cell? ⟨w.heap.size, 1, none⟩ = some (.string (bs d.nm)) := ((HK.out.alloc _).cell 1).trans rfl
  have c0c : (W.alloc (.cells #[.int .i64 0, .string ⟨#[]⟩, .int .i64 0, .slice none 0 0, .bool false, .string ⟨#[]⟩, .int .i64 0, .int .i64 0, .int .i64 0, .int .i64 0, .int .i64 0, .bool false, .string ⟨#[]⟩, .int .i64 0, .int .i64 0, .int .i64 0, .bool false, .string ⟨#[]⟩, .int .i64 0, .int .i64 0, .int .i64 0, .int .i64 0, .int .i64 0, .int .i64 0] 41)).cell? ⟨q, 0, none⟩ = some (.map (some mo)) := c0b
  have x0c : (W.alloc (.cells #[.int .i64 0, .string ⟨#[]⟩, .int .i64 0, .slice none 0 0, .bool false, .string ⟨#[]⟩, .int .i64 0, .int .i64 0, .int .i64 0, .int .i64 0, .int .i64 0, .bool false, .string ⟨#[]⟩, .int .i64 0, .int .i64 0, .int .i64 0, .bool false, .string ⟨#[]⟩, .int .i64 0, .int .i64 0, .int .i64 0, .int .i64 0, .int .i64 0, .int .i64 0] 41)).drew.drew.cell? ⟨w.heap.size, 0, none⟩ = some (.int .i64 d.k) := x0b
  have x1c : (W.alloc (.cells #[.int .i64 0, .string ⟨#[]⟩, .int .i64 0, .slice none 0 0, .bool false, .string ⟨#[]⟩, .int .i64 0, .int .i64 0, .int .i64 0, .int .i64 0, .int .i64 0, .bool false, .string ⟨#[]⟩, .int .i64 0, .int .i64 0, .int .i64 0, .bool false, .string ⟨#[]⟩, .int .i64 0, .int .i64 0, .int .i64 0, .int .i64 0, .int .i64 0, .int .i64 0] 41)).drew.drew.cell? ⟨w.heap.size, 1, none⟩ = some (.string (bs d.nm)) := x1b
  have hyo := nmD_one (N d.k d.nm)
  generalize nmD (N d.k d.nm) = y at *
  simp only [dV] at k2 k2b
  have hl24 : (dcells y.1 y.2).length = 24 := rfl
  have hst := store_new W y.1 y.2 hyo
  have HBZ := Lib.hid (below_setCells (g := W.heap.size) HB.out.size (dcells y.1 y.2) 0 _ ((HB.out.alloc HB.out.size (.cells #[.int .i64 0, .string ⟨#[]⟩, .int .i64 0, .slice none 0 0, .bool false, .string ⟨#[]⟩, .int .i64 0, .int .i64 0, .int .i64 0, .int .i64 0, .int .i64 0, .bool false, .string ⟨#[]⟩, .int .i64 0, .int .i64 0, .int .i64 0, .bool false, .string ⟨#[]⟩, .int .i64 0, .int .i64 0, .int .i64 0, .int .i64 0, .int .i64 0, .int .i64 0] 41)).drew.drew))
  go_region
  clear c0 c0' c0b c0c k1 k1b k2 k2b x0 x1 x0' x1' x0b x1b x0c x1c hst hl24 hyo HL HCK HK
  generalize ((W.alloc (.cells #[.int .i64 0, .string ⟨#[]⟩, .int .i64 0, .slice none 0 0, .bool false, .string ⟨#[]⟩, .int .i64 0, .int .i64 0, .int .i64 0, .int .i64 0, .int .i64 0, .bool false, .string ⟨#[]⟩, .int .i64 0, .int .i64 0, .int .i64 0, .bool false, .string ⟨#[]⟩, .int .i64 0, .int .i64 0, .int .i64 0, .int .i64 0, .int .i64 0, .int .i64 0] 41)).drew.drew.setCells W.heap.size 0 (dcells y.1 y.2)) = W9 at *
  go_wp2_with fail
  go_ret
  exact ⟨rfl, HBZ.out⟩
end
section
set_option linter.unusedVariables false
set_option linter.unusedSimpArgs false
open Go.RowKit Go.Maps
theorem Blk.setCells_far {w : Nat} {t : TypeId} {cs : Array Value} {g : Nat} (hg : w ≠ g) : ∀ (vs : List Value) (i : Nat) (W : World), Blk W w t cs → Blk (W.setCells g i vs) w t cs
  | [], _, _, h => h
  | v :: r, i, W, h => Blk.setCells_far hg r (i + 1) _ (h.far (p := ⟨g, i, none⟩) hg v)
attribute [local go_sem ↓] to_ld44
attribute [local go_sem] run_ld24
set_option maxRecDepth 100000 in
set_option maxHeartbeats 4000000 in
theorem decl_range {T : List Value} {w : World} {q mo : Nat} {rv : Value} {bx : Int} {B C : Nat} {I : Int → Option Nat} {N : Int → Bs → Option (Dc × RV)} (h : CkAt B C T w q mo rv bx I N) (d : Dc) (x : RV) (hk : I64 d.k) (hs : d.nm.length ≤ maxLen) (b : Nat) (hi : I d.k = some b) (hf : (N d.k d.nm).isSome = false) (hE : ERd elR w x.v d.bx) (ho : x.v.oneCell' = true) (hfit : rufitB d = false) :
    Calls Tryz.prog 55 #[ptr q, dV d x.v] w fun e w' => e = .returned (.int .i64 33) ∧ Below w.heap.size w w' := by
  have HK := Lib.hid (Blk.new w 41 (dcells d x.v).toArray)
  have hB0 : Below w.heap.size w (w.alloc (.cells (dcells d x.v).toArray 41)) := (Below.refl _ _).alloc (Nat.le_refl _) _
  have HB := Lib.hid hB0
  have h' := h.below hB0
  have HL : Hid (∀ W', CkAt B C T W' q mo rv bx I N → W'.cell? ⟨q, 0, none⟩ = some (.map (some mo)) ∧ (Instr.lookup 59 (.map (some mo)) (.int .i64 d.k) false).run Tryz.prog W' = .ok (.map (some b)) W' ∧ (Instr.lookup 146 (.map (some b)) (.string (bs d.nm)) true).run Tryz.prog W' = .ok (.tuple #[dV (nmD (N d.k d.nm)).1 (nmD (N d.k d.nm)).2, .bool false]) W') := Lib.hid fun W' hW => by
    have k1 := hW.outer d.k hk
    have k2 := hW.inner d.k hk d.nm hs
    rw [hi] at k1 k2
    rw [hf] at k2
    exact ⟨hW.blk.cell 0, k1, k2⟩
  have HCK := Lib.hid h'
  have HFI := Lib.hid fun W' (hW : Below w.heap.size w W') => rufit_any W' d x.v (hE.below hW)
  rw [hfit] at HFI
  clear h h' hB0 hi hf hs hk
  simp only [dV]
  go_enter Tryz.func55, Tryz.ntmps55
  go_upto_region 1 with fail
  generalize (w.alloc (.cells (dcells d x.v).toArray 41)) = W at *
  have x0 := HK.out.cell 0
  have x1 := HK.out.cell 1
  simp only [dcells, List.getElem?_toArray, List.getElem?_cons_zero, List.getElem?_cons_succ] at x0 x1
  obtain ⟨c0, k1, -⟩ := HL.out _ HCK.out.drew
  have c0' : W.cell? ⟨q, 0, none⟩ = some (.map (some mo)) := c0
  have k3 := map_some b W.drew
  go_region
  clear k1
  go_upto_region 3 with fail
  clear c0 c0' k3
  obtain ⟨c0, k1, k2⟩ := HL.out _ HCK.out.drew.drew
  have c0' : W.cell? ⟨q, 0, none⟩ = some (.map (some mo)) := c0
  clear c0
  have c0 : W.drew.drew.cell? ⟨q, 0, none⟩ = some (.map (some mo)) := c0'
  have x0' : W.drew.drew.cell? ⟨w.heap.size, 0, none⟩ = some (.int .i64 d.k) := x0
  have x1' : W.drew.drew.cell? ⟨w.heap.size, 1, none⟩ = some (.string (bs d.nm)) := x1
  obtain ⟨c0b, k1b, k2b⟩ := HL.out (W.alloc (.cells #[.int .i64 0, .string ⟨#[]⟩, .int .i64 0, .slice none 0 0, .bool false, .string ⟨#[]⟩, .int .i64 0, .int .i64 0, .int .i64 0, .int .i64 0, .int .i64 0, .bool false, .string ⟨#[]⟩, .int .i64 0, .int .i64 0, .int .i64 0, .bool false, .string ⟨#[]⟩, .int .i64 0, .int .i64 0, .int .i64 0, .int .i64 0, .int .i64 0, .int .i64 0] 41)).drew.drew (HCK.out.below ((Below.refl _ _).alloc (Nat.le_refl _) _)).drew.drew
  have x0b : (W.alloc (.cells #[.int .i64 0, .string ⟨#[]⟩, .int .i64 0, .slice none 0 0, .bool false, .string ⟨#[]⟩, .int .i64 0, .int .i64 0, .int .i64 0, .int .i64 0, .int .i64 0, .bool false, .string ⟨#[]⟩, .int .i64 0, .int .i64 0, .int .i64 0, .bool false, .string ⟨#[]⟩, .int .i64 0, .int .i64 0, .int .i64 0, .int .i64 0, .int .i64 0, .int .i64 0] 41)).cell? ⟨w.heap.size, 0, none⟩ = some (.int .i64 d.k) := ((HK.out.alloc _).cell 0).trans rfl
  have x1b : (W.alloc (.cells #[.int .i64 0, .string ⟨#[]⟩, .int .i64 0, .slice none 0 0, .bool false, .string ⟨#[]⟩, .int .i64 0, .int .i64 0, .int .i64 0, .int .i64 0, .int .i64 0, .bool false, .string ⟨#[]⟩, .int .i64 0, .int .i64 0, .int .i64 0, .bool false, .string ⟨#[]⟩, .int .i64 0, .int .i64 0, .int .i64 0, .int .i64 0, .int .i64 0, .int .i64 0] 41)).cell? ⟨w.heap.size, 1, none⟩ = some (.string (bs d.nm)) := ((HK.out.alloc _).cell 1).trans rfl
  have c0c : (W.alloc (.cells #[.int .i64 0, .string ⟨#[]⟩, .int .i64 0, .slice none 0 0, .bool false, .string ⟨#[]⟩, .int .i64 0, .int .i64 0, .int .i64 0, .int .i64 0, .int .i64 0, .bool false, .string ⟨#[]⟩, .int .i64 0, .int .i64 0, .int .i64 0, .bool false, .string ⟨#[]⟩, .int .i64 0, .int .i64 0, .int .i64 0, .int .i64 0, .int .i64 0, .int .i64 0] 41)).cell? ⟨q, 0, none⟩ = some (.map (some mo)) := c0b
  have x0c : (W.alloc (.cells #[.int .i64 0, .string ⟨#[]⟩, .int .i64 0, .slice none 0 0, .bool false, .string ⟨#[]⟩, .int .i64 0, .int .i64 0, .int .i64 0, .int .i64 0, .int .i64 0, .bool false, .string ⟨#[]⟩, .int .i64 0, .int .i64 0, .int .i64 0, .bool false, .string ⟨#[]⟩, .int .i64 0, .int .i64 0, .int .i64 0, .int .i64 0, .int .i64 0, .int .i64 0] 41)).drew.drew.cell? ⟨w.heap.size, 0, none⟩ = some (.int .i64 d.k) := x0b
  have x1c : (W.alloc (.cells #[.int .i64 0, .string ⟨#[]⟩, .int .i64 0, .slice none 0 0, .bool false, .string ⟨#[]⟩, .int .i64 0, .int .i64 0, .int .i64 0, .int .i64 0, .int .i64 0, .bool false, .string ⟨#[]⟩, .int .i64 0, .int .i64 0, .int .i64 0, .bool false, .string ⟨#[]⟩, .int .i64 0, .int .i64 0, .int .i64 0, .int .i64 0, .int .i64 0, .int .i64 0] 41)).drew.drew.cell? ⟨w.heap.size, 1, none⟩ = some (.string (bs d.nm)) := x1b
  have hyo := nmD_one (N d.k d.nm)
  generalize nmD (N d.k d.nm) = y at *
  simp only [dV] at k2 k2b
  have hl24 : (dcells y.1 y.2).length = 24 := rfl
  have hst := store_new W y.1 y.2 hyo
  have HBZ := Lib.hid (below_setCells (g := W.heap.size) HB.out.size (dcells y.1 y.2) 0 _ ((HB.out.alloc HB.out.size (.cells #[.int .i64 0, .string ⟨#[]⟩, .int .i64 0, .slice none 0 0, .bool false, .string ⟨#[]⟩, .int .i64 0, .int .i64 0, .int .i64 0, .int .i64 0, .int .i64 0, .bool false, .string ⟨#[]⟩, .int .i64 0, .int .i64 0, .int .i64 0, .bool false, .string ⟨#[]⟩, .int .i64 0, .int .i64 0, .int .i64 0, .int .i64 0, .int .i64 0, .int .i64 0] 41)).drew.drew))
  have HK9 := Lib.hid (Blk.setCells_far (g := W.heap.size) (Nat.ne_of_lt HK.out.lt) (dcells y.1 y.2) 0 _ (show Blk (W.alloc (.cells #[.int .i64 0, .string ⟨#[]⟩, .int .i64 0, .slice none 0 0, .bool false, .string ⟨#[]⟩, .int .i64 0, .int .i64 0, .int .i64 0, .int .i64 0, .int .i64 0, .bool false, .string ⟨#[]⟩, .int .i64 0, .int .i64 0, .int .i64 0, .bool false, .string ⟨#[]⟩, .int .i64 0, .int .i64 0, .int .i64 0, .int .i64 0, .int .i64 0, .int .i64 0] 41)).drew.drew w.heap.size 41 (dcells d x.v).toArray from HK.out.alloc _))
  go_region
  clear c0 c0' c0b c0c k1 k1b k2 k2b x0 x1 x0' x1' x0b x1b x0c x1c hst hl24 hyo HL HCK HK HB
  generalize ((W.alloc (.cells #[.int .i64 0, .string ⟨#[]⟩, .int .i64 0, .slice none 0 0, .bool false, .string ⟨#[]⟩, .int .i64 0, .int .i64 0, .int .i64 0, .int .i64 0, .int .i64 0, .bool false, .string ⟨#[]⟩, .int .i64 0, .int .i64 0, .int .i64 0, .bool false, .string ⟨#[]⟩, .int .i64 0, .int .i64 0, .int .i64 0, .int .i64 0, .int .i64 0, .int .i64 0] 41)).drew.drew.setCells W.heap.size 0 (dcells y.1 y.2)) = W9 at *
  have hrg : Rng W9 w.heap.size (dcells d x.v) := (Blk.range HK9.out)
  have hrd := hrg.rd rfl
  have hld : ld24 W9 w.heap.size = .agg (dcells d x.v).toArray := ld24_of rfl hrg
  have HF9 := Lib.hid (HFI.out W9 HBZ.out)
  simp only [dV] at HF9
  clear hrg HFI HK9
  go_wp2_with fail
  refine HF9.out.mono ?_
  rintro e w1 ⟨rfl, hw⟩
  have HW := Lib.hid (HBZ.out.trans (hw.mono HBZ.out.size))
  clear hw HF9
  go_wp2_with fail
  go_ret
  exact ⟨rfl, HW.out⟩
end
section
set_option linter.unusedVariables false
set_option linter.unusedSimpArgs false
open Go.RowKit Go.Maps
attribute [local go_sem ↓] to_ld44
attribute [local go_sem] run_ld24
set_option maxRecDepth 100000 in
set_option maxHeartbeats 4000000 in
theorem decl_ok {T : List Value} {w : World} {q mo : Nat} {rv : Value} {bx : Int} {B C : Nat} {I : Int → Option Nat} {N : Int → Bs → Option (Dc × RV)} (h : CkAt B C T w q mo rv bx I N) (d : Dc) (x : RV) (hk : I64 d.k) (hs : d.nm.length ≤ maxLen) (b : Nat) (hi : I d.k = some b) (hf : (N d.k d.nm).isSome = false) (hE : ERd elR w x.v d.bx) (ho : x.v.oneCell' = true) (hfit : rufitB d = true) (hBw : B ≤ w.heap.size) (hT : dV d x.v ∈ T) (hC : C < maxLen) :
    Calls Tryz.prog 55 #[ptr q, dV d x.v] w fun e w' => e = .returned (.int .i64 0) ∧ CkAt B (C + 1) T w' q mo rv bx I (updN N d.k d.nm (d, x)) ∧ Below B w w' := by
  have HK := Lib.hid (Blk.new w 41 (dcells d x.v).toArray)
  have hB0 : Below w.heap.size w (w.alloc (.cells (dcells d x.v).toArray 41)) := (Below.refl _ _).alloc (Nat.le_refl _) _
  have HB := Lib.hid hB0
  have h' := h.below hB0
  have HL : Hid (∀ W', CkAt B C T W' q mo rv bx I N → W'.cell? ⟨q, 0, none⟩ = some (.map (some mo)) ∧ (Instr.lookup 59 (.map (some mo)) (.int .i64 d.k) false).run Tryz.prog W' = .ok (.map (some b)) W' ∧ (Instr.lookup 146 (.map (some b)) (.string (bs d.nm)) true).run Tryz.prog W' = .ok (.tuple #[dV (nmD (N d.k d.nm)).1 (nmD (N d.k d.nm)).2, .bool false]) W') := Lib.hid fun W' hW => by
    have k1 := hW.outer d.k hk
    have k2 := hW.inner d.k hk d.nm hs
    rw [hi] at k1 k2
    rw [hf] at k2
    exact ⟨hW.blk.cell 0, k1, k2⟩
  have HCK := Lib.hid h'
  have H0 := Lib.hid h
  have HPU := Lib.hid fun W' (hW : CkAt B C T W' q mo rv bx I N) => hW.put d.k b hC hi d.nm hs (d, x) hT
  have HLO := Lib.hid ((h.low d.k b hi).2.1)
  have HBW := Lib.hid hBw
  have HFI := Lib.hid fun W' (hW : Below w.heap.size w W') => rufit_any W' d x.v (hE.below hW)
  rw [hfit] at HFI
  clear h h' hB0 hi hf hs hk
  simp only [dV]
  go_enter Tryz.func55, Tryz.ntmps55
  go_upto_region 1 with fail
  generalize (w.alloc (.cells (dcells d x.v).toArray 41)) = W at *
  have x0 := HK.out.cell 0
  have x1 := HK.out.cell 1
  simp only [dcells, List.getElem?_toArray, List.getElem?_cons_zero, List.getElem?_cons_succ] at x0 x1
  obtain ⟨c0, k1, -⟩ := HL.out _ HCK.out.drew
  have c0' : W.cell? ⟨q, 0, none⟩ = some (.map (some mo)) := c0
  have k3 := map_some b W.drew
  go_region
  clear k1
  go_upto_region 3 with fail
  clear c0 c0' k3
  obtain ⟨c0, k1, k2⟩ := HL.out _ HCK.out.drew.drew
  have c0' : W.cell? ⟨q, 0, none⟩ = some (.map (some mo)) := c0
  clear c0
  have c0 : W.drew.drew.cell? ⟨q, 0, none⟩ = some (.map (some mo)) := c0'
  have x0' : W.drew.drew.cell? ⟨w.heap.size, 0, none⟩ = some (.int .i64 d.k) := x0
  have x1' : W.drew.drew.cell? ⟨w.heap.size, 1, none⟩ = some (.string (bs d.nm)) := x1
  obtain ⟨c0b, k1b, k2b⟩ := HL.out (W.alloc (.cells #[.int .i64 0, .string ⟨#[]⟩, .int .i64 0, .slice none 0 0, .bool false, .string ⟨#[]⟩, .int .i64 0, .int .i64 0, .int .i64 0, .int .i64 0, .int .i64 0, .bool false, .string ⟨#[]⟩, .int .i64 0, .int .i64 0, .int .i64 0, .bool false, .string ⟨#[]⟩, .int .i64 0, .int .i64 0, .int .i64 0, .int .i64 0, .int .i64 0, .int .i64 0] 41)).drew.drew (HCK.out.below ((Below.refl _ _).alloc (Nat.le_refl _) _)).drew.drew
  have x0b : (W.alloc (.cells #[.int .i64 0, .string ⟨#[]⟩, .int .i64 0, .slice none 0 0, .bool false, .string ⟨#[]⟩, .int .i64 0, .int .i64 0, .int .i64 0, .int .i64 0, .int .i64 0, .bool false, .string ⟨#[]⟩, .int .i64 0, .int .i64 0, .int .i64 0, .bool false, .string ⟨#[]⟩, .int .i64 0, .int .i64 0, .int .i64 0, .int .i64 0, .int .i64 0, .int .i64 0] 41)).cell? ⟨w.heap.size, 0, none⟩ = some (.int .i64 d.k) := ((HK.out.alloc _).cell 0).trans rfl
  have x1b : (W.alloc (.cells #[.int .i64 0, .string ⟨#[]⟩, .int .i64 0, .slice none 0 0, .bool false, .string ⟨#[]⟩, .int .i64 0, .int .i64 0, .int .i64 0, .int .i64 0, .int .i64 0, .bool false, .string ⟨#[]⟩, .int .i64 0, .int .i64 0, .int .i64 0, .bool false, .string ⟨#[]⟩, .int .i64 0, .int .i64 0, .int .i64 0, .int .i64 0, .int .i64 0, .int .i64 0] 41)).cell? ⟨w.heap.size, 1, none⟩ = some (.string (bs d.nm)) := ((HK.out.alloc _).cell 1).trans rfl
  have c0c : (W.alloc (.cells #[.int .i64 0, .string ⟨#[]⟩, .int .i64 0, .slice none 0 0, .bool false, .string ⟨#[]⟩, .int .i64 0, .int .i64 0, .int .i64 0, .int .i64 0, .int .i64 0, .bool false, .string ⟨#[]⟩, .int .i64 0, .int .i64 0, .int .i64 0, .bool false, .string ⟨#[]⟩, .int .i64 0, .int .i64 0, .int .i64 0, .int .i64 0, .int .i64 0, .int .i64 0] 41)).cell? ⟨q, 0, none⟩ = some (.map (some mo)) := c0b
  have x0c : (W.alloc (.cells #[.int .i64 0, .string ⟨#[]⟩, .int .i64 0, .slice none 0 0, .bool false, .string ⟨#[]⟩, .int .i64 0, .int .i64 0, .int .i64 0, .int .i64 0, .int .i64 0, .bool false, .string ⟨#[]⟩, .int .i64 0, .int .i64 0, .int .i64 0, .bool false, .string ⟨#[]⟩, .int .i64 0, .int .i64 0, .int .i64 0, .int .i64 0, .int .i64 0, .int .i64 0] 41)).drew.drew.cell? ⟨w.heap.size, 0, none⟩ = some (.int .i64 d.k) := x0b
  have x1c : (W.alloc (.cells #[.int .i64 0, .string ⟨#[]⟩, .int .i64 0, .slice none 0 0, .bool false, .string ⟨#[]⟩, .int .i64 0, .int .i64 0, .int .i64 0, .int .i64 0, .int .i64 0, .bool false, .string ⟨#[]⟩, .int .i64 0, .int .i64 0, .int .i64 0, .bool false, .string ⟨#[]⟩, .int .i64 0, .int .i64 0, .int .i64 0, .int .i64 0, .int .i64 0, .int .i64 0] 41)).drew.drew.cell? ⟨w.heap.size, 1, none⟩ = some (.string (bs d.nm)) := x1b
  have hyo := nmD_one (N d.k d.nm)
  generalize nmD (N d.k d.nm) = y at *
  simp only [dV] at k2 k2b
  have hl24 : (dcells y.1 y.2).length = 24 := rfl
  have hst := store_new W y.1 y.2 hyo
  have HBZ := Lib.hid (below_setCells (g := W.heap.size) HB.out.size (dcells y.1 y.2) 0 _ ((HB.out.alloc HB.out.size (.cells #[.int .i64 0, .string ⟨#[]⟩, .int .i64 0, .slice none 0 0, .bool false, .string ⟨#[]⟩, .int .i64 0, .int .i64 0, .int .i64 0, .int .i64 0, .int .i64 0, .bool false, .string ⟨#[]⟩, .int .i64 0, .int .i64 0, .int .i64 0, .bool false, .string ⟨#[]⟩, .int .i64 0, .int .i64 0, .int .i64 0, .int .i64 0, .int .i64 0, .int .i64 0] 41)).drew.drew))
  have HK9 := Lib.hid (Blk.setCells_far (g := W.heap.size) (Nat.ne_of_lt HK.out.lt) (dcells y.1 y.2) 0 _ (show Blk (W.alloc (.cells #[.int .i64 0, .string ⟨#[]⟩, .int .i64 0, .slice none 0 0, .bool false, .string ⟨#[]⟩, .int .i64 0, .int .i64 0, .int .i64 0, .int .i64 0, .int .i64 0, .bool false, .string ⟨#[]⟩, .int .i64 0, .int .i64 0, .int .i64 0, .bool false, .string ⟨#[]⟩, .int .i64 0, .int .i64 0, .int .i64 0, .int .i64 0, .int .i64 0, .int .i64 0] 41)).drew.drew w.heap.size 41 (dcells d x.v).toArray from HK.out.alloc _))
  go_region
  clear c0 c0' c0b c0c k1 k1b k2 k2b x0 x1 x0' x1' x0b x1b x0c x1c hst hl24 hyo HCK HK HB
  generalize ((W.alloc (.cells #[.int .i64 0, .string ⟨#[]⟩, .int .i64 0, .slice none 0 0, .bool false, .string ⟨#[]⟩, .int .i64 0, .int .i64 0, .int .i64 0, .int .i64 0, .int .i64 0, .bool false, .string ⟨#[]⟩, .int .i64 0, .int .i64 0, .int .i64 0, .bool false, .string ⟨#[]⟩, .int .i64 0, .int .i64 0, .int .i64 0, .int .i64 0, .int .i64 0, .int .i64 0] 41)).drew.drew.setCells W.heap.size 0 (dcells y.1 y.2)) = W9 at *
  have hrg : Rng W9 w.heap.size (dcells d x.v) := (Blk.range HK9.out)
  have hrd := hrg.rd rfl
  have hld : ld24 W9 w.heap.size = .agg (dcells d x.v).toArray := ld24_of rfl hrg
  have HF9 := Lib.hid (HFI.out W9 HBZ.out)
  simp only [dV] at HF9
  clear hrg HFI
  go_wp2_with fail
  refine HF9.out.mono ?_
  rintro e w1 ⟨rfl, hw⟩
  have HK1 := Lib.hid (HK9.out.below hw HK9.out.lt)
  have HW := Lib.hid (HBZ.out.trans (hw.mono HBZ.out.size))
  clear hw HF9 HK9 hrd hld HBZ
  have HC1 := Lib.hid (H0.out.below HW.out)
  obtain ⟨c0, k1, -⟩ := HL.out _ HC1.out.drew
  have c0' : w1.cell? ⟨q, 0, none⟩ = some (.map (some mo)) := c0
  have x0 := HK1.out.cell 0
  have x1 := HK1.out.cell 1
  simp only [dcells, List.getElem?_toArray, List.getElem?_cons_zero, List.getElem?_cons_succ] at x0 x1
  have x0' : w1.drew.cell? ⟨w.heap.size, 0, none⟩ = some (.int .i64 d.k) := x0
  have x1' : w1.drew.cell? ⟨w.heap.size, 1, none⟩ = some (.string (bs d.nm)) := x1
  have hrg : Rng w1.drew w.heap.size (dcells d x.v) := Blk.range HK1.out
  have hrd := hrg.rd rfl
  have hld : ld24 w1.drew w.heap.size = .agg (dcells d x.v).toArray := ld24_of rfl hrg
  obtain ⟨W2, hpu, hck2, hgr⟩ := HPU.out _ HC1.out.drew
  simp only [dV] at hpu
  have HCK2 := Lib.hid hck2
  have HB2 := Lib.hid ((HW.out.mono HBW.out).drew.trans (below_of_grown hgr HLO.out (Nat.le_trans HBW.out HW.out.size)))
  clear hck2 hgr HPU HL HC1 HK1 HW H0 HBW HLO hrg
  go_upto_region 8 with fail
  go_region
  go_wp2_with fail
  go_ret
  exact ⟨rfl, HCK2.out, HB2.out⟩
end
section
set_option linter.unusedVariables false
set_option linter.unusedSimpArgs false
open Go.RowKit Go.Maps
theorem But.grownR {r : Nat} {a w w' : World} (h : But r a w) (hg : w.grownBy w' (some r)) : But r a w' :=
  ⟨hg.os.trans h.os, hg.tape.trans h.tape, hg.output.trans h.output, Nat.le_trans h.size hg.size, fun k hk hr => (hg.block k (by have := h.size; omega) (by simpa using hr)).trans (h.block k hk hr)⟩
theorem But.grownF {r b : Nat} {a w w' : World} (h : But r a w) (hb : a.heap.size ≤ b) (hg : w.grownBy w' (some b)) : But r a w' :=
  ⟨hg.os.trans h.os, hg.tape.trans h.tape, hg.output.trans h.output, Nat.le_trans h.size hg.size, fun k hk hr => (hg.block k (by have := h.size; omega) (by simp; omega)).trans (h.block k hk hr)⟩
attribute [local go_sem ↓] to_ld44
attribute [local go_sem] run_ld24
theorem make_map (W : World) : (Instr.makeMap 146 none).run Tryz.prog W.drew.drew = .ok (.map (some W.heap.size)) (W.alloc (.map #[] 0)).drew.drew := by kernel_rfl
/-- A declaration stored into a new block. -/
theorem store_new1 (w : World) (d : Dc) (v : Value) (hv : v.oneCell' = true) : (storeCells ⟨w.heap.size, 0, none⟩ (dcells d v)).run Tryz.prog (w.alloc (.cells #[.int .i64 0, .string ⟨#[]⟩, .int .i64 0, .slice none 0 0, .bool false, .string ⟨#[]⟩, .int .i64 0, .int .i64 0, .int .i64 0, .int .i64 0, .int .i64 0, .bool false, .string ⟨#[]⟩, .int .i64 0, .int .i64 0, .int .i64 0, .bool false, .string ⟨#[]⟩, .int .i64 0, .int .i64 0, .int .i64 0, .int .i64 0, .int .i64 0, .int .i64 0] 41)).drew = .ok () ((w.alloc (.cells #[.int .i64 0, .string ⟨#[]⟩, .int .i64 0, .slice none 0 0, .bool false, .string ⟨#[]⟩, .int .i64 0, .int .i64 0, .int .i64 0, .int .i64 0, .int .i64 0, .bool false, .string ⟨#[]⟩, .int .i64 0, .int .i64 0, .int .i64 0, .bool false, .string ⟨#[]⟩, .int .i64 0, .int .i64 0, .int .i64 0, .int .i64 0, .int .i64 0, .int .i64 0] 41)).drew.setCells w.heap.size 0 (dcells d v)) := by
  have hb : Blk (w.alloc (.cells #[.int .i64 0, .string ⟨#[]⟩, .int .i64 0, .slice none 0 0, .bool false, .string ⟨#[]⟩, .int .i64 0, .int .i64 0, .int .i64 0, .int .i64 0, .int .i64 0, .bool false, .string ⟨#[]⟩, .int .i64 0, .int .i64 0, .int .i64 0, .bool false, .string ⟨#[]⟩, .int .i64 0, .int .i64 0, .int .i64 0, .int .i64 0, .int .i64 0, .int .i64 0] 41)).drew w.heap.size 41 #[.int .i64 0, .string ⟨#[]⟩, .int .i64 0, .slice none 0 0, .bool false, .string ⟨#[]⟩, .int .i64 0, .int .i64 0, .int .i64 0, .int .i64 0, .int .i64 0, .bool false, .string ⟨#[]⟩, .int .i64 0, .int .i64 0, .int .i64 0, .bool false, .string ⟨#[]⟩, .int .i64 0, .int .i64 0, .int .i64 0, .int .i64 0, .int .i64 0, .int .i64 0] := Blk.new w 41 #[.int .i64 0, .string ⟨#[]⟩, .int .i64 0, .slice none 0 0, .bool false, .string ⟨#[]⟩, .int .i64 0, .int .i64 0, .int .i64 0, .int .i64 0, .int .i64 0, .bool false, .string ⟨#[]⟩, .int .i64 0, .int .i64 0, .int .i64 0, .bool false, .string ⟨#[]⟩, .int .i64 0, .int .i64 0, .int .i64 0, .int .i64 0, .int .i64 0, .int .i64 0]
  have h1 : (dcells d v).all (·.oneCell') = true := by simpa using dcells_one d hv
  have h24 : (dcells d v).length = 24 := rfl
  have := run_storeCells_cells (P := Tryz.prog) w.heap.size 0 (dcells d v) 0 (w.alloc (.cells #[.int .i64 0, .string ⟨#[]⟩, .int .i64 0, .slice none 0 0, .bool false, .string ⟨#[]⟩, .int .i64 0, .int .i64 0, .int .i64 0, .int .i64 0, .int .i64 0, .bool false, .string ⟨#[]⟩, .int .i64 0, .int .i64 0, .int .i64 0, .bool false, .string ⟨#[]⟩, .int .i64 0, .int .i64 0, .int .i64 0, .int .i64 0, .int .i64 0, .int .i64 0] 41)).drew (fun j hj => ?_) (fun j hj => hb.frozen _) (List.all_eq_true.1 h1)
  · simpa using this
  · rw [hb.cell, Nat.zero_add]
    rw [h24] at hj
    rw [Array.getElem?_eq_getElem (by simpa using hj)]
    rfl
set_option maxRecDepth 100000 in
set_option maxHeartbeats 4000000 in
theorem decl_new {T : List Value} {w : World} {q mo : Nat} {rv : Value} {bx : Int} {B C : Nat} {I : Int → Option Nat} {N : Int → Bs → Option (Dc × RV)} (h : CkAt B C T w q mo rv bx I N) (d : Dc) (x : RV) (hk : I64 d.k) (hs : d.nm.length ≤ maxLen) (hi : I d.k = none) (hE : ∀ W, Below B w W → ERd elR W x.v d.bx) (ho : x.v.oneCell' = true) (hfit : rufitB d = true) (hBw : B ≤ w.heap.size) (hT : dV d x.v ∈ T) (hC : C + 1 < maxLen) :
    Calls Tryz.prog 55 #[ptr q, dV d x.v] w fun e w' => e = .returned (.int .i64 0) ∧ (∃ b, w.heap.size ≤ b ∧ CkAt B (C + 1 + 1) T w' q mo rv bx (updI I d.k b) (updN N d.k d.nm (d, x))) ∧ But mo w w' := by
  have HK := Lib.hid (Blk.new w 41 (dcells d x.v).toArray)
  have hB0 : Below w.heap.size w (w.alloc (.cells (dcells d x.v).toArray 41)) := (Below.refl _ _).alloc (Nat.le_refl _) _
  have HB := Lib.hid hB0
  have h' := h.below hB0
  have HCK := Lib.hid h'
  have HMK := Lib.hid fun W' (hW : CkAt B C T W' q mo rv bx I N) => hW.made d.k hk (by omega) hi
  have HO := Lib.hid fun W' (hW : CkAt B C T W' q mo rv bx I N) => hW.outer d.k hk
  have HNN := Lib.hid (h.no d.k hk hi d.nm)
  have HMO := Lib.hid h.lo
  have HKK := Lib.hid (show I64 d.k ∧ d.nm.length ≤ maxLen ∧ dV d x.v ∈ T ∧ C + 1 < maxLen from ⟨hk, hs, hT, hC⟩)
  have HBW := Lib.hid hBw
  have HE := Lib.hid hE
  have HFF := Lib.hid hfit
  rw [hi] at HO
  have HII := Lib.hid hi
  clear h h' hB0 hi hs hk hT hC hBw hE hfit
  simp only [dV]
  go_enter Tryz.func55, Tryz.ntmps55
  go_upto_region 1 with fail
  generalize (w.alloc (.cells (dcells d x.v).toArray 41)) = W at *
  have x0 := HK.out.cell 0
  simp only [dcells, List.getElem?_toArray, List.getElem?_cons_zero, List.getElem?_cons_succ] at x0
  have c0' : W.cell? ⟨q, 0, none⟩ = some (.map (some mo)) := HCK.out.blk.cell 0
  have k1 := HO.out _ HCK.out.drew
  have k3 := map_none W.drew
  go_region
  clear k1
  go_upto_region 2 with fail
  clear k3
  obtain ⟨W2, hmk, hck2, hgr⟩ := HMK.out _ HCK.out.drew.drew
  have hmk' : (Instr.mapUpdate 59 (.map (some mo)) (.int .i64 d.k) (.map (some W.heap.size))).run Tryz.prog (W.alloc (.map #[] 0)).drew.drew = .ok () W2 := hmk
  have c0 : (W.alloc (.map #[] 0)).cell? ⟨q, 0, none⟩ = some (.map (some mo)) := (HCK.out.blk.alloc _).cell 0
  have x0' : (W.alloc (.map #[] 0)).cell? ⟨w.heap.size, 0, none⟩ = some (.int .i64 d.k) := ((HK.out.alloc _).cell 0).trans rfl
  have hgr' : (W.alloc (.map #[] 0)).grownBy W2 (some mo) := ⟨hgr.os, hgr.tape, hgr.output, hgr.size, hgr.block⟩
  have HCK2 : Hid (CkAt B (C + 1) T W2 q mo rv bx (updI I d.k W.heap.size) N) := Lib.hid hck2
  have HK2 := Lib.hid ((HK.out.alloc (.map #[] 0)).grown hgr' (by
    have := HMO.out.2
    intro e
    cases e
    obtain ⟨n, H, -, g, -⟩ := HCK.out.out
    obtain ⟨D, ⟨es, cl, hb, _⟩, _⟩ := g
    have hk := HK.out
    unfold Blk at hk
    rw [hb] at hk
    cases hk))
  have HB2 := Lib.hid (((HB.out.mono HBW.out).alloc (Nat.le_trans HBW.out HB.out.size) (.map #[] 0)).trans (below_of_grown hgr' HMO.out.2 (by have := HB.out.size; have := HBW.out; simp; omega)))
  have HBM : Hid (But mo w W2) := Lib.hid (((But.of_below HB.out).trans (But.of_below ((Below.refl _ _).alloc (Nat.le_refl _) (.map #[] 0)))).grownR hgr')
  have hmm : (Instr.makeMap 146 none).run Tryz.prog W.drew.drew = .ok (.map (some W.heap.size)) (W.alloc (.map #[] 0)).drew.drew := make_map W
  clear hck2 hgr hgr'
  go_region
  have HBG : Hid (w.heap.size ≤ W.heap.size) := Lib.hid HB.out.size
  clear hmm hmk hmk' c0 x0' c0' x0 HCK HK HB HMK HO
  generalize hb0 : W.heap.size = b at *
  have hI : updI I d.k b d.k = some b := by simp [updI]
  have HEY : Hid (∀ I2, I2 = updI I d.k b → ∃ b', w.heap.size ≤ b' ∧ I2 = updI I d.k b') := Lib.hid fun I2 h => ⟨b, HBG.out, h⟩
  obtain ⟨I2, hI2⟩ : ∃ I2, I2 = updI I d.k b := ⟨_, rfl⟩
  have HEX := Lib.hid (HEY.out I2 hI2)
  rw [← hI2] at hI HCK2
  clear HEY hI2
  have HBA := HB2
  clear HB2
  have HCK := HCK2
  have HK := HK2
  clear HCK2 HK2
  have HB := Lib.hid (Below.refl W2.heap.size W2)
  have hNf : (N d.k d.nm).isSome = false := by rw [HNN.out]; rfl
  have HL : Hid (∀ W', CkAt B (C + 1) T W' q mo rv bx I2 N → W'.cell? ⟨q, 0, none⟩ = some (.map (some mo)) ∧ (Instr.lookup 59 (.map (some mo)) (.int .i64 d.k) false).run Tryz.prog W' = .ok (.map (some b)) W' ∧ (Instr.lookup 146 (.map (some b)) (.string (bs d.nm)) true).run Tryz.prog W' = .ok (.tuple #[dV (nmD (N d.k d.nm)).1 (nmD (N d.k d.nm)).2, .bool false]) W') := Lib.hid fun W' hW => by
    have k1 := hW.outer d.k HKK.out.1
    have k2 := hW.inner d.k HKK.out.1 d.nm HKK.out.2.1
    rw [hI] at k1 k2
    rw [hNf] at k2
    exact ⟨hW.blk.cell 0, k1, k2⟩
  have H0 := HCK
  have HPU := Lib.hid fun W' (hW : CkAt B (C + 1) T W' q mo rv bx I2 N) => hW.put d.k b HKK.out.2.2.2 hI d.nm HKK.out.2.1 (d, x) HKK.out.2.2.1
  have HLO := Lib.hid ((HCK.out.low d.k b hI).2.1)
  have HBW2 := Lib.hid (Nat.le_trans HBW.out HBA.out.size)
  have HFI := Lib.hid fun W' (hW : Below W2.heap.size W2 W') => rufit_any W' d x.v (HE.out W' (HBA.out.trans (hW.mono HBW2.out)))
  rw [HFF.out] at HFI
  have x0 := HK.out.cell 0
  have x1 := HK.out.cell 1
  simp only [dcells, List.getElem?_toArray, List.getElem?_cons_zero, List.getElem?_cons_succ] at x0 x1
  clear hI hNf HKK HE HFF HII HNN HMO
  go_upto_region 3 with fail
  obtain ⟨c0, k1, k2⟩ := HL.out _ HCK.out.drew
  have c0' : W2.cell? ⟨q, 0, none⟩ = some (.map (some mo)) := c0
  clear c0
  have c0 : W2.drew.cell? ⟨q, 0, none⟩ = some (.map (some mo)) := c0'
  have x0' : W2.drew.cell? ⟨w.heap.size, 0, none⟩ = some (.int .i64 d.k) := x0
  have x1' : W2.drew.cell? ⟨w.heap.size, 1, none⟩ = some (.string (bs d.nm)) := x1
  obtain ⟨c0b, k1b, k2b⟩ := HL.out (W2.alloc (.cells #[.int .i64 0, .string ⟨#[]⟩, .int .i64 0, .slice none 0 0, .bool false, .string ⟨#[]⟩, .int .i64 0, .int .i64 0, .int .i64 0, .int .i64 0, .int .i64 0, .bool false, .string ⟨#[]⟩, .int .i64 0, .int .i64 0, .int .i64 0, .bool false, .string ⟨#[]⟩, .int .i64 0, .int .i64 0, .int .i64 0, .int .i64 0, .int .i64 0, .int .i64 0] 41)).drew (HCK.out.below ((Below.refl _ _).alloc (Nat.le_refl _) _)).drew
  have x0b : (W2.alloc (.cells #[.int .i64 0, .string ⟨#[]⟩, .int .i64 0, .slice none 0 0, .bool false, .string ⟨#[]⟩, .int .i64 0, .int .i64 0, .int .i64 0, .int .i64 0, .int .i64 0, .bool false, .string ⟨#[]⟩, .int .i64 0, .int .i64 0, .int .i64 0, .bool false, .string ⟨#[]⟩, .int .i64 0, .int .i64 0, .int .i64 0, .int .i64 0, .int .i64 0, .int .i64 0] 41)).cell? ⟨w.heap.size, 0, none⟩ = some (.int .i64 d.k) := ((HK.out.alloc _).cell 0).trans rfl
  have x1b : (W2.alloc (.cells #[.int .i64 0, .string ⟨#[]⟩, .int .i64 0, .slice none 0 0, .bool false, .string ⟨#[]⟩, .int .i64 0, .int .i64 0, .int .i64 0, .int .i64 0, .int .i64 0, .bool false, .string ⟨#[]⟩, .int .i64 0, .int .i64 0, .int .i64 0, .bool false, .string ⟨#[]⟩, .int .i64 0, .int .i64 0, .int .i64 0, .int .i64 0, .int .i64 0, .int .i64 0] 41)).cell? ⟨w.heap.size, 1, none⟩ = some (.string (bs d.nm)) := ((HK.out.alloc _).cell 1).trans rfl
  have c0c : (W2.alloc (.cells #[.int .i64 0, .string ⟨#[]⟩, .int .i64 0, .slice none 0 0, .bool false, .string ⟨#[]⟩, .int .i64 0, .int .i64 0, .int .i64 0, .int .i64 0, .int .i64 0, .bool false, .string ⟨#[]⟩, .int .i64 0, .int .i64 0, .int .i64 0, .bool false, .string ⟨#[]⟩, .int .i64 0, .int .i64 0, .int .i64 0, .int .i64 0, .int .i64 0, .int .i64 0] 41)).cell? ⟨q, 0, none⟩ = some (.map (some mo)) := c0b
  have x0c : (W2.alloc (.cells #[.int .i64 0, .string ⟨#[]⟩, .int .i64 0, .slice none 0 0, .bool false, .string ⟨#[]⟩, .int .i64 0, .int .i64 0, .int .i64 0, .int .i64 0, .int .i64 0, .bool false, .string ⟨#[]⟩, .int .i64 0, .int .i64 0, .int .i64 0, .bool false, .string ⟨#[]⟩, .int .i64 0, .int .i64 0, .int .i64 0, .int .i64 0, .int .i64 0, .int .i64 0] 41)).drew.cell? ⟨w.heap.size, 0, none⟩ = some (.int .i64 d.k) := x0b
  have x1c : (W2.alloc (.cells #[.int .i64 0, .string ⟨#[]⟩, .int .i64 0, .slice none 0 0, .bool false, .string ⟨#[]⟩, .int .i64 0, .int .i64 0, .int .i64 0, .int .i64 0, .int .i64 0, .bool false, .string ⟨#[]⟩, .int .i64 0, .int .i64 0, .int .i64 0, .bool false, .string ⟨#[]⟩, .int .i64 0, .int .i64 0, .int .i64 0, .int .i64 0, .int .i64 0, .int .i64 0] 41)).drew.cell? ⟨w.heap.size, 1, none⟩ = some (.string (bs d.nm)) := x1b
  have hyo := nmD_one (N d.k d.nm)
  generalize nmD (N d.k d.nm) = y at *
  simp only [dV] at k2 k2b
  have hl24 : (dcells y.1 y.2).length = 24 := rfl
  have hst := store_new1 W2 y.1 y.2 hyo
  have HBZ := Lib.hid (below_setCells (g := W2.heap.size) HB.out.size (dcells y.1 y.2) 0 _ ((HB.out.alloc HB.out.size (.cells #[.int .i64 0, .string ⟨#[]⟩, .int .i64 0, .slice none 0 0, .bool false, .string ⟨#[]⟩, .int .i64 0, .int .i64 0, .int .i64 0, .int .i64 0, .int .i64 0, .bool false, .string ⟨#[]⟩, .int .i64 0, .int .i64 0, .int .i64 0, .bool false, .string ⟨#[]⟩, .int .i64 0, .int .i64 0, .int .i64 0, .int .i64 0, .int .i64 0, .int .i64 0] 41)).drew))
  have HK9 := Lib.hid (Blk.setCells_far (g := W2.heap.size) (Nat.ne_of_lt HK.out.lt) (dcells y.1 y.2) 0 _ (show Blk (W2.alloc (.cells #[.int .i64 0, .string ⟨#[]⟩, .int .i64 0, .slice none 0 0, .bool false, .string ⟨#[]⟩, .int .i64 0, .int .i64 0, .int .i64 0, .int .i64 0, .int .i64 0, .bool false, .string ⟨#[]⟩, .int .i64 0, .int .i64 0, .int .i64 0, .bool false, .string ⟨#[]⟩, .int .i64 0, .int .i64 0, .int .i64 0, .int .i64 0, .int .i64 0, .int .i64 0] 41)).drew w.heap.size 41 (dcells d x.v).toArray from HK.out.alloc _))
  go_region
  clear c0 c0' c0b c0c k1 k1b k2 k2b x0 x1 x0' x1' x0b x1b x0c x1c hst hl24 hyo HCK HK HB
  generalize ((W2.alloc (.cells #[.int .i64 0, .string ⟨#[]⟩, .int .i64 0, .slice none 0 0, .bool false, .string ⟨#[]⟩, .int .i64 0, .int .i64 0, .int .i64 0, .int .i64 0, .int .i64 0, .bool false, .string ⟨#[]⟩, .int .i64 0, .int .i64 0, .int .i64 0, .bool false, .string ⟨#[]⟩, .int .i64 0, .int .i64 0, .int .i64 0, .int .i64 0, .int .i64 0, .int .i64 0] 41)).drew.setCells W2.heap.size 0 (dcells y.1 y.2)) = W9 at *
  have hrg : Rng W9 w.heap.size (dcells d x.v) := (Blk.range HK9.out)
  have hrd := hrg.rd rfl
  have hld : ld24 W9 w.heap.size = .agg (dcells d x.v).toArray := ld24_of rfl hrg
  have HF9 := Lib.hid (HFI.out W9 HBZ.out)
  simp only [dV] at HF9
  clear hrg HFI
  go_wp2_with fail
  refine HF9.out.mono ?_
  rintro e w1 ⟨rfl, hw⟩
  have HK1 := Lib.hid (HK9.out.below hw HK9.out.lt)
  have HW := Lib.hid (HBZ.out.trans (hw.mono HBZ.out.size))
  clear hw HF9 HK9 hrd hld HBZ
  have HC1 := Lib.hid (H0.out.below HW.out)
  obtain ⟨c0, k1, -⟩ := HL.out _ HC1.out.drew
  have c0' : w1.cell? ⟨q, 0, none⟩ = some (.map (some mo)) := c0
  have x0 := HK1.out.cell 0
  have x1 := HK1.out.cell 1
  simp only [dcells, List.getElem?_toArray, List.getElem?_cons_zero, List.getElem?_cons_succ] at x0 x1
  have x0' : w1.drew.cell? ⟨w.heap.size, 0, none⟩ = some (.int .i64 d.k) := x0
  have x1' : w1.drew.cell? ⟨w.heap.size, 1, none⟩ = some (.string (bs d.nm)) := x1
  have hrg : Rng w1.drew w.heap.size (dcells d x.v) := Blk.range HK1.out
  have hrd := hrg.rd rfl
  have hld : ld24 w1.drew w.heap.size = .agg (dcells d x.v).toArray := ld24_of rfl hrg
  obtain ⟨W3, hpu, hck2, hgr⟩ := HPU.out _ HC1.out.drew
  simp only [dV] at hpu
  have HCK2 := Lib.hid hck2
  have HB2 := Lib.hid ((HBM.out.trans (But.of_below HW.out.drew)).grownF HBG.out hgr)
  clear hck2 hgr HPU HL HC1 HK1 HW H0 HBW2 HLO hrg
  go_upto_region 8 with fail
  go_region
  go_wp2_with fail
  go_ret
  refine ⟨rfl, ?_, HB2.out⟩
  obtain ⟨b', hbb, hb'⟩ := HEX.out
  exact ⟨b', hbb, hb' ▸ HCK2.out⟩
end
end Go.Proofs.YtkpmeelbjldcoaaGreatDoor
