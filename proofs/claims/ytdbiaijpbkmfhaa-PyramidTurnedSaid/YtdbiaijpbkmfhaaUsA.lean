/- slices.Sort at uint64: a row of numbers; insertionSort, siftDown, heapSort, reverseRange, the pivot, breakPatterns. -/
import Derived.Test.YtdbiaijpbkmfhaaBlk
import Derived.Test.YtdbiaijpbkmfhaaGeom
import Derived.BigQuiet
import Derived.BigRegion
import Derived.Deep.QuietTactic
import Derived.Deep.RegionLaw
import Derived.Deep.DeepCutAuto
import Derived.Deep.LoopGhost
import Derived.Sort.AssemblyPlain
import Derived.Test.YtdbiaijpbkmfhaaShelf
import Derived.Laws.Bits64b
import Derived.Sort.Row
import Derived.Lib.BitFns
namespace Go.Proofs.Ytdbiaijpbkmfhaa.U6
section
set_option linter.unusedVariables false
set_option linter.unusedSimpArgs false
open Go.RowKit
abbrev En := Int
def ltE (x y : Int) : Bool := decide (x < y)
theorem swo_ltE : Sort.SWO ltE where
  irrefl := fun x => by simp [ltE]
  trans := fun x y z h k => by simp only [ltE, decide_eq_true_eq] at *; omega
  ntrans := fun x y z h k => by simp only [ltE, decide_eq_false_iff_not] at *; omega
/-- The numbers d at the head of block g. -/
def URow (w : World) (g cap : Nat) (d : Array Int) : Prop := ∃ cur, Blk w g 60 cur ∧ cur.size = cap ∧ d.size ≤ cap ∧ cap ≤ maxLen ∧ ∀ i, i < d.size → cur[i]? = some (.int .u64 d[i]!)
theorem URow.lt {w : World} {g cap : Nat} {d : Array Int} (h : URow w g cap d) : g < w.heap.size := by obtain ⟨cur, h1, _⟩ := h; exact h1.lt
theorem URow.keep {w w' : World} {g cap : Nat} {d : Array Int} (h : URow w g cap d) (hk : w'.heap[g]? = w.heap[g]?) : URow w' g cap d := by
  obtain ⟨cur, h1, h2⟩ := h
  exact ⟨cur, hk.trans h1, h2⟩
theorem URow.cell {w : World} {g cap : Nat} {d : Array Int} (h : URow w g cap d) {i : Nat} (hi : i < d.size) : w.cell? ⟨g, i, none⟩ = some (.int .u64 d[i]!) := by
  obtain ⟨cur, h1, h2, h3, h4, h5⟩ := h
  rw [h1.cell]; exact h5 i hi
theorem URow.frozen {w : World} {g cap : Nat} {d : Array Int} (h : URow w g cap d) (i : Nat) : w.frozen? ⟨g, i, none⟩ = false := by
  obtain ⟨cur, h1, _⟩ := h
  exact h1.frozen i
/-- Since w0 nothing that was there is changed but the row in g, which holds the numbers d. -/
def SA (w0 : World) (g cap : Nat) (d : Array Int) (w : World) : Prop := g < w0.heap.size ∧ URow w g cap d ∧ w0.grownBy w (some g)
theorem ugrown_below {a b c : World} {r : Option Nat} (h : a.grownBy b r) (k : Below b.heap.size b c) : a.grownBy c r :=
  ⟨k.os.trans h.os, k.tape.trans h.tape, k.output.trans h.output, Nat.le_trans h.size k.size, fun i hi hne => (k.block i (Nat.lt_of_lt_of_le hi h.size)).trans (h.block i hi hne)⟩
theorem SA.below {w0 w w' : World} {g cap : Nat} {d : Array Int} (h : SA w0 g cap d w) (hb : Below w.heap.size w w') : SA w0 g cap d w' := ⟨h.1, h.2.1.keep (hb.block g h.2.1.lt), ugrown_below h.2.2 hb⟩
theorem SA.size {w0 w : World} {g cap : Nat} {d : Array Int} (h : SA w0 g cap d w) : w0.heap.size ≤ w.heap.size := h.2.2.size
theorem SA.drewN {w0 w : World} {g cap : Nat} {d : Array Int} (h : SA w0 g cap d w) (q : Nat) : SA w0 g cap d (w.drewN q) := h.below (below_drawn (Below.refl _ _) q)
theorem SA.cell {w0 w : World} {g cap n : Nat} {d : Array Int} (h : SA w0 g cap d w) (hs : d.size = n) {i : Nat} (hi : i < n) : w.cell? ⟨g, i, none⟩ = some (.int .u64 d[i]!) := h.2.1.cell (by omega)
theorem SA.frozen {w0 w : World} {g cap : Nat} {d : Array Int} (h : SA w0 g cap d w) (i : Nat) : w.frozen? ⟨g, i, none⟩ = false := h.2.1.frozen i
theorem unan_any (x : Int) (w : World) : Calls Try.prog 75 #[.int .u64 x] w fun e w' => e = .returned (.bool false) ∧ w' = w := by
  go_enter Try.func75, Try.ntmps75
  go_wp2
  go_ret
  simp
theorem uless_any (x y : Int) (w : World) : Calls Try.prog 65 #[.int .u64 x, .int .u64 y] w fun e w' => e = .returned (.bool (ltE x y)) ∧ w' = w := by
  have h1 := Lib.hid (fun x => unan_any x)
  go_enter Try.func65, Try.ntmps65
  go_wp2_with fail
  refine (h1.out _ _).mono ?_
  rintro e w2 ⟨rfl, hw⟩
  subst hw
  go_wp2
  go_ret
  exact ⟨rfl, rfl⟩
theorem uswap_cur {w : World} {g cap : Nat} {d : Array Int} (h : URow w g cap d) {i j : Nat} (hi : i < d.size) (hj : j < d.size) :
    URow ((w.setCell ⟨g, i, none⟩ (.int .u64 d[j]!)).setCell ⟨g, j, none⟩ (.int .u64 d[i]!)) g cap (Sort.swp d i j) := by
  obtain ⟨cur, h1, h2, h3, h4, h5⟩ := h
  refine ⟨_, (h1.set_ i _).set_ j _, by simp [h2], by rw [Sort.size_swp]; exact h3, h4, fun k hk => ?_⟩
  rw [Sort.size_swp] at hk
  by_cases e1 : k = j
  · subst e1
    rw [Sort.swp_right d i k hk]
    simp [Array.getElem?_setIfInBounds]
    omega
  · by_cases e2 : k = i
    · subst e2
      rw [Sort.swp_left d k j hk e1]
      simp [Array.getElem?_setIfInBounds, Ne.symm e1]
      omega
    · rw [Sort.swp_other d i j k e2 e1]
      simp [Array.getElem?_setIfInBounds, Ne.symm e1, Ne.symm e2]
      exact h5 k hk
theorem ugrown_set {w : World} {g i j : Nat} {u v : Value} : w.grownBy ((w.setCell ⟨g, i, none⟩ u).setCell ⟨g, j, none⟩ v) (some g) := by
  refine ⟨rfl, rfl, rfl, by simp, fun k hk hne => ?_⟩
  have hg : k ≠ g := fun e => hne (by rw [e])
  rw [Below.heap_setCell _ _ _ _ (by simpa using hg), Below.heap_setCell _ _ _ _ (by simpa using hg)]
theorem ugrown_trans {a b c : World} {g : Nat} (h : a.grownBy b (some g)) (k : b.grownBy c (some g)) : a.grownBy c (some g) :=
  ⟨k.os.trans h.os, k.tape.trans h.tape, k.output.trans h.output, Nat.le_trans h.size k.size, fun i hi hne => (k.block i (Nat.lt_of_lt_of_le hi h.size) hne).trans (h.block i hi hne)⟩
theorem SA.swp {w0 w : World} {g cap n : Nat} {d : Array Int} (h : SA w0 g cap d w) (hs : d.size = n) {i j : Nat} (hi : i < n) (hj : j < n) : SA w0 g cap (Sort.swp d i j) ((w.setCell ⟨g, i, none⟩ (.int .u64 d[j]!)).setCell ⟨g, j, none⟩ (.int .u64 d[i]!)) :=
  ⟨h.1, uswap_cur h.2.1 (by omega) (by omega), ugrown_trans h.2.2 ugrown_set⟩
theorem insInner_go1 (a j : Nat) (d : Array Int) (h : a < j) (hl : ltE d[j]! d[j - 1]! = true) : Sort.insInner ltE a j d = Sort.insInner ltE a (j - 1) (Sort.swp d j (j - 1)) := by
  obtain ⟨k, rfl⟩ : ∃ k, j = k + 1 := ⟨j - 1, by omega⟩
  simp only [Nat.add_sub_cancel] at hl ⊢
  rw [Sort.insInner, if_pos (by simp [hl]; omega)]
theorem insInner_stop1 (a j : Nat) (d : Array Int) (h : j ≤ a ∨ ltE d[j]! d[j - 1]! = false) : Sort.insInner ltE a j d = d := by
  cases j with
  | zero => rfl
  | succ k =>
    rw [Sort.insInner, if_neg]
    simp only [Nat.add_sub_cancel] at h
    rcases h with h | h
    · simp; omega
    · simp [h]
/-- The sort's function has ended, the row has d'. -/
def SP (w0 : World) (g cap : Nat) (d' : Array Int) (e : Ending) (w' : World) : Prop := e = .returned (.tuple #[]) ∧ SA w0 g cap d' w'
def InsR (w0 : World) (g cap n a b : Nat) (d : Array Int) (i : Nat) (w : World) : Prop := ∃ dk : Array Int, dk.size = n ∧ SA w0 g cap dk w ∧ Sort.insOuter ltE a b i dk = Sort.insOuter ltE a b (a + 1) d
def InsI (w0 : World) (g cap n a : Nat) (d : Array Int) (i j : Nat) (w : World) : Prop := ∃ dk : Array Int, dk.size = n ∧ SA w0 g cap dk w ∧ Sort.insInner ltE a j dk = Sort.insInner ltE a i d
theorem SA.at_ {w0 w : World} {g cap n : Nat} {d : Array En} (h : SA w0 g cap d w) (hs : d.size = n) {i : Nat} {I : Int} (hi : i < n) (hI : (i : Int) = I) :
    w.cell? ⟨g, i, none⟩ = some (.int .u64 d[i]!) ∧ w.frozen? ⟨g, i, none⟩ = false ∧ I < (n : Int) ∧ 0 ≤ I ∧ I.toNat = i ∧ I ≤ 9223372036854775807 := by
  have h9 : n ≤ 9223372036854775807 := by
    obtain ⟨cur, _, _, h3, h4, _⟩ := h.2.1
    have : maxLen ≤ 9223372036854775807 := by decide
    omega
  exact ⟨h.cell hs hi, h.frozen i, by omega, by omega, by omega, by omega⟩
theorem SA.lss {w0 w : World} {g cap n : Nat} {d : Array En} (h : SA w0 g cap d w) (hs : d.size = n) {i j : Nat} (hi : i < n) (hj : j < n) {v : Bool} (hl : ltE d[i]! d[j]! = v) :
    ∃ x y : Int, w.cell? ⟨g, i, none⟩ = some (.int .u64 x) ∧ w.cell? ⟨g, j, none⟩ = some (.int .u64 y) ∧ ∀ w', Calls Try.prog 65 #[.int .u64 x, .int .u64 y] w' fun e w2 => e = .returned (.bool v) ∧ w2 = w' :=
  ⟨_, _, h.cell hs hi, h.cell hs hj, fun w' => by have := uless_any d[i]! d[j]! w'; rw [hl] at this; exact this⟩
theorem SA.swp9 {w0 w : World} {g cap n : Nat} {d : Array En} (h : SA w0 g cap d w) (hs : d.size = n) {i j : Nat} (hi : i < n) (hj : j < n) :
    ∃ x y : Int, w.cell? ⟨g, i, none⟩ = some (.int .u64 x) ∧ w.cell? ⟨g, j, none⟩ = some (.int .u64 y) ∧ w.frozen? ⟨g, i, none⟩ = false ∧ w.frozen? ⟨g, j, none⟩ = false ∧
      SA w0 g cap (Sort.swp d i j) ((w.setCell ⟨g, i, none⟩ (.int .u64 y)).setCell ⟨g, j, none⟩ (.int .u64 x)).drew :=
  ⟨_, _, h.cell hs hi, h.cell hs hj, h.frozen i, h.frozen j, (h.swp hs hi hj).drewN 1⟩
theorem SA.swp9b {w0 w : World} {g cap n : Nat} {d : Array En} (h : SA w0 g cap d w) (hs : d.size = n) {i j : Nat} (hi : i < n) (hj : j < n) :
    ∃ x y : Int, w.cell? ⟨g, i, none⟩ = some (.int .u64 x) ∧ w.cell? ⟨g, j, none⟩ = some (.int .u64 y) ∧ w.frozen? ⟨g, i, none⟩ = false ∧ w.frozen? ⟨g, j, none⟩ = false ∧
      SA w0 g cap (Sort.swp d i j) ((w.setCell ⟨g, i, none⟩ (.int .u64 y)).setCell ⟨g, j, none⟩ (.int .u64 x)).drew ∧ w.grownBy ((w.setCell ⟨g, i, none⟩ (.int .u64 y)).setCell ⟨g, j, none⟩ (.int .u64 x)).drew (some g) :=
  ⟨_, _, h.cell hs hi, h.cell hs hj, h.frozen i, h.frozen j, (h.swp hs hi hj).drewN 1, ugrown_below ugrown_set (below_drawn (Below.refl _ _) 1)⟩
theorem SA.word2 {w0 w z : World} {g cap : Nat} {d : Array En} (h : SA w0 g cap d w ∧ z.grownBy w (some g)) : ∃ w', w = w' ∧ SA w0 g cap d w' ∧ z.grownBy w' (some g) := ⟨_, rfl, h⟩
theorem SA.mid {w0 w : World} {g cap n : Nat} {d : Array En} (h : SA w0 g cap d w) (hs : d.size = n) {i j : Nat} (hi : i < n) (hj : j < n) {x y : Int} (c1 : w.cell? ⟨g, i, none⟩ = some (.int .u64 x)) (c2 : w.cell? ⟨g, j, none⟩ = some (.int .u64 y)) :
    (w.setCell ⟨g, i, none⟩ (.int .u64 y)).cell? ⟨g, j, none⟩ = some (.int .u64 y) := by
  obtain ⟨cur, h1, h2, h3, h4, h5⟩ := h.2.1
  rw [(h1.set_ i _).cell]
  rw [h1.cell] at c1 c2
  by_cases e : i = j
  · subst e
    have : i < cur.size := (Array.getElem?_eq_some_iff.1 c1).1
    simp [this]
  · rw [Array.getElem?_setIfInBounds_ne e]
    exact c2
theorem SA.set {w0 w : World} {g cap : Nat} {d : Array En} (h : SA w0 g cap d w) (b o : Nat) (v : Value) (hb : w0.heap.size ≤ b) : SA w0 g cap d (w.setCell ⟨b, o, none⟩ v) := by
  have hne : ∀ i, i < w0.heap.size → (w.setCell ⟨b, o, none⟩ v).heap[i]? = w.heap[i]? := fun i hi => Below.heap_setCell w _ v i (by simp; omega)
  refine ⟨h.1, h.2.1.keep (hne g h.1), ⟨h.2.2.os, h.2.2.tape, h.2.2.output, by simpa using h.2.2.size, fun i hi hg => (hne i hi).trans (h.2.2.block i hi hg)⟩⟩
theorem SA.name {w0 w : World} {g cap : Nat} {d : Array En} (h : SA w0 g cap d w) (q : Nat) : ∃ w', w.drewN q = w' ∧ Below w.heap.size w w' := ⟨_, rfl, below_drawn (Below.refl _ _) q⟩
theorem SA.word {w0 w : World} {g cap : Nat} {d : Array En} (h : SA w0 g cap d w) : ∃ w', w = w' ∧ SA w0 g cap d w' := ⟨_, rfl, h⟩
end
section
set_option linter.unusedVariables false
set_option linter.unusedSimpArgs false
open Go.RowKit
set_option maxHeartbeats 8000000 in
theorem sins_any (w0 : World) (g cap n a b : Nat) (d : Array En) (w : World) (h : SA w0 g cap d w) (hs : d.size = n) (hab : a ≤ b) (hbn : b ≤ n) (hn : n ≤ 4611686018427387904) :
    Calls Try.prog 59 #[.slice (some ⟨g, 0, none⟩) n cap, .int .i64 (a : Int), .int .i64 (b : Int)] w fun e w' => SP w0 g cap (Sort.insertionSort ltE d a b) e w' := by
  have HR := Lib.hid (show InsR w0 g cap n a b d (a + 1) w from ⟨d, hs, h, rfl⟩)
  clear h hs
  go_enter Try.func59, Try.ntmps59
  go_wp2
  go_loopw [6] (fun vi wr => ∃ i : Nat, vi = .int .i64 i ∧ a < i ∧ i ≤ b + 1 ∧ Hid (InsR w0 g cap n a b d i wr)) (fun vi _ => b + 1 - (intOf vi).toNat)
  case atStart => exact ⟨a + 1, by go_num, by omega, by omega, HR⟩
  case round =>
    clear HR
    obtain ⟨i, rfl, hai, hib, hrel⟩ := hrel
    by_cases hlt : i < b
    · obtain ⟨dk, hsk, hk, hO⟩ := hrel.out
      have HO := Lib.hid hO
      have HI := Lib.hid (show InsI w0 g cap n a dk i i wr from ⟨dk, hsk, hk, rfl⟩)
      clear hO hk hsk hrel
      go_wp2
      go_loopw [7] (fun vj wr2 => ∃ j : Nat, vj = .int .i64 j ∧ a ≤ j ∧ j ≤ i ∧ Hid (InsI w0 g cap n a dk i j wr2)) (fun vj _ => (intOf vj).toNat)
      case atStart => exact ⟨i, rfl, by omega, Nat.le_refl _, HI⟩
      case round =>
        clear HI
        obtain ⟨j, rfl, haj, hji, hrel⟩ := hrel
        obtain ⟨dj, hsj, hj, hI⟩ := hrel.out
        clear hrel
        have HI := Lib.hid hI; have HJ := Lib.hid hj; have HS := Lib.hid hsj
        clear hI hj hsj
        have HOUT := Lib.hid (show ∀ wz, SA w0 g cap dj wz → (j ≤ a ∨ ltE dj[j]! dj[j - 1]! = false) → InsR w0 g cap n a b d (i + 1) wz from fun wz hz hst => ⟨dj, HS.out, hz, by rw [← HO.out, Sort.insOuter.eq_def ltE a b i dk, if_pos hlt, ← HI.out, insInner_stop1 a j dj hst]⟩)
        by_cases hja : a < j
        · skip
          obtain ⟨-, -, b1, p1, t1, q1⟩ := (SA.at_ HJ.out HS.out (i := j) (I := j) (by omega) rfl)
          obtain ⟨-, -, b2, p2, t2, q2⟩ := (SA.at_ HJ.out HS.out (i := j - 1) (I := (j : Int) - 1) (by omega) (by omega))
          cases hlv : ltE dj[j]! dj[j - 1]! with
          | true =>
            obtain ⟨xv, yv, c1, c2, hl9⟩ := SA.lss HJ.out HS.out (i := j) (j := j - 1) (by omega) (by omega) hlv
            have HL := Lib.hid hl9; clear hl9
            have HV := Lib.hid hlv; clear hlv
            go_wp2_with fail
            go_quiet (first | (go_at_call 65; exact Calls.quiet_of_same (HL.out _)))
            obtain ⟨w2, hw9, hb⟩ := SA.name HJ.out nq
            rw [hw9]; clear hw9 c1 c2 b1 b2 p1 p2 t1 t2 q1 q2 HL
            obtain ⟨-, -, b1, p1, t1, q1⟩ := (SA.at_ (HJ.out.below hb) HS.out (i := j) (I := j) (by omega) rfl)
            obtain ⟨-, -, b2, p2, t2, q2⟩ := (SA.at_ (HJ.out.below hb) HS.out (i := j - 1) (I := (j : Int) - 1) (by omega) (by omega))
            obtain ⟨xv, yv, c1, c2, f1, f2, hsw9⟩ := SA.swp9 (HJ.out.below hb) HS.out (i := j) (j := j - 1) (by omega) (by omega)
            have HSW := Lib.hid hsw9; clear hsw9
            clear hb
            go_wp2_with fail
            go_region
            obtain ⟨w3, hw9, hsa⟩ := SA.word HSW.out
            rw [hw9]; clear hw9 c1 c2 f1 f2 b1 b2 p1 p2 t1 t2 q1 q2 HSW
            have HN := Lib.hid (show InsI w0 g cap n a dk i (j - 1) w3 from ⟨_, by rw [Sort.size_swp]; exact HS.out, hsa, by rw [← HI.out, insInner_go1 a j dj hja HV.out]⟩)
            clear hsa
            go_wp2
            go_roundw
            case rel => exact ⟨j - 1, by congr 1; omega, by omega, by omega, HN⟩
            case measure => simp [intOf]; omega
          | false =>
            obtain ⟨xv, yv, c1, c2, hl9⟩ := SA.lss HJ.out HS.out (i := j) (j := j - 1) (by omega) (by omega) hlv
            have HL := Lib.hid hl9; clear hl9
            have HV := Lib.hid hlv; clear hlv
            go_wp2_with fail
            go_quiet (first | (go_at_call 65; exact Calls.quiet_of_same (HL.out _)))
            obtain ⟨w2, hw9, hb⟩ := SA.name HJ.out nq
            rw [hw9]; clear hw9 c1 c2 b1 b2 p1 p2 t1 t2 q1 q2 HL
            have HN := Lib.hid (HOUT.out w2 (HJ.out.below hb) (.inr HV.out))
            clear hb
            go_wp2
            go_roundw
            case rel => exact ⟨i + 1, by go_num, by omega, by omega, HN⟩
            case measure => simp [intOf]; omega
        · have hgf : decide ((a : Int) < (j : Int)) = false := decide_eq_false (by omega)
          go_wp2_with fail
          go_quiet (fail)
          have HN := Lib.hid (HOUT.out _ (HJ.out.drewN nq) (.inl (by omega)))
          go_wp2
          go_roundw
          case rel => exact ⟨i + 1, by go_num, by omega, by omega, HN⟩
          case measure => simp [intOf]; omega
    · have HE := Lib.hid (show SP w0 g cap (Sort.insertionSort ltE d a b) (.returned (.tuple #[])) wr from ⟨rfl, by
        obtain ⟨dk, _, hk, hO⟩ := hrel.out
        rw [Sort.insertionSort, ← hO, Sort.insOuter.eq_def, if_neg hlt]; exact hk⟩)
      clear hrel
      go_wp2
      go_end0
      exact HE.out
end
section
set_option linter.unusedVariables false
set_option linter.unusedSimpArgs false
open Go.RowKit
/-- The greater child. -/
def kidS (hi f r : Nat) (d : Array En) : Nat := if 2 * r + 2 < hi ∧ ltE d[f + (2 * r + 1)]! d[f + (2 * r + 2)]! = true then 2 * r + 2 else 2 * r + 1
theorem sift_over (hi f r : Nat) (d : Array En) (h : hi ≤ 2 * r + 1) : Sort.siftDown ltE hi f r d = d := by
  rw [Sort.siftDown, dif_pos h]
theorem sift_step (hi f r : Nat) (d : Array En) (h : ¬ hi ≤ 2 * r + 1) : Sort.siftDown ltE hi f r d = if ltE d[f + r]! d[f + kidS hi f r d]! = true then Sort.siftDown ltE hi f (kidS hi f r d) (Sort.swp d (f + r) (f + kidS hi f r d)) else d := by
  rw [Sort.siftDown, dif_neg h]
  unfold kidS
  by_cases h2 : 2 * r + 2 < hi ∧ ltE d[f + (2 * r + 1)]! d[f + (2 * r + 2)]! = true
  · rw [if_pos (by simpa [Nat.add_assoc] using h2), if_pos h2, dif_pos h2.1]
    cases ltE d[f + r]! d[f + (2 * r + 2)]! <;> simp
  · rw [if_neg (by simpa [Nat.add_assoc] using h2), if_neg h2]
    cases ltE d[f + r]! d[f + (2 * r + 1)]! <;> simp
def SiftR (w0 : World) (g cap n hi f lo : Nat) (d : Array En) (r : Nat) (w : World) : Prop := ∃ dk : Array En, dk.size = n ∧ SA w0 g cap dk w ∧ Sort.siftDown ltE hi f r dk = Sort.siftDown ltE hi f lo d
set_option maxHeartbeats 4000000 in
theorem ssift_any (w0 : World) (g cap n lo hi f : Nat) (d : Array En) (w : World) (h : SA w0 g cap d w) (hs : d.size = n) (hlo : lo ≤ hi) (hb : f + hi ≤ n) (hn : n ≤ 2305843009213693951) :
    Calls Try.prog 70 #[.slice (some ⟨g, 0, none⟩) n cap, .int .i64 (lo : Int), .int .i64 (hi : Int), .int .i64 (f : Int)] w fun e w' => SP w0 g cap (Sort.siftDown ltE hi f lo d) e w' := by
  have HR := Lib.hid (show SiftR w0 g cap n hi f lo d lo w from ⟨d, hs, h, rfl⟩)
  clear h hs
  go_enter Try.func70, Try.ntmps70
  go_wp2
  go_loopw [8] (fun vi wr => ∃ r : Nat, vi = .int .i64 r ∧ r ≤ hi ∧ Hid (SiftR w0 g cap n hi f lo d r wr)) (fun vi _ => hi - (intOf vi).toNat)
  case atStart => exact ⟨lo, rfl, hlo, HR⟩
  case round =>
    clear HR
    obtain ⟨r, rfl, hrh, hrel⟩ := hrel
    obtain ⟨dk, hsk, hk, hO⟩ := hrel.out
    have HO := Lib.hid hO; have HK := Lib.hid hk; have HS := Lib.hid hsk
    clear hO hk hsk hrel
    by_cases hov : hi ≤ 2 * r + 1
    · have HE := Lib.hid (show SP w0 g cap (Sort.siftDown ltE hi f lo d) (.returned (.tuple #[])) wr from ⟨rfl, by rw [← HO.out, sift_over hi f r dk hov]; exact HK.out⟩)
      have hov2 : (hi : Int) ≤ 2 * (r : Int) + 1 := by omega
      go_wp2
      go_end0
      exact HE.out
    · have hov2 : ¬ (hi : Int) ≤ 2 * (r : Int) + 1 := by omega
      have HST := Lib.hid (sift_step hi f r dk hov)
      by_cases h2 : 2 * r + 2 < hi
      · have h2i : 2 * (r : Int) + 1 + 1 < (hi : Int) := by omega
        obtain ⟨-, -, b1, p1, t1, q1⟩ := (SA.at_ HK.out HS.out (i := f + (2 * r + 1)) (I := (f : Int) + (2 * (r : Int) + 1)) (by omega) (by omega))
        obtain ⟨-, -, b2, p2, t2, q2⟩ := (SA.at_ HK.out HS.out (i := f + (2 * r + 2)) (I := (f : Int) + (2 * (r : Int) + 1) + 1) (by omega) (by omega))
        cases hlv : ltE dk[f + (2 * r + 1)]! dk[f + (2 * r + 2)]! with
        | true =>
          obtain ⟨xv, yv, c1, c2, hl9⟩ := SA.lss HK.out HS.out (i := f + (2 * r + 1)) (j := f + (2 * r + 2)) (by omega) (by omega) hlv
          have HL := Lib.hid hl9; clear hl9
          have HKD := Lib.hid (show kidS hi f r dk = 2 * r + 2 from if_pos ⟨h2, hlv⟩)
          clear hlv
          go_wp2_with fail
          go_quiet (first | (go_at_call 65; exact Calls.quiet_of_same (HL.out _)))
          obtain ⟨w2, hw9, hb0⟩ := SA.name HK.out nq
          rw [hw9]; clear hw9 c1 c2 b1 b2 p1 p2 t1 t2 q1 q2 HL
          have HK2 := Lib.hid (HK.out.below hb0); clear hb0
          have hkl : 2 * r + 2 < hi := h2
          obtain ⟨-, -, b1, p1, t1, q1⟩ := (SA.at_ HK2.out HS.out (i := f + r) (I := (f : Int) + (r : Int)) (by omega) (by omega))
          obtain ⟨-, -, b2, p2, t2, q2⟩ := (SA.at_ HK2.out HS.out (i := f + (2 * r + 2)) (I := (f : Int) + (2 * (r : Int) + 1 + 1)) (by omega) (by omega))
          cases hlv : ltE dk[f + r]! dk[f + (2 * r + 2)]! with
          | true =>
            obtain ⟨xv, yv, c1, c2, hl9⟩ := SA.lss HK2.out HS.out (i := f + r) (j := f + (2 * r + 2)) (by omega) (by omega) hlv
            have HL := Lib.hid hl9; clear hl9
            have HN0 := Lib.hid (show Sort.siftDown ltE hi f (2 * r + 2) (Sort.swp dk (f + r) (f + (2 * r + 2))) = Sort.siftDown ltE hi f lo d by rw [← HO.out, HST.out, HKD.out, if_pos hlv])
            clear hlv
            go_wp2_with fail
            go_quiet (first | (go_at_call 65; exact Calls.quiet_of_same (HL.out _)))
            obtain ⟨w3, hw9, hb0⟩ := SA.name HK2.out nq
            rw [hw9]; clear hw9 c1 c2 b1 b2 p1 p2 t1 t2 q1 q2 HL
            obtain ⟨-, -, b1, p1, t1, q1⟩ := (SA.at_ (HK2.out.below hb0) HS.out (i := f + r) (I := (f : Int) + (r : Int)) (by omega) (by omega))
            obtain ⟨-, -, b2, p2, t2, q2⟩ := (SA.at_ (HK2.out.below hb0) HS.out (i := f + (2 * r + 2)) (I := (f : Int) + (2 * (r : Int) + 1 + 1)) (by omega) (by omega))
            obtain ⟨xv, yv, c1, c2, f1, f2, hsw9⟩ := SA.swp9 (HK2.out.below hb0) HS.out (i := f + r) (j := f + (2 * r + 2)) (by omega) (by omega)
            have HSW := Lib.hid hsw9; clear hsw9
            clear hb0
            go_wp2_with fail
            go_region
            obtain ⟨w4, hw9, hsa⟩ := SA.word HSW.out
            rw [hw9]; clear hw9 c1 c2 f1 f2 b1 b2 p1 p2 t1 t2 q1 q2 HSW
            have HN := Lib.hid (show SiftR w0 g cap n hi f lo d (2 * r + 2) w4 from ⟨_, by rw [Sort.size_swp]; exact HS.out, hsa, HN0.out⟩)
            clear hsa
            go_wp2
            go_roundw
            case rel => exact ⟨2 * r + 2, by first | rfl | (congr 1; omega), by omega, HN⟩
            case measure => simp [intOf]; omega
          | false =>
            obtain ⟨xv, yv, c1, c2, hl9⟩ := SA.lss HK2.out HS.out (i := f + r) (j := f + (2 * r + 2)) (by omega) (by omega) hlv
            have HL := Lib.hid hl9; clear hl9
            have HN0 := Lib.hid (show dk = Sort.siftDown ltE hi f lo d by rw [← HO.out, HST.out, HKD.out, if_neg (by simp [hlv])])
            clear hlv
            go_wp2_with fail
            go_quiet (first | (go_at_call 65; exact Calls.quiet_of_same (HL.out _)))
            obtain ⟨w3, hw9, hb0⟩ := SA.name HK2.out nq
            rw [hw9]; clear hw9 c1 c2 b1 b2 p1 p2 t1 t2 q1 q2 HL
            have HE := Lib.hid (show SP w0 g cap (Sort.siftDown ltE hi f lo d) (.returned (.tuple #[])) w3 from ⟨rfl, by rw [← HN0.out]; exact HK2.out.below hb0⟩)
            clear hb0
            go_wp2
            go_end0
            exact HE.out
        | false =>
          obtain ⟨xv, yv, c1, c2, hl9⟩ := SA.lss HK.out HS.out (i := f + (2 * r + 1)) (j := f + (2 * r + 2)) (by omega) (by omega) hlv
          have HL := Lib.hid hl9; clear hl9
          have HKD := Lib.hid (show kidS hi f r dk = 2 * r + 1 from if_neg (by simp [hlv]))
          clear hlv
          go_wp2_with fail
          go_quiet (first | (go_at_call 65; exact Calls.quiet_of_same (HL.out _)))
          obtain ⟨w2, hw9, hb0⟩ := SA.name HK.out nq
          rw [hw9]; clear hw9 c1 c2 b1 b2 p1 p2 t1 t2 q1 q2 HL
          have HK2 := Lib.hid (HK.out.below hb0); clear hb0
          have hkl : 2 * r + 1 < hi := by omega
          obtain ⟨-, -, b1, p1, t1, q1⟩ := (SA.at_ HK2.out HS.out (i := f + r) (I := (f : Int) + (r : Int)) (by omega) (by omega))
          obtain ⟨-, -, b2, p2, t2, q2⟩ := (SA.at_ HK2.out HS.out (i := f + (2 * r + 1)) (I := (f : Int) + (2 * (r : Int) + 1)) (by omega) (by omega))
          cases hlv : ltE dk[f + r]! dk[f + (2 * r + 1)]! with
          | true =>
            obtain ⟨xv, yv, c1, c2, hl9⟩ := SA.lss HK2.out HS.out (i := f + r) (j := f + (2 * r + 1)) (by omega) (by omega) hlv
            have HL := Lib.hid hl9; clear hl9
            have HN0 := Lib.hid (show Sort.siftDown ltE hi f (2 * r + 1) (Sort.swp dk (f + r) (f + (2 * r + 1))) = Sort.siftDown ltE hi f lo d by rw [← HO.out, HST.out, HKD.out, if_pos hlv])
            clear hlv
            go_wp2_with fail
            go_quiet (first | (go_at_call 65; exact Calls.quiet_of_same (HL.out _)))
            obtain ⟨w3, hw9, hb0⟩ := SA.name HK2.out nq
            rw [hw9]; clear hw9 c1 c2 b1 b2 p1 p2 t1 t2 q1 q2 HL
            obtain ⟨-, -, b1, p1, t1, q1⟩ := (SA.at_ (HK2.out.below hb0) HS.out (i := f + r) (I := (f : Int) + (r : Int)) (by omega) (by omega))
            obtain ⟨-, -, b2, p2, t2, q2⟩ := (SA.at_ (HK2.out.below hb0) HS.out (i := f + (2 * r + 1)) (I := (f : Int) + (2 * (r : Int) + 1)) (by omega) (by omega))
            obtain ⟨xv, yv, c1, c2, f1, f2, hsw9⟩ := SA.swp9 (HK2.out.below hb0) HS.out (i := f + r) (j := f + (2 * r + 1)) (by omega) (by omega)
            have HSW := Lib.hid hsw9; clear hsw9
            clear hb0
            go_wp2_with fail
            go_region
            obtain ⟨w4, hw9, hsa⟩ := SA.word HSW.out
            rw [hw9]; clear hw9 c1 c2 f1 f2 b1 b2 p1 p2 t1 t2 q1 q2 HSW
            have HN := Lib.hid (show SiftR w0 g cap n hi f lo d (2 * r + 1) w4 from ⟨_, by rw [Sort.size_swp]; exact HS.out, hsa, HN0.out⟩)
            clear hsa
            go_wp2
            go_roundw
            case rel => exact ⟨2 * r + 1, by first | rfl | (congr 1; omega), by omega, HN⟩
            case measure => simp [intOf]; omega
          | false =>
            obtain ⟨xv, yv, c1, c2, hl9⟩ := SA.lss HK2.out HS.out (i := f + r) (j := f + (2 * r + 1)) (by omega) (by omega) hlv
            have HL := Lib.hid hl9; clear hl9
            have HN0 := Lib.hid (show dk = Sort.siftDown ltE hi f lo d by rw [← HO.out, HST.out, HKD.out, if_neg (by simp [hlv])])
            clear hlv
            go_wp2_with fail
            go_quiet (first | (go_at_call 65; exact Calls.quiet_of_same (HL.out _)))
            obtain ⟨w3, hw9, hb0⟩ := SA.name HK2.out nq
            rw [hw9]; clear hw9 c1 c2 b1 b2 p1 p2 t1 t2 q1 q2 HL
            have HE := Lib.hid (show SP w0 g cap (Sort.siftDown ltE hi f lo d) (.returned (.tuple #[])) w3 from ⟨rfl, by rw [← HN0.out]; exact HK2.out.below hb0⟩)
            clear hb0
            go_wp2
            go_end0
            exact HE.out
      · have h2i : ¬ 2 * (r : Int) + 1 + 1 < (hi : Int) := by omega
        have HKD := Lib.hid (show kidS hi f r dk = 2 * r + 1 from if_neg (fun h => h2 h.1))
        have hgf : decide (2 * (r : Int) + 1 + 1 < (hi : Int)) = false := decide_eq_false h2i
        go_wp2_with fail
        go_quiet (fail)
        obtain ⟨w2, hw9, hb0⟩ := SA.name HK.out nq
        rw [hw9]; clear hw9
        have HK2 := Lib.hid (HK.out.below hb0); clear hb0
        have hkl : 2 * r + 1 < hi := by omega
        obtain ⟨-, -, b1, p1, t1, q1⟩ := (SA.at_ HK2.out HS.out (i := f + r) (I := (f : Int) + (r : Int)) (by omega) (by omega))
        obtain ⟨-, -, b2, p2, t2, q2⟩ := (SA.at_ HK2.out HS.out (i := f + (2 * r + 1)) (I := (f : Int) + (2 * (r : Int) + 1)) (by omega) (by omega))
        cases hlv : ltE dk[f + r]! dk[f + (2 * r + 1)]! with
        | true =>
          obtain ⟨xv, yv, c1, c2, hl9⟩ := SA.lss HK2.out HS.out (i := f + r) (j := f + (2 * r + 1)) (by omega) (by omega) hlv
          have HL := Lib.hid hl9; clear hl9
          have HN0 := Lib.hid (show Sort.siftDown ltE hi f (2 * r + 1) (Sort.swp dk (f + r) (f + (2 * r + 1))) = Sort.siftDown ltE hi f lo d by rw [← HO.out, HST.out, HKD.out, if_pos hlv])
          clear hlv
          go_wp2_with fail
          go_quiet (first | (go_at_call 65; exact Calls.quiet_of_same (HL.out _)))
          obtain ⟨w3, hw9, hb0⟩ := SA.name HK2.out nq
          rw [hw9]; clear hw9 c1 c2 b1 b2 p1 p2 t1 t2 q1 q2 HL
          obtain ⟨-, -, b1, p1, t1, q1⟩ := (SA.at_ (HK2.out.below hb0) HS.out (i := f + r) (I := (f : Int) + (r : Int)) (by omega) (by omega))
          obtain ⟨-, -, b2, p2, t2, q2⟩ := (SA.at_ (HK2.out.below hb0) HS.out (i := f + (2 * r + 1)) (I := (f : Int) + (2 * (r : Int) + 1)) (by omega) (by omega))
          obtain ⟨xv, yv, c1, c2, f1, f2, hsw9⟩ := SA.swp9 (HK2.out.below hb0) HS.out (i := f + r) (j := f + (2 * r + 1)) (by omega) (by omega)
          have HSW := Lib.hid hsw9; clear hsw9
          clear hb0
          go_wp2_with fail
          go_region
          obtain ⟨w4, hw9, hsa⟩ := SA.word HSW.out
          rw [hw9]; clear hw9 c1 c2 f1 f2 b1 b2 p1 p2 t1 t2 q1 q2 HSW
          have HN := Lib.hid (show SiftR w0 g cap n hi f lo d (2 * r + 1) w4 from ⟨_, by rw [Sort.size_swp]; exact HS.out, hsa, HN0.out⟩)
          clear hsa
          go_wp2
          go_roundw
          case rel => exact ⟨2 * r + 1, by first | rfl | (congr 1; omega), by omega, HN⟩
          case measure => simp [intOf]; omega
        | false =>
          obtain ⟨xv, yv, c1, c2, hl9⟩ := SA.lss HK2.out HS.out (i := f + r) (j := f + (2 * r + 1)) (by omega) (by omega) hlv
          have HL := Lib.hid hl9; clear hl9
          have HN0 := Lib.hid (show dk = Sort.siftDown ltE hi f lo d by rw [← HO.out, HST.out, HKD.out, if_neg (by simp [hlv])])
          clear hlv
          go_wp2_with fail
          go_quiet (first | (go_at_call 65; exact Calls.quiet_of_same (HL.out _)))
          obtain ⟨w3, hw9, hb0⟩ := SA.name HK2.out nq
          rw [hw9]; clear hw9 c1 c2 b1 b2 p1 p2 t1 t2 q1 q2 HL
          have HE := Lib.hid (show SP w0 g cap (Sort.siftDown ltE hi f lo d) (.returned (.tuple #[])) w3 from ⟨rfl, by rw [← HN0.out]; exact HK2.out.below hb0⟩)
          clear hb0
          go_wp2
          go_end0
          exact HE.out
def HbR (w0 : World) (g cap n hi f : Nat) (d : Array En) (k : Nat) (w : World) : Prop := ∃ dk : Array En, dk.size = n ∧ SA w0 g cap dk w ∧ Sort.heapBuild ltE hi f k dk = d
def HpR (w0 : World) (g cap n f : Nat) (d : Array En) (k : Nat) (w : World) : Prop := ∃ dk : Array En, dk.size = n ∧ SA w0 g cap dk w ∧ Sort.heapPop ltE f k dk = d
theorem sift_size (hi f : Nat) : ∀ (m r : Nat) (d : Array En), hi - r ≤ m → (Sort.siftDown ltE hi f r d).size = d.size := by
  intro m
  induction m with
  | zero => intro r d h; rw [sift_over hi f r d (by omega)]
  | succ m ih =>
    intro r d h
    by_cases ho : hi ≤ 2 * r + 1
    · rw [sift_over hi f r d ho]
    · rw [sift_step hi f r d ho]
      split
      · rw [ih _ _ (by unfold kidS; split <;> omega), Sort.size_swp]
      · rfl
set_option maxHeartbeats 4000000 in
theorem sheap_any (w0 : World) (g cap n a b : Nat) (d : Array En) (w : World) (h : SA w0 g cap d w) (hs : d.size = n) (hab : a < b) (hbn : b ≤ n) (hn : n ≤ 2305843009213693951) :
    Calls Try.prog 60 #[.slice (some ⟨g, 0, none⟩) n cap, .int .i64 (a : Int), .int .i64 (b : Int)] w fun e w' => SP w0 g cap (Sort.heapSort ltE d a b) e w' := by
  have HR := Lib.hid (show HbR w0 g cap n (b - a) a (Sort.heapBuild ltE (b - a) a ((b - a - 1) / 2 + 1) d) ((b - a - 1) / 2 + 1) w from ⟨d, hs, h, rfl⟩)
  clear h hs
  have e1 : (b : Int) - (a : Int) = ((b - a : Nat) : Int) := by omega
  have e2 : (((b - a : Nat) : Int) - 1) / 2 = (((b - a - 1) / 2 + 1 : Nat) : Int) - 1 := by omega
  have hm1 : 1 ≤ b - a := by omega
  have hm2 : a + (b - a) ≤ n := by omega
  have hm3 : (b - a - 1) / 2 + 1 ≤ b - a := by omega
  have HE0 := Lib.hid (show Sort.heapSort ltE d a b = Sort.heapPop ltE a (b - a) (Sort.heapBuild ltE (b - a) a ((b - a - 1) / 2 + 1) d) from rfl)
  generalize Sort.heapSort ltE d a b = D at *
  generalize Sort.heapBuild ltE (b - a) a ((b - a - 1) / 2 + 1) d = D1 at *
  generalize hK : (b - a - 1) / 2 + 1 = K at *
  generalize hM : b - a = m at *
  clear hK hM
  have HE2 := Lib.hid e2; clear e2
  go_enter Try.func60, Try.ntmps60
  go_wp2
  go_loopw [9] (fun vi wr => ∃ k : Nat, vi = .int .i64 ((k : Int) - 1) ∧ k ≤ m ∧ Hid (HbR w0 g cap n m a D1 k wr)) (fun vi _ => (intOf vi + 1).toNat)
  case atStart => exact ⟨K, by rw [HE2.out], hm3, HR⟩
  case round =>
    clear HR
    obtain ⟨k, rfl, hkm, hrel⟩ := hrel
    obtain ⟨dk, hsk, hk, hO⟩ := hrel.out
    have HO := Lib.hid hO; have HK := Lib.hid hk; have HS := Lib.hid hsk
    clear hO hk hsk hrel
    cases k with
    | zero =>
      have HR := Lib.hid (show HpR w0 g cap n a D m wr from ⟨dk, HS.out, HK.out, by rw [HE0.out, ← HO.out]; rfl⟩)
      have hz : ¬ (0 : Int) ≤ ((0 : Nat) : Int) - 1 := by omega
      go_wp2
      go_loopw [10] (fun vi wr => ∃ k : Nat, vi = .int .i64 ((k : Int) - 1) ∧ k ≤ m ∧ Hid (HpR w0 g cap n a D k wr)) (fun vi _ => (intOf vi + 1).toNat)
      case atStart => exact ⟨m, rfl, Nat.le_refl _, HR⟩
      case round =>
        clear HR HO HK HS hz
        obtain ⟨k, rfl, hkm, hrel⟩ := hrel
        obtain ⟨dk, hsk, hk, hO⟩ := hrel.out
        have HO := Lib.hid hO; have HK := Lib.hid hk; have HS := Lib.hid hsk
        clear hO hk hsk hrel
        cases k with
        | zero =>
          have HE := Lib.hid (show SP w0 g cap D (.returned (.tuple #[])) wr from ⟨rfl, by rw [← HO.out]; exact HK.out⟩)
          have hz : ¬ (0 : Int) ≤ ((0 : Nat) : Int) - 1 := by omega
          go_wp2
          go_end0
          exact HE.out
        | succ k =>
          have e3 : ((k + 1 : Nat) : Int) - 1 = (k : Int) := by omega
          rw [e3]; clear e3
          obtain ⟨-, -, b1, p1, t1, q1⟩ := (SA.at_ HK.out HS.out (i := a) (I := (a : Int)) (by omega) rfl)
          obtain ⟨-, -, b2, p2, t2, q2⟩ := (SA.at_ HK.out HS.out (i := a + k) (I := (a : Int) + (k : Int)) (by omega) (by omega))
          obtain ⟨xv, yv, c1, c2, f1, f2, hsw9⟩ := SA.swp9 HK.out HS.out (i := a) (j := a + k) (by omega) (by omega)
          have HSW := Lib.hid hsw9; clear hsw9
          have c3 := SA.mid HK.out HS.out (i := a) (j := a + k) (by omega) (by omega) c1 c2
          go_wp2_with fail
          go_region
          obtain ⟨w2, hw9, hsa⟩ := SA.word HSW.out
          rw [hw9]; clear hw9 c3 c1 c2 f1 f2 b1 b2 p1 p2 t1 t2 q1 q2 HSW
          have HC := Lib.hid (ssift_any w0 g cap n 0 k a _ w2 hsa (by rw [Sort.size_swp]; exact HS.out) (Nat.zero_le _) (by omega) hn)
          clear hsa
          go_wp2_with fail
          refine HC.out.mono ?_
          rintro e w3 ⟨rfl, hsa⟩
          have HN := Lib.hid (show HpR w0 g cap n a D k w3 from ⟨_, by rw [sift_size k a _ _ _ (Nat.le_refl _), Sort.size_swp]; exact HS.out, hsa, HO.out⟩)
          clear hsa
          go_wp2
          go_roundw
          case rel => exact ⟨k, rfl, by omega, HN⟩
          case measure => simp [intOf] <;> omega
    | succ k =>
      have e3 : ((k + 1 : Nat) : Int) - 1 = (k : Int) := by omega
      rw [e3]; clear e3
      have HC := Lib.hid (ssift_any w0 g cap n k m a dk wr HK.out HS.out (by omega) (by omega) hn)
      go_wp2_with fail
      refine HC.out.mono ?_
      rintro e w3 ⟨rfl, hsa⟩
      have HN := Lib.hid (show HbR w0 g cap n m a D1 k w3 from ⟨_, by rw [sift_size m a _ _ _ (Nat.le_refl _)]; exact HS.out, hsa, HO.out⟩)
      clear hsa
      go_wp2
      go_roundw
      case rel => exact ⟨k, rfl, by omega, HN⟩
      case measure => simp [intOf] <;> omega
/-- The row has d with the places from a to b put among themselves. -/
def PR (w0 : World) (g cap n a b : Nat) (d : Array En) (w : World) : Prop := ∃ dk : Array En, Sort.PermIn a b d dk ∧ SA w0 g cap dk w
theorem PR.start {w0 w : World} {g cap n a b : Nat} {d : Array En} (h : SA w0 g cap d w) : PR w0 g cap n a b d w := ⟨d, Sort.permIn_refl d a b, h⟩
set_option maxHeartbeats 4000000 in
theorem srev_any (w0 : World) (g cap n a b : Nat) (d : Array En) (w : World) (h : SA w0 g cap d w) (hs : d.size = n) (hab : a ≤ b) (hbn : b ≤ n) (hn : n ≤ 2305843009213693951) :
    Calls Try.prog 63 #[.slice (some ⟨g, 0, none⟩) n cap, .int .i64 (a : Int), .int .i64 (b : Int)] w fun e w' => e = .returned (.tuple #[]) ∧ PR w0 g cap n a b d w' := by
  have HR := Lib.hid (show PR w0 g cap n a b d w from PR.start h)
  clear h
  go_enter Try.func63, Try.ntmps63
  go_wp2
  go_loopw [6, 7] (fun vi vj wr => ∃ (i : Nat) (j : Int), vi = .int .i64 i ∧ vj = .int .i64 j ∧ a ≤ i ∧ i ≤ b ∧ j < (b : Int) ∧ -1 ≤ j ∧ Hid (PR w0 g cap n a b d wr)) (fun vi vj _ => (intOf vj - intOf vi).toNat)
  case atStart => exact ⟨a, (b : Int) - 1, rfl, rfl, by omega, by omega, by omega, by omega, HR⟩
  case round =>
    clear HR
    obtain ⟨i, j, rfl, rfl, hai, hib, hjb, hj1, hrel⟩ := hrel
    by_cases hij : (i : Int) < j
    · obtain ⟨dk, hp, hk⟩ := hrel.out
      obtain ⟨J, rfl⟩ : ∃ J : Nat, j = (J : Int) := ⟨j.toNat, by omega⟩
      obtain ⟨-, -, b1, p1, t1, q1⟩ := (SA.at_ hk (hp.1.trans hs) (i := i) (I := (i : Int)) (by omega) rfl)
      obtain ⟨-, -, b2, p2, t2, q2⟩ := (SA.at_ hk (hp.1.trans hs) (i := J) (I := (J : Int)) (by omega) rfl)
      obtain ⟨xv, yv, c1, c2, f1, f2, hsw9⟩ := SA.swp9 hk (hp.1.trans hs) (i := i) (j := J) (by omega) (by omega)
      have HSW := Lib.hid hsw9; clear hsw9
      have HP := Lib.hid (Sort.permIn_trans d dk _ a b hp (Sort.swp_permIn dk a b i J (by omega) (by omega) (by omega) (by omega) (by rw [hp.1, hs]; exact hbn)))
      clear hp hk hrel
      have HS := Lib.hid hs; clear hs
      go_wp2_with fail
      go_region
      obtain ⟨w2, hw9, hsa⟩ := SA.word HSW.out
      rw [hw9]; clear hw9 c1 c2 f1 f2 b1 b2 p1 p2 t1 t2 q1 q2 HSW
      have HN := Lib.hid (show PR w0 g cap n a b d w2 from ⟨_, HP.out, hsa⟩)
      clear hsa
      go_wp2
      go_roundw
      case rel => exact ⟨i + 1, (J : Int) - 1, by go_num, rfl, by omega, by omega, by omega, by omega, HN⟩
      case measure => simp [intOf]; omega
    · have HS := Lib.hid hs; clear hs
      go_wp2
      go_end0
      exact ⟨rfl, hrel.out⟩
end
section
set_option linter.unusedVariables false
set_option linter.unusedSimpArgs false
open Go.RowKit
/-- Beside the row there is a number, in a box of its own. -/
def SB (w0 : World) (g cap : Nat) (d : Array En) (sb s : Nat) (w : World) : Prop := SA w0 g cap d w ∧ w0.heap.size ≤ sb ∧ Blk w sb 3 #[.int .i64 (s : Int)]
theorem SB.below {w0 w w' : World} {g cap sb s : Nat} {d : Array En} (h : SB w0 g cap d sb s w) (hb : Below w.heap.size w w') : SB w0 g cap d sb s w' := ⟨h.1.below hb, h.2.1, h.2.2.thru0 hb⟩
theorem SB.set {w0 w : World} {g cap sb s : Nat} {d : Array En} (h : SB w0 g cap d sb s w) (s' : Nat) : SB w0 g cap d sb s' (w.setCell ⟨sb, 0, none⟩ (.int .i64 (s' : Int))) := ⟨h.1.set sb 0 _ h.2.1, h.2.1, h.2.2.set1 _⟩
def OrdP (w0 : World) (g cap : Nat) (d : Array En) (sb s a b : Nat) (e : Ending) (w' : World) : Prop :=
  ∃ x y s' : Nat, e = .returned (.tuple #[.int .i64 (x : Int), .int .i64 (y : Int)]) ∧ ((x = a ∧ y = b) ∨ (x = b ∧ y = a)) ∧ s' ≤ s + 1 ∧ SB w0 g cap d sb s' w'
set_option maxHeartbeats 2000000 in
theorem sord_any (w0 : World) (g cap n a b sb s : Nat) (d : Array En) (w : World) (h : SB w0 g cap d sb s w) (hs : d.size = n) (ha : a < n) (hb : b < n) (hsw : s ≤ 100) :
    Calls Try.prog 76 #[.slice (some ⟨g, 0, none⟩) n cap, .int .i64 (a : Int), .int .i64 (b : Int), .pointer (some ⟨sb, 0, none⟩)] w fun e w' => OrdP w0 g cap d sb s a b e w' := by
  have H := Lib.hid h; clear h
  obtain ⟨-, -, b1, p1, t1, q1⟩ := (SA.at_ H.out.1 hs (i := b) (I := (b : Int)) hb rfl)
  obtain ⟨-, -, b2, p2, t2, q2⟩ := (SA.at_ H.out.1 hs (i := a) (I := (a : Int)) ha rfl)
  cases hlv : ltE d[b]! d[a]! with
  | true =>
    obtain ⟨xv, yv, c1, c2, hl9⟩ := SA.lss H.out.1 hs (i := b) (j := a) hb ha hlv
    have HL := Lib.hid hl9; clear hl9
    clear hlv
    go_enter Try.func76, Try.ntmps76
    go_wp2_with fail
    go_quiet (first | (go_at_call 65; exact Calls.quiet_of_same (HL.out _)))
    obtain ⟨w2, hw9, hb0⟩ := SA.name H.out.1 nq
    rw [hw9]; clear hw9 c1 c2 b1 b2 p1 p2 t1 t2 q1 q2 HL
    have H2 := H.out.below hb0
    have hc := H2.2.2.cell 0
    have hf := H2.2.2.frozen 0
    simp only [List.getElem?_toArray, List.getElem?_cons_zero] at hc
    have HE := Lib.hid (show OrdP w0 g cap d sb s a b (.returned (.tuple #[.int .i64 (b : Int), .int .i64 (a : Int)])) (w2.setCell ⟨sb, 0, none⟩ (.int .i64 ((s + 1 : Nat) : Int))) from ⟨b, a, s + 1, rfl, .inr ⟨rfl, rfl⟩, Nat.le_refl _, H2.set (s + 1)⟩)
    clear hb0 H2
    have hs9 : (s : Int) ≤ 100 := by omega
    go_wp2
    go_ret2
    exact HE.out
  | false =>
    obtain ⟨xv, yv, c1, c2, hl9⟩ := SA.lss H.out.1 hs (i := b) (j := a) hb ha hlv
    have HL := Lib.hid hl9; clear hl9
    clear hlv
    go_enter Try.func76, Try.ntmps76
    go_wp2_with fail
    go_quiet (first | (go_at_call 65; exact Calls.quiet_of_same (HL.out _)))
    obtain ⟨w2, hw9, hb0⟩ := SA.name H.out.1 nq
    rw [hw9]; clear hw9 c1 c2 b1 b2 p1 p2 t1 t2 q1 q2 HL
    have HE := Lib.hid (show OrdP w0 g cap d sb s a b (.returned (.tuple #[.int .i64 (a : Int), .int .i64 (b : Int)])) w2 from ⟨a, b, s, rfl, .inl ⟨rfl, rfl⟩, Nat.le_succ _, H.out.below hb0⟩)
    clear hb0
    go_wp2
    go_ret2
    exact HE.out
def MedP (w0 : World) (g cap : Nat) (d : Array En) (sb s a b c : Nat) (e : Ending) (w' : World) : Prop :=
  ∃ x s' : Nat, e = .returned (.int .i64 (x : Int)) ∧ (x = a ∨ x = b ∨ x = c) ∧ s' ≤ s + 3 ∧ SB w0 g cap d sb s' w'
set_option maxHeartbeats 2000000 in
theorem smed_any (w0 : World) (g cap n a b c sb s : Nat) (d : Array En) (w : World) (h : SB w0 g cap d sb s w) (hs : d.size = n) (ha : a < n) (hb : b < n) (hc : c < n) (hsw : s ≤ 90) {I J K : Int} (hI : (a : Int) = I) (hJ : (b : Int) = J) (hK : (c : Int) = K) :
    Calls Try.prog 74 #[.slice (some ⟨g, 0, none⟩) n cap, .int .i64 I, .int .i64 J, .int .i64 K, .pointer (some ⟨sb, 0, none⟩)] w fun e w' => MedP w0 g cap d sb s a b c e w' := by
  subst hI hJ hK
  have HO := Lib.hid (sord_any w0 g cap n a b sb s d w h hs ha hb (by omega))
  clear h
  have HS := Lib.hid hs; clear hs
  go_enter Try.func74, Try.ntmps74
  go_wp2_with fail
  refine HO.out.mono ?_
  rintro e w2 ⟨x1, y1, s1, rfl, hxy, hs1, h1⟩
  have HO2 := Lib.hid (sord_any w0 g cap n y1 c sb s1 d w2 h1 HS.out (by omega) hc (by omega))
  have HX := Lib.hid hxy; clear hxy h1 HO
  go_wp2_with fail
  refine HO2.out.mono ?_
  rintro e w3 ⟨x2, y2, s2, rfl, hxy, hs2, h2⟩
  have HO3 := Lib.hid (sord_any w0 g cap n x1 x2 sb s2 d w3 h2 HS.out (by have := HX.out; omega) (by have := HX.out; omega) (by omega))
  have HX2 := Lib.hid hxy; clear hxy h2 HO2
  go_wp2_with fail
  refine HO3.out.mono ?_
  rintro e w4 ⟨x3, y3, s3, rfl, hxy, hs3, h3⟩
  have HE := Lib.hid (show MedP w0 g cap d sb s a b c (.returned (.int .i64 (y3 : Int))) w4 from ⟨y3, s3, rfl, by have := HX.out; have := HX2.out; omega, by omega, h3⟩)
  clear hxy h3 HO3
  go_wp2
  go_ret
  exact HE.out
set_option maxHeartbeats 2000000 in
theorem sadj_any (w0 : World) (g cap n a sb s : Nat) (d : Array En) (w : World) (h : SB w0 g cap d sb s w) (hs : d.size = n) (ha0 : 1 ≤ a) (ha : a + 1 < n) (hn : n ≤ 4611686018427387904) (hsw : s ≤ 90) {I : Int} (hI : (a : Int) = I) :
    Calls Try.prog 73 #[.slice (some ⟨g, 0, none⟩) n cap, .int .i64 I, .pointer (some ⟨sb, 0, none⟩)] w fun e w' => MedP w0 g cap d sb s (a - 1) a (a + 1) e w' := by
  subst hI
  have HO := Lib.hid (smed_any w0 g cap n (a - 1) a (a + 1) sb s d w h hs (by omega) (by omega) ha hsw (I := (a : Int) - 1) (J := (a : Int)) (K := (a : Int) + 1) (by omega) rfl (by omega))
  clear h
  have HS := Lib.hid hs; clear hs
  go_enter Try.func73, Try.ntmps73
  go_wp2_with fail
  refine HO.out.mono ?_
  rintro e w2 ⟨x1, s1, rfl, hx, hs1, h1⟩
  have HE := Lib.hid (show MedP w0 g cap d sb s (a - 1) a (a + 1) (.returned (.int .i64 (x1 : Int))) w2 from ⟨x1, s1, rfl, hx, hs1, h1⟩)
  clear hx h1 HO
  go_wp2
  go_ret
  exact HE.out
def PivP (w0 : World) (g cap a b : Nat) (d : Array En) (e : Ending) (w' : World) : Prop :=
  ∃ p t : Nat, e = .returned (.tuple #[.int .i64 (p : Int), .int .i64 (t : Int)]) ∧ a ≤ p ∧ p < b ∧ t ≤ 2 ∧ SA w0 g cap d w'
set_option maxHeartbeats 4000000 in
theorem spiv_any (w0 : World) (g cap n a b : Nat) (d : Array En) (w : World) (h : SA w0 g cap d w) (hs : d.size = n) (hab : a + 12 < b) (hbn : b ≤ n) (hn : n ≤ 2305843009213693951) :
    Calls Try.prog 62 #[.slice (some ⟨g, 0, none⟩) n cap, .int .i64 (a : Int), .int .i64 (b : Int)] w fun e w' => PivP w0 g cap a b d e w' := by
  have h0 : SB w0 g cap d w.heap.size 0 (w.alloc (.cells #[.int .i64 0] 3)) := ⟨h.below ((Below.refl _ _).alloc (Nat.le_refl _) _), h.size, Blk.new _ _ _⟩
  have H0 := Lib.hid h0; clear h0 h
  have HS := Lib.hid hs; clear hs
  have e1 : (b : Int) - (a : Int) = ((b - a : Nat) : Int) := by omega
  obtain ⟨m, hm⟩ : ∃ m : Nat, b - a = m := ⟨_, rfl⟩
  obtain ⟨q, hq⟩ : ∃ q : Nat, m / 4 = q := ⟨_, rfl⟩
  rw [hm] at e1
  have e2 : (m : Int) / 4 = (q : Int) := by omega
  have hbm : b = a + m := by omega
  have hm12 : 12 < m := by omega
  have hq4 : 4 * q ≤ m := by omega
  have hq3 : m < 4 * q + 4 := by omega
  have hm8 : (8 : Int) ≤ (m : Int) := by omega
  have hmm : (m : Int) ≤ 2305843009213693951 := by omega
  have hqq : (q : Int) ≤ 2305843009213693951 := by omega
  clear hm hq
  have HB := Lib.hid hbm; clear hbm
  by_cases h50 : 50 ≤ m
  · have h50i : (50 : Int) ≤ (m : Int) := by omega
    go_enter Try.func62, Try.ntmps62
    go_wp2_with fail
    refine (sadj_any w0 g cap n (a + q * 1) _ 0 d _ H0.out HS.out (by omega) (by have := HB.out; omega) (by omega) (by omega) (by omega)).mono ?_
    rintro e w2 ⟨x1, s1, rfl, hx1, hs1, h1⟩
    have H1 := Lib.hid h1; have HX1 := Lib.hid hx1; clear h1 hx1 H0
    go_wp2_with fail
    refine (sadj_any w0 g cap n (a + q * 2) _ s1 d _ H1.out HS.out (by omega) (by have := HB.out; omega) (by omega) (by omega) (by omega)).mono ?_
    rintro e w3 ⟨x2, s2, rfl, hx2, hs2, h2⟩
    have H2 := Lib.hid h2; have HX2 := Lib.hid hx2; clear h2 hx2 H1
    go_wp2_with fail
    refine (sadj_any w0 g cap n (a + q * 3) _ s2 d _ H2.out HS.out (by omega) (by have := HB.out; omega) (by omega) (by omega) (by omega)).mono ?_
    rintro e w4 ⟨x3, s3, rfl, hx3, hs3, h3⟩
    have H3 := Lib.hid h3; have HX3 := Lib.hid hx3; clear h3 hx3 H2
    go_wp2_with fail
    refine (smed_any w0 g cap n x1 x2 x3 _ s3 d _ H3.out HS.out (by have := HB.out; have := HX1.out; omega) (by have := HB.out; have := HX2.out; omega) (by have := HB.out; have := HX3.out; omega) (by omega) rfl rfl rfl).mono ?_
    rintro e w5 ⟨x4, s4, rfl, hx4, hs4, h4⟩
    have HP : ∀ t : Nat, t ≤ 2 → Hid (PivP w0 g cap a b d (.returned (.tuple #[.int .i64 (x4 : Int), .int .i64 (t : Int)])) w5) := fun t ht => Lib.hid ⟨x4, t, rfl, by have := HX1.out; have := HX2.out; have := HX3.out; omega, by have := HX1.out; have := HX2.out; have := HX3.out; have := HB.out; omega, ht, h4.1⟩
    have HP0 := HP 0 (by omega); have HP1 := HP 1 (by omega); have HP2 := HP 2 (by omega)
    have hc := h4.2.2.cell 0
    simp only [List.getElem?_toArray, List.getElem?_cons_zero] at hc
    clear HP h4 hx4 H3
    by_cases t0 : s4 = 0
    · subst t0
      go_wp2
      go_ret2
      exact HP1.out
    · have t0i : ((s4 : Int) == 0) = false := by simp; omega
      by_cases t12 : s4 = 12
      · subst t12
        go_wp2
        go_ret2
        exact HP2.out
      · have t12i : ((s4 : Int) == 12) = false := by simp; omega
        go_wp2
        go_ret2
        exact HP0.out
  · have h50i : ¬ (50 : Int) ≤ (m : Int) := by omega
    go_enter Try.func62, Try.ntmps62
    go_wp2_with fail
    refine (smed_any w0 g cap n (a + q * 1) (a + q * 2) (a + q * 3) _ 0 d _ H0.out HS.out (by have := HB.out; omega) (by have := HB.out; omega) (by have := HB.out; omega) (by omega) (by omega) (by omega) (by omega)).mono ?_
    rintro e w5 ⟨x4, s4, rfl, hx4, hs4, h4⟩
    have HP : ∀ t : Nat, t ≤ 2 → Hid (PivP w0 g cap a b d (.returned (.tuple #[.int .i64 (x4 : Int), .int .i64 (t : Int)])) w5) := fun t ht => Lib.hid ⟨x4, t, rfl, by omega, by have := HB.out; omega, ht, h4.1⟩
    have HP0 := HP 0 (by omega); have HP1 := HP 1 (by omega); have HP2 := HP 2 (by omega)
    have hc := h4.2.2.cell 0
    simp only [List.getElem?_toArray, List.getElem?_cons_zero] at hc
    clear HP h4 hx4 H0
    by_cases t0 : s4 = 0
    · subst t0
      go_wp2
      go_ret2
      exact HP1.out
    · have t0i : ((s4 : Int) == 0) = false := by simp; omega
      by_cases t12 : s4 = 12
      · subst t12
        go_wp2
        go_ret2
        exact HP2.out
      · have t12i : ((s4 : Int) == 12) = false := by simp; omega
        go_wp2
        go_ret2
        exact HP0.out
end
section
set_option linter.unusedVariables false
set_option linter.unusedSimpArgs false
open Go.RowKit
/-- Beside the permuted row there is a random number in a box of its own. -/
def PB (w0 : World) (g cap a b : Nat) (d : Array En) (rb : Nat) (w : World) : Prop :=
  ∃ (dk : Array En) (X : Nat), Sort.PermIn a b d dk ∧ SA w0 g cap dk w ∧ w0.heap.size ≤ rb ∧ X < 18446744073709551616 ∧ Blk w rb 100 #[.int .u64 (X : Int)]
theorem unum (a : Int) (h0 : 0 ≤ a) (h1 : a < 18446744073709551616) : ∃ n : Nat, a = (n : Int) ∧ n < 18446744073709551616 := ⟨a.toNat, by omega, by omega⟩
theorem setCell_twice (w : World) (b o : Nat) (v v' : Value) : (w.setCell ⟨b, o, none⟩ v).setCell ⟨b, o, none⟩ v' = w.setCell ⟨b, o, none⟩ v' := by
  rw [Sort.setCell_eq, Sort.setCell_eq, Sort.mapBlock_mapBlock, Sort.setCell_eq]
  congr 1
  funext c
  simp
set_option maxHeartbeats 4000000 in
theorem xnext (rb X : Nat) (w : World) (h : Blk w rb 100 #[.int .u64 (X : Int)]) (hX : X < 18446744073709551616) :
    Calls Try.prog 72 #[.pointer (some ⟨rb, 0, none⟩)] w fun e w' => ∃ Y : Nat, Y < 18446744073709551616 ∧ e = .returned (.int .u64 (Y : Int)) ∧ w' = (w.setCell ⟨rb, 0, none⟩ (.int .u64 (Y : Int))).drewN 3 := by
  have hc := h.cell 0
  have hf := h.frozen 0
  simp only [List.getElem?_toArray, List.getElem?_cons_zero] at hc
  clear h
  obtain ⟨A, hA⟩ : ∃ A : Nat, A = X ^^^ (X * 8192 % 18446744073709551616) := ⟨_, rfl⟩
  obtain ⟨B, hB⟩ : ∃ B : Nat, B = A ^^^ (A / 128) := ⟨_, rfl⟩
  obtain ⟨C, hC⟩ : ∃ C : Nat, C = B ^^^ (B * 131072 % 18446744073709551616) := ⟨_, rfl⟩
  have lA : A < 18446744073709551616 := by rw [hA]; exact Nat.xor_lt_two_pow (n := 64) (by omega) (by omega)
  have lB : B < 18446744073709551616 := by rw [hB]; exact Nat.xor_lt_two_pow (n := 64) (by omega) (by omega)
  have lC : C < 18446744073709551616 := by rw [hC]; exact Nat.xor_lt_two_pow (n := 64) (by omega) (by omega)
  have e1 : bits .xor .u64 (X : Int) (IntKind.u64.wrap ((X : Int) * 8192)) = (A : Int) := by
    rw [IntKind.wrap_u64, show ((X : Int) * 8192 % 18446744073709551616) = ((X * 8192 % 18446744073709551616 : Nat) : Int) by omega, bits_xor_u64_nat _ _ hX (by omega), hA]
  have e2 : bits .xor .u64 (A : Int) ((A : Int) / 128) = (B : Int) := by
    rw [show ((A : Int) / 128) = ((A / 128 : Nat) : Int) by omega, bits_xor_u64_nat _ _ lA (by omega), hB]
  have e3 : bits .xor .u64 (B : Int) (IntKind.u64.wrap ((B : Int) * 131072)) = (C : Int) := by
    rw [IntKind.wrap_u64, show ((B : Int) * 131072 % 18446744073709551616) = ((B * 131072 % 18446744073709551616 : Nat) : Int) by omega, bits_xor_u64_nat _ _ lB (by omega), hC]
  have HC := Lib.hid lC
  clear hA hB hC lC
  have hss : ∀ v v', (w.setCell ⟨rb, 0, none⟩ v).setCell ⟨rb, 0, none⟩ v' = w.setCell ⟨rb, 0, none⟩ v' := setCell_twice w rb 0
  go_enter Try.func72, Try.ntmps72
  go_wp2
  go_region
  all_goals go_wp2
  all_goals go_region
  all_goals go_wp2
  all_goals go_region
  all_goals go_wp2
  go_ret
  exact ⟨C, HC.out, rfl, rfl⟩
theorem wrap_pow2 (k : Nat) (hk : k ≤ 62) : IntKind.u64.wrap ((2 : Int) ^ k) = ((1 <<< k : Nat) : Int) := by
  have h : (2 : Nat) ^ k ≤ 2 ^ 62 := Nat.pow_le_pow_right (by decide) hk
  rw [IntKind.wrap_u64, Nat.one_shiftLeft, show ((2 : Int) ^ k) = ((2 ^ k : Nat) : Int) by push_cast; rfl]
  generalize (2 : Nat) ^ k = p at h
  omega
set_option maxHeartbeats 4000000 in
theorem npow_any (n : Nat) (hn : n < 4611686018427387904) (w : World) :
    Calls Try.prog 71 #[.int .i64 n] w fun e w' => e = .returned (.int .u64 ((1 <<< Lib.bitLen n : Nat) : Int)) ∧ w' = w := by
  have hb := Lib.hid (fun w => Try.bits_Len (n : Int) w (by omega) (by omega))
  have hle : Lib.bitLen n ≤ 62 := Lib.bitLen_le n 62 (by omega) (by omega)
  have hwp := wrap_pow2 (Lib.bitLen n) hle
  have hw : IntKind.u64.wrap (n : Int) = n := by simp [IntKind.wrap, IntKind.bits, IntKind.signed]; omega
  generalize hk : Lib.bitLen n = k at *
  go_enter Try.func71, Try.ntmps71
  go_wp2_with fail
  refine (hb.out _).mono ?_
  rintro e w2 ⟨rfl, hw2⟩
  subst hw2
  rw [Int.toNat_natCast, hk]
  clear hk
  go_wp2
  go_ret
  simp [hwp]
theorem pow_bitLen_le {n : Nat} (h : 0 < n) (h2 : n < 18446744073709551616) : 2 ^ Lib.bitLen n ≤ 2 * n := by
  rcases Nat.eq_zero_or_pos (Lib.bitLen n) with h0 | h0
  · rw [h0]; omega
  · obtain ⟨k, hk⟩ : ∃ k, Lib.bitLen n = k + 1 := ⟨Lib.bitLen n - 1, by omega⟩
    have hk64 : Lib.bitLen n ≤ 64 := Lib.bitLen_le n 64 (by omega) h2
    rw [hk, Nat.pow_succ]
    rcases Nat.lt_or_ge n (2 ^ k) with h3 | h3
    · have := Lib.bitLen_le n k (by omega) h3
      omega
    · omega
theorem sbrk_idx {a b L t : Nat} (hL : b - a = L) (h8 : 8 ≤ L) (ht : t < 3) : a ≤ a + L / 4 * 2 - 1 + t ∧ a + L / 4 * 2 - 1 + t < b := by omega
theorem blk_thru_swap {w0 w w' : World} {g cap rb : Nat} {t : TypeId} {cs : Array Value} (h : Blk w rb t cs) (hg : w.grownBy w' (some g)) (hne : g ≠ rb) : Blk w' rb t cs := (hg.block rb h.lt (fun e => by injection e with e; exact hne (by omega))).trans h
set_option maxHeartbeats 4000000 in
theorem sbrk_any (w0 : World) (g cap n a b : Nat) (d : Array En) (w : World) (h : SA w0 g cap d w) (hs : d.size = n) (hab : a + 12 < b) (hbn : b ≤ n) (hn : n ≤ 2305843009213693951) :
    Calls Try.prog 61 #[.slice (some ⟨g, 0, none⟩) n cap, .int .i64 (a : Int), .int .i64 (b : Int)] w fun e w' => e = .returned (.tuple #[]) ∧ PR w0 g cap n a b d w' := by
  obtain ⟨L, hL⟩ : ∃ L : Nat, b - a = L := ⟨_, rfl⟩
  have e1 : (b : Int) - (a : Int) = (L : Int) := by omega
  have h12 : 12 < L := by omega
  have h8i : (8 : Int) ≤ (L : Int) := by omega
  have hLn : (L : Int) ≤ 2305843009213693951 := by omega
  have hbn9 : (b : Int) ≤ 2305843009213693951 := by omega
  have han9 : (a : Int) ≤ 2305843009213693951 := by omega
  have hNP := fun w => npow_any L (by omega) w
  obtain ⟨M, hM⟩ : ∃ M : Nat, M = 1 <<< Lib.bitLen L := ⟨_, rfl⟩
  have hM2 : M ≤ 2 * L := by rw [hM, Nat.one_shiftLeft]; exact pow_bitLen_le (by omega) (by omega)
  have hM1 : 1 ≤ M := by rw [hM, Nat.one_shiftLeft]; exact Nat.one_le_two_pow
  rw [← hM] at hNP
  clear hM
  have HNP := Lib.hid hNP; clear hNP
  have h0 : PB w0 g cap a b d w.heap.size (w.alloc (.cells #[.int .u64 (L : Int)] 100)) := ⟨d, L, Sort.permIn_refl d a b, h.below ((Below.refl _ _).alloc (Nat.le_refl _) _), h.size, by omega, Blk.new _ _ _⟩
  have H0 := Lib.hid h0
  have hg0 := h.1
  have hsz := h.size
  clear h h0
  have HL := Lib.hid hL; have HS := Lib.hid hs; clear hL hs
  have hab2 : b = a + L := by have := HL.out; omega
  have HAB := Lib.hid hab2; clear hab2
  go_enter Try.func61, Try.ntmps61
  go_wp2_with fail
  refine (HNP.out _).mono ?_
  rintro e w2 ⟨rfl, hw2⟩
  subst hw2
  generalize hrb : w.heap.size = rb at *
  generalize w.alloc (.cells #[.int .u64 (L : Int)] 100) = w2 at *
  clear hrb
  go_wp2
  go_loopw [9] (fun vi wr => ∃ t : Nat, vi = .int .i64 ((a : Int) + (L : Int) / 4 * 2 - 1 + (t : Int)) ∧ t ≤ 3 ∧ Hid (PB w0 g cap a b d rb wr)) (fun vi _ => ((a : Int) + (L : Int) / 4 * 2 + 2 - intOf vi).toNat)
  case atStart => exact ⟨0, by simp, by omega, H0⟩
  case round =>
    clear H0
    obtain ⟨t, rfl, ht, hrel⟩ := hrel
    by_cases ht3 : t < 3
    · have hle : (a : Int) + (L : Int) / 4 * 2 - 1 + (t : Int) ≤ (a : Int) + (L : Int) / 4 * 2 + 1 := by omega
      obtain ⟨dk, X, hp, hk, hrb, hX, hB⟩ := hrel.out
      have HN := Lib.hid (xnext rb X _ hB hX)
      have HP := Lib.hid hp; have HK := Lib.hid hk; have HB := Lib.hid hB
      have hne : g ≠ rb := by have := hk.1; omega
      clear hp hk hX hB hrel
      go_wp2_with fail
      refine HN.out.mono ?_
      rintro e w3 ⟨Y, hY, rfl, hw3⟩
      have hK3 : SA w0 g cap dk w3 := by rw [hw3]; exact (HK.out.set rb 0 _ hrb).drewN 3
      have hB3 : Blk w3 rb 100 #[.int .u64 (Y : Int)] := by rw [hw3]; exact HB.out.set1 _
      have HK3 := Lib.hid hK3; have HB3 := Lib.hid hB3
      clear hw3 hK3 hB3 HN HK HB
      obtain ⟨O, hO⟩ : ∃ O : Nat, O = Y &&& (M - 1) := ⟨_, rfl⟩
      have lO : O ≤ M - 1 := by rw [hO]; exact Nat.and_le_right
      have eAnd : bits .and .u64 (Y : Int) ((M : Int) - 1) = (O : Int) := by
        rw [show ((M : Int) - 1) = ((M - 1 : Nat) : Int) by omega, bits_and_u64_nat _ _ hY (by omega), hO]
      clear hO
      have hn3 := HP.out.1.trans HS.out
      have HN3 := Lib.hid hn3; clear hn3
      have hidx := sbrk_idx (t := t) HL.out (by omega) ht3
      have HIX := Lib.hid hidx; clear hidx
      by_cases hLO : L ≤ O
      · have hLOz : (L : Int) ≤ (O : Int) := by omega
        obtain ⟨-, -, b1, p1, t1, q1⟩ := (SA.at_ HK3.out HN3.out (i := a + L / 4 * 2 - 1 + t) (I := (a : Int) + (L : Int) / 4 * 2 - 1 + (t : Int)) (by have := HIX.out; omega) (by omega))
        obtain ⟨-, -, b2, p2, t2, q2⟩ := (SA.at_ HK3.out HN3.out (i := a + (O - L)) (I := (a : Int) + ((O : Int) - (L : Int))) (by have := HAB.out; omega) (by omega))
        obtain ⟨xv, yv, c1, c2, f1, f2, hsw9⟩ := SA.swp9b HK3.out HN3.out (i := a + L / 4 * 2 - 1 + t) (j := a + (O - L)) (by have := HIX.out; omega) (by have := HAB.out; omega)
        have HSW := Lib.hid hsw9; clear hsw9
        have c3 := SA.mid HK3.out HN3.out (i := a + L / 4 * 2 - 1 + t) (j := a + (O - L)) (by have := HIX.out; omega) (by have := HAB.out; omega) c1 c2
        have HP2 := Lib.hid (Sort.permIn_trans d dk _ a b HP.out (Sort.swp_permIn dk a b (a + L / 4 * 2 - 1 + t) (a + (O - L)) HIX.out.1 HIX.out.2 (by omega) (by have := HAB.out; omega) (by rw [HN3.out]; exact hbn)))
        go_wp2_with fail
        go_region
        obtain ⟨w4, hw9, hsa, hgr⟩ := SA.word2 HSW.out
        rw [hw9]; clear hw9 c3 c1 c2 f1 f2 b1 b2 p1 p2 t1 t2 q1 q2 HSW
        have HF := Lib.hid (show PB w0 g cap a b d rb w4 from ⟨_, Y, HP2.out, hsa, hrb, hY, blk_thru_swap (w0 := w0) (cap := cap) HB3.out hgr hne⟩)
        clear hsa hgr
        go_wp2
        go_roundw
        case rel => exact ⟨t + 1, by congr 1; push_cast; omega, by omega, HF⟩
        case measure => simp [intOf]; omega
      · have hLOz : ¬ (L : Int) ≤ (O : Int) := by omega
        obtain ⟨-, -, b1, p1, t1, q1⟩ := (SA.at_ HK3.out HN3.out (i := a + L / 4 * 2 - 1 + t) (I := (a : Int) + (L : Int) / 4 * 2 - 1 + (t : Int)) (by have := HIX.out; omega) (by omega))
        obtain ⟨-, -, b2, p2, t2, q2⟩ := (SA.at_ HK3.out HN3.out (i := a + O) (I := (a : Int) + (O : Int)) (by have := HAB.out; omega) (by omega))
        obtain ⟨xv, yv, c1, c2, f1, f2, hsw9⟩ := SA.swp9b HK3.out HN3.out (i := a + L / 4 * 2 - 1 + t) (j := a + O) (by have := HIX.out; omega) (by have := HAB.out; omega)
        have HSW := Lib.hid hsw9; clear hsw9
        have c3 := SA.mid HK3.out HN3.out (i := a + L / 4 * 2 - 1 + t) (j := a + O) (by have := HIX.out; omega) (by have := HAB.out; omega) c1 c2
        have HP2 := Lib.hid (Sort.permIn_trans d dk _ a b HP.out (Sort.swp_permIn dk a b (a + L / 4 * 2 - 1 + t) (a + O) HIX.out.1 HIX.out.2 (by omega) (by have := HAB.out; omega) (by rw [HN3.out]; exact hbn)))
        go_wp2_with fail
        go_region
        obtain ⟨w4, hw9, hsa, hgr⟩ := SA.word2 HSW.out
        rw [hw9]; clear hw9 c3 c1 c2 f1 f2 b1 b2 p1 p2 t1 t2 q1 q2 HSW
        have HF := Lib.hid (show PB w0 g cap a b d rb w4 from ⟨_, Y, HP2.out, hsa, hrb, hY, blk_thru_swap (w0 := w0) (cap := cap) HB3.out hgr hne⟩)
        clear hsa hgr
        go_wp2
        go_roundw
        case rel => exact ⟨t + 1, by congr 1; push_cast; omega, by omega, HF⟩
        case measure => simp [intOf]; omega
    · have hle : ¬ (a : Int) + (L : Int) / 4 * 2 - 1 + (t : Int) ≤ (a : Int) + (L : Int) / 4 * 2 + 1 := by omega
      have HE := Lib.hid (show PR w0 g cap n a b d _ from (fun ⟨dk, X, hp, hk, _⟩ => ⟨dk, hp, hk⟩) hrel.out)
      clear hrel
      go_wp2
      go_end0
      exact ⟨rfl, HE.out⟩
end
end Go.Proofs.Ytdbiaijpbkmfhaa.U6
