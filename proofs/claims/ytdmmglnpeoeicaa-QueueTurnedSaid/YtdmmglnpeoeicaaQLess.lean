/- queue: Less, of two entries; entries in a row; Less, Swap of a row's places. -/
import Derived.Test.YtdmmglnpeoeicaaQMath
import Derived.Test.YtdmmglnpeoeicaaBlk
import Derived.Test.YtdmmglnpeoeicaaRows
import Derived.WalkKit
import Derived.WalkSpells
import Derived.WalkLawsBesides
import Derived.BigQuiet
import Derived.Deep.QuietTactic
import Derived.Deep.RegionHeld3
import Derived.Lib.Hide
import Derived.RegionTactic
import Derived.StillTailTactics
import Derived.Outline
import Derived.Handy
import Derived.BigRegion
import Derived.ChangeAlike
import Derived.IntWalk
namespace Go.Proofs.Ytdmmglnpeoeicaa
set_option linter.unusedVariables false
set_option linter.unusedSimpArgs false
open Go.RowKit
theorem ret_bool {a b : Bool} (h : a = b) : Ending.returned (.bool a) = .returned (.bool b) := by rw [h]
set_option maxHeartbeats 1000000 in
theorem less_any (k t i k' t' i' : Int) (w : World) : Calls Try.prog 18 #[.agg #[.int .u64 k, .int .u64 t, .int .i64 i], .agg #[.int .u64 k', .int .u64 t', .int .i64 i']] w fun e w' => e = .returned (.bool (ltE (k, t, i) (k', t', i'))) ∧ Below w.heap.size w w' := by
  have hB : Below w.heap.size w ((w.alloc (.cells #[.int .u64 k, .int .u64 t, .int .i64 i] 29)).alloc (.cells #[.int .u64 k', .int .u64 t', .int .i64 i'] 29)) := by go_grown
  have HB := Lib.hid hB; clear hB
  by_cases h1 : k = k'
  · subst h1
    by_cases h2 : t = t'
    · subst h2
      have hv : decide (i < i') = ltE (k, t, i) (k, t, i') := by simp [ltE, LtE]
      have HV := Lib.hid hv; clear hv
      go_enter Try.func18, Try.ntmps18
      go_wp2
      all_goals
        go_ret
        exact ⟨ret_bool HV.out, HB.out⟩
    · have hb : (t != t') = true := by simp [h2]
      have hv : decide (t < t') = ltE (k, t, i) (k, t', i') := by simp [ltE, LtE, h2]
      have HV := Lib.hid hv; clear hv
      go_enter Try.func18, Try.ntmps18
      go_wp2
      all_goals
        go_ret
        exact ⟨ret_bool HV.out, HB.out⟩
  · have hb : (k != k') = true := by simp [h1]
    have hv : decide (k < k') = ltE (k, t, i) (k', t', i') := by simp [ltE, LtE, h1]
    have HV := Lib.hid hv; clear hv
    go_enter Try.func18, Try.ntmps18
    go_wp2
    all_goals
      go_ret
      exact ⟨ret_bool HV.out, HB.out⟩
def encE (e : En) : List Value := [.int .u64 e.1, .int .u64 e.2.1, .int .i64 e.2.2]
def encs (L : List En) : List Value := L.flatMap encE
theorem encs_length (L : List En) : (encs L).length = L.length * 3 := by
  induction L with
  | nil => rfl
  | cons x xs ih => simp only [encs, List.flatMap_cons, List.length_append, List.length_cons] at *; rw [ih]; simp [encE]; omega
theorem encs_append (L M : List En) : encs (L ++ M) = encs L ++ encs M := by simp [encs]
theorem encs_get (L : List En) : ∀ (i j : Nat), i < L.length → j < 3 → (encs L)[i * 3 + j]? = (encE (at_ L i))[j]? := by
  induction L with
  | nil => intro i j h; simp at h
  | cons x xs ih =>
    intro i j hi hj
    cases i with
    | zero =>
      simp only [encs, List.flatMap_cons]
      rw [List.getElem?_append_left (by simp [encE]; omega)]
      simp [at_]
    | succ i =>
      simp only [encs, List.flatMap_cons]
      rw [List.getElem?_append_right (by simp [encE]; omega)]
      have := ih i j (by simpa using hi) hj
      simp only [encs] at this
      rw [show (i + 1) * 3 + j - (encE x).length = i * 3 + j by simp [encE]; omega, this]
      simp [at_]
/-- Block g holds the entries L, at the head of a row with room for cap. -/
def QRow (w : World) (g cap : Nat) (L : List En) : Prop :=
  ∃ cur, Blk w g 29 cur ∧ cur.size = cap * 3 ∧ L.length ≤ cap ∧ cap ≤ maxLen ∧ ∀ i j, i < L.length → j < 3 → cur[i * 3 + j]? = (encE (at_ L i))[j]?
theorem QRow.lt {w : World} {g cap : Nat} {L : List En} (h : QRow w g cap L) : g < w.heap.size := by obtain ⟨cur, h1, _⟩ := h; exact h1.lt
theorem QRow.cell {w : World} {g cap : Nat} {L : List En} (h : QRow w g cap L) {i : Nat} (hi : i < L.length) :
    w.cell? ⟨g, i * 3, none⟩ = some (.int .u64 (at_ L i).1) ∧ w.cell? ⟨g, i * 3 + 1, none⟩ = some (.int .u64 (at_ L i).2.1) ∧ w.cell? ⟨g, i * 3 + 2, none⟩ = some (.int .i64 (at_ L i).2.2) := by
  obtain ⟨cur, h1, h2, h3, _, h4⟩ := h
  rw [h1.cell, h1.cell, h1.cell]
  exact ⟨by simpa [encE] using h4 i 0 hi (by omega), by simpa [encE] using h4 i 1 hi (by omega), by simpa [encE] using h4 i 2 hi (by omega)⟩
theorem QRow.keep {w w' : World} {g cap : Nat} {L : List En} (h : QRow w g cap L) (hk : w'.heap[g]? = w.heap[g]?) : QRow w' g cap L := by
  obtain ⟨cur, h1, h2⟩ := h
  exact ⟨cur, hk.trans h1, h2⟩
theorem QRow.below {w w' : World} {g cap : Nat} {L : List En} (h : QRow w g cap L) (hb : Below w.heap.size w w') : QRow w' g cap L := h.keep (hb.block g h.lt)
theorem QRow.drewN {w : World} {g cap : Nat} {L : List En} (h : QRow w g cap L) (q : Nat) : QRow (w.drewN q) g cap L := h
set_option maxHeartbeats 1000000 in
theorem eless_any (g cap i j : Nat) (L : List En) (w : World) (h : QRow w g cap L) (hi : i < L.length) (hj : j < L.length) : Calls Try.prog 65 #[.slice (some ⟨g, 0, none⟩) L.length cap, .int .i64 (i : Int), .int .i64 (j : Int)] w fun e w' => e = .returned (.bool (ltE (at_ L i) (at_ L j))) ∧ Below w.heap.size w w' := by
  obtain ⟨a0, a1, a2⟩ := h.cell hi
  obtain ⟨b0, b1, b2⟩ := h.cell hj
  have hii : (i : Int) < (L.length : Int) := by omega
  have hjj : (j : Int) < (L.length : Int) := by omega
  generalize hA : at_ L i = A at *
  generalize hC : at_ L j = C at *
  have hl := less_any A.1 A.2.1 A.2.2 C.1 C.2.1 C.2.2
  have HL := Lib.hid hl
  clear hA hC hl h
  go_enter Try.func65, Try.ntmps65
  go_wp2_with fail
  go_still_tail 8, (by kernel_rfl)
  change wpList _ _ _ _ _ w.drew
  have hb0 : Below w.heap.size w w.drew := below_drawn (Below.refl _ _) 1
  generalize w.drew = w2 at hb0 ⊢
  go_wp2_with fail
  refine (HL.out _).mono ?_
  rintro e w3 ⟨rfl, hb⟩
  go_wp2
  go_ret
  exact ⟨rfl, below_trans hb0 hb⟩
theorem at_set (L : List En) (i : Nat) (e : En) (hi : i < L.length) (k : Nat) : at_ (L.set i e) k = if k = i then e else at_ L k := by
  by_cases h : k = i
  · subst h; rw [if_pos rfl]; simp [at_, List.getD_eq_getElem?_getD, hi]
  · rw [if_neg h]
    have : ¬ i = k := fun e => h e.symm
    simp [at_, List.getD_eq_getElem?_getD, List.getElem?_set, this]
/-- Three cells of block g, an entry's. -/
def put3 (w : World) (g o : Nat) (e : En) : World := ((w.setCell ⟨g, o, none⟩ (.int .u64 e.1)).setCell ⟨g, o + 1, none⟩ (.int .u64 e.2.1)).setCell ⟨g, o + 2, none⟩ (.int .i64 e.2.2)
theorem put3_grown (w : World) (g o : Nat) (e : En) : w.grownBy (put3 w g o e) (some g) := by
  refine ⟨rfl, rfl, rfl, by simp [put3], fun i hi hne => ?_⟩
  have h : ∀ (X : World) (o : Nat) (u : Value), (X.setCell ⟨g, o, none⟩ u).heap[i]? = X.heap[i]? := fun X o u => Below.heap_setCell X _ u i (fun e => hne (by rw [e]))
  simp only [put3, h]
theorem QRow.put {w : World} {g cap i : Nat} {L : List En} (h : QRow w g cap L) (hi : i < L.length) (e : En) : QRow (put3 w g (i * 3) e) g cap (L.set i e) := by
  obtain ⟨cur, h1, h2, h3, h4, h5⟩ := h
  refine ⟨((cur.setIfInBounds (i * 3) (.int .u64 e.1)).setIfInBounds (i * 3 + 1) (.int .u64 e.2.1)).setIfInBounds (i * 3 + 2) (.int .i64 e.2.2), ((h1.set_ _ _).set_ _ _).set_ _ _, by simp [h2], by simpa using h3, h4, fun k j hk hj => ?_⟩
  rw [List.length_set] at hk
  rw [at_set L i e hi]
  have hb : i * 3 + 2 < cur.size := by omega
  by_cases he : k = i
  · subst he
    rw [if_pos rfl]
    have hj3 : j = 0 ∨ j = 1 ∨ j = 2 := by omega
    rcases hj3 with rfl | rfl | rfl
    · simp [encE, Array.getElem?_setIfInBounds, show k * 3 < cur.size by omega]
    · simp [encE, Array.getElem?_setIfInBounds, show k * 3 + 1 < cur.size by omega]
    · simp [encE, Array.getElem?_setIfInBounds, hb]
  · rw [if_neg he, Array.getElem?_setIfInBounds_ne (by omega), Array.getElem?_setIfInBounds_ne (by omega), Array.getElem?_setIfInBounds_ne (by omega)]
    exact h5 k j hk hj
theorem grown_trans' {a b c : World} {g : Nat} (h : a.grownBy b (some g)) (k : b.grownBy c (some g)) : a.grownBy c (some g) :=
  ⟨k.os.trans h.os, k.tape.trans h.tape, k.output.trans h.output, Nat.le_trans h.size k.size, fun i hi hne => (k.block i (Nat.lt_of_lt_of_le hi h.size) hne).trans (h.block i hi hne)⟩
def SwapPost (g cap : Nat) (L : List En) (w : World) (e : Ending) (w' : World) : Prop := e = .returned (.tuple #[]) ∧ QRow w' g cap L ∧ w.grownBy w' (some g)
theorem QRow.drew {w : World} {g cap : Nat} {L : List En} (h : QRow w g cap L) : QRow w.drew g cap L := h
theorem grown_drew {a w : World} {row : Option Nat} (h : a.grownBy w row) : a.grownBy w.drew row := ⟨h.os, h.tape, h.output, h.size, h.block⟩
theorem swap_post {w : World} {g cap i j : Nat} {L : List En} (h : QRow w g cap L) (hi : i < L.length) (hj : j < L.length) :
    SwapPost g cap (sw L i j) w (.returned (.tuple #[])) (((((((w.setCell ⟨g, i * 3, none⟩ (.int .u64 (at_ L j).1)).setCell ⟨g, i * 3 + 1, none⟩ (.int .u64 (at_ L j).2.1)).setCell ⟨g, i * 3 + 2, none⟩ (.int .i64 (at_ L j).2.2)).setCell ⟨g, j * 3, none⟩ (.int .u64 (at_ L i).1)).setCell ⟨g, j * 3 + 1, none⟩ (.int .u64 (at_ L i).2.1)).setCell ⟨g, j * 3 + 2, none⟩ (.int .i64 (at_ L i).2.2)).drew) := by
  have hq := (h.put hi (at_ L j)).put (i := j) (by simpa using hj) (at_ L i)
  have hg := grown_trans' (put3_grown w g (i * 3) (at_ L j)) (put3_grown (put3 w g (i * 3) (at_ L j)) g (j * 3) (at_ L i))
  have hq2 := hq.drew
  have hg2 := grown_drew hg
  unfold put3 at hq2 hg2
  unfold SwapPost sw
  exact ⟨rfl, hq2, hg2⟩
set_option maxHeartbeats 4000000 in
theorem eswap_ne (g cap i j : Nat) (L : List En) (w : World) (h : QRow w g cap L) (hi : i < L.length) (hj : j < L.length) (hne : i ≠ j) : Calls Try.prog 66 #[.slice (some ⟨g, 0, none⟩) L.length cap, .int .i64 (i : Int), .int .i64 (j : Int)] w fun e w' => SwapPost g cap (sw L i j) w e w' := by
  obtain ⟨a0, a1, a2⟩ := h.cell hi
  obtain ⟨b0, b1, b2⟩ := h.cell hj
  have hii : (i : Int) < (L.length : Int) := by omega
  have hjj : (j : Int) < (L.length : Int) := by omega
  have f0 : ∀ k, w.frozen? ⟨g, k, none⟩ = false := fun k => by obtain ⟨cur, h1, _⟩ := h; exact h1.frozen k
  have fa0 := f0 (i * 3)
  have fa1 := f0 (i * 3 + 1)
  have fa2 := f0 (i * 3 + 2)
  have fb0 := f0 (j * 3)
  have fb1 := f0 (j * 3 + 1)
  have fb2 := f0 (j * 3 + 2)
  clear f0
  have n1 : ¬ i * 3 = j * 3 := by omega
  have n2 : ¬ i * 3 = j * 3 + 1 := by omega
  have n3 : ¬ i * 3 = j * 3 + 2 := by omega
  have n4 : ¬ i * 3 + 1 = j * 3 := by omega
  have n5 : ¬ i * 3 + 2 = j * 3 := by omega
  have n6 : ¬ i * 3 + 1 = j * 3 + 2 := by omega
  have n7 : ¬ i * 3 + 2 = j * 3 + 1 := by omega
  have m1 : ¬ j * 3 = i * 3 := by omega
  have m2 : ¬ j * 3 = i * 3 + 1 := by omega
  have m3 : ¬ j * 3 = i * 3 + 2 := by omega
  have m4 : ¬ j * 3 + 1 = i * 3 := by omega
  have m5 : ¬ j * 3 + 2 = i * 3 := by omega
  have m6 : ¬ j * 3 + 1 = i * 3 + 2 := by omega
  have m7 : ¬ j * 3 + 2 = i * 3 + 1 := by omega
  have HP := Lib.hid (swap_post h hi hj); clear h
  have hij3 : ¬ i = j := hne
  have hji3 : ¬ j = i := fun e => hne e.symm
  go_enter Try.func66, Try.ntmps66
  go_region
  go_end0
  exact HP.out
set_option maxHeartbeats 4000000 in
theorem eswap_eq (g cap i : Nat) (L : List En) (w : World) (h : QRow w g cap L) (hi : i < L.length) : Calls Try.prog 66 #[.slice (some ⟨g, 0, none⟩) L.length cap, .int .i64 (i : Int), .int .i64 (i : Int)] w fun e w' => SwapPost g cap (sw L i i) w e w' := by
  obtain ⟨a0, a1, a2⟩ := h.cell hi
  have hii : (i : Int) < (L.length : Int) := by omega
  have f0 : ∀ k, w.frozen? ⟨g, k, none⟩ = false := fun k => by obtain ⟨cur, h1, _⟩ := h; exact h1.frozen k
  have fa0 := f0 (i * 3)
  have fa1 := f0 (i * 3 + 1)
  have fa2 := f0 (i * 3 + 2)
  clear f0
  have HP := Lib.hid (swap_post h hi hi); clear h
  go_enter Try.func66, Try.ntmps66
  go_region
  go_end0
  exact HP.out
theorem eswap_any (g cap i j : Nat) (L : List En) (w : World) (h : QRow w g cap L) (hi : i < L.length) (hj : j < L.length) : Calls Try.prog 66 #[.slice (some ⟨g, 0, none⟩) L.length cap, .int .i64 (i : Int), .int .i64 (j : Int)] w fun e w' => SwapPost g cap (sw L i j) w e w' := by
  by_cases e : i = j
  · subst e; exact eswap_eq g cap i L w h hi
  · exact eswap_ne g cap i j L w h hi hj e
end Go.Proofs.Ytdmmglnpeoeicaa
