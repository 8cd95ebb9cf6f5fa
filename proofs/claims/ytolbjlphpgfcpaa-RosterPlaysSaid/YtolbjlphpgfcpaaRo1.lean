/- roster: a roster as it lies; within, Right, New, Len, Find by contract. -/
import Derived.Test.YtolbjlphpgfcpaaRo0
namespace Go.Proofs.Ytolbjlphpgfcpaa
set_option linter.unusedVariables false
set_option linter.unusedSimpArgs false
open Go.RowKit
abbrev ptrA (y : Nat) : Value := .pointer (some ⟨y, 0, none⟩)
/-- Members that may stand in a map. -/
def WFH (H : Int → Option Mb) : Prop := ∀ u m, H u = some m → m.user = u ∧ 1 ≤ u ∧ u ≤ 65534 ∧ 0 ≤ m.quota ∧ m.quota ≤ 65535
/-- The roster at y: its map, so many stores, who is there, how many. -/
structure RS (w : World) (y : Nat) (o : Option Nat) (n : Nat) (H : Int → Option Mb) (c : Nat) : Prop where
  blk : Blk w y 53 #[.map o]
  mp : (o = none ∧ H = (fun _ => none) ∧ c = 0) ∨ ∃ mp, o = some mp ∧ mp ≠ y ∧ MapM w mp n H c
  wf : WFH H
/-- All blocks but the roster's and its map's are kept. -/
structure KeM (y : Nat) (o : Option Nat) (w w' : World) : Prop where
  os : w'.os = w.os
  tape : w'.tape = w.tape
  output : w'.output = w.output
  size : w.heap.size ≤ w'.heap.size
  block : ∀ k, k < w.heap.size → k ≠ y → o ≠ some k → w'.heap[k]? = w.heap[k]?
theorem RS.below {w w' : World} {y n c : Nat} {o : Option Nat} {H : Int → Option Mb} (h : RS w y o n H c) (hb : Below w.heap.size w w') : RS w' y o n H c :=
  ⟨Blk.thru0 h.blk hb, by
    rcases h.mp with h1 | ⟨mp, e, hne, hm⟩
    · exact .inl h1
    · exact .inr ⟨mp, e, hne, hm.below hb⟩, h.wf⟩
theorem RS.lt {w : World} {y n c : Nat} {o : Option Nat} {H : Int → Option Mb} (h : RS w y o n H c) {i : Nat} (hi : o = some i) : i < w.heap.size := by
  rcases h.mp with ⟨h1, _⟩ | ⟨mp, e, hne, hm⟩
  · rw [h1] at hi; cases hi
  · rw [e] at hi; cases hi; exact hm.lt
theorem KeM.of_below {y : Nat} {o : Option Nat} {a b : World} (h : Below a.heap.size a b) : KeM y o a b := ⟨h.os, h.tape, h.output, h.size, fun i hi _ _ => h.block i hi⟩
theorem KeM.trans {y : Nat} {o o' : Option Nat} {a b c : World} (h : KeM y o a b) (k : KeM y o' b c) (hf : ∀ i, o' = some i → o = some i ∨ a.heap.size ≤ i) : KeM y o a c :=
  ⟨k.os.trans h.os, k.tape.trans h.tape, k.output.trans h.output, Nat.le_trans h.size k.size, fun i hi h1 h2 => (k.block i (Nat.lt_of_lt_of_le hi h.size) h1 (fun e => by
    rcases hf i e with h3 | h3
    · exact h2 h3
    · omega)).trans (h.block i hi h1 h2)⟩
theorem KeM.bel {y : Nat} {o : Option Nat} {w0 w w' : World} (h : KeM y o w w') (hb : Below w0.heap.size w0 w) (hy : w0.heap.size ≤ y) (ho : ∀ i, o = some i → w0.heap.size ≤ i) : Below w0.heap.size w0 w' :=
  ⟨h.os.trans hb.os, h.tape.trans hb.tape, h.output.trans hb.output, Nat.le_trans hb.size h.size, fun i hi => (h.block i (Nat.lt_of_lt_of_le hi hb.size) (by omega) (fun e => by have := ho i e; omega)).trans (hb.block i hi)⟩
/-- What is done with a roster: what it is behind it. -/
structure RA (y : Nat) (o : Option Nat) (w : World) (o' : Option Nat) (n : Nat) (H : Int → Option Mb) (c : Nat) (w' : World) : Prop where
  rs : RS w' y o' n H c
  ke : KeM y o w w'
  far : ∀ i, o' = some i → o = some i ∨ w.heap.size ≤ i
theorem RA.start {w w' : World} {y n c : Nat} {o : Option Nat} {H : Int → Option Mb} (h : RS w y o n H c) (hb : Below w.heap.size w w') : RA y o w o n H c w' := ⟨h.below hb, KeM.of_below hb, fun i hi => .inl hi⟩
theorem RA.trans {y n n' c c' : Nat} {o o' o'' : Option Nat} {a b d : World} {H H' : Int → Option Mb} (h : RA y o a o' n H c b) (k : RA y o' b o'' n' H' c' d) : RA y o a o'' n' H' c' d :=
  ⟨k.rs, h.ke.trans k.ke h.far, fun i hi => by
    rcases k.far i hi with h1 | h1
    · exact h.far i h1
    · exact .inr (Nat.le_trans h.ke.size h1)⟩
theorem RA.below {y n c : Nat} {o o' : Option Nat} {a b d : World} {H : Int → Option Mb} (h : RA y o a o' n H c b) (hb : Below b.heap.size b d) : RA y o a o' n H c d :=
  h.trans (RA.start h.rs hb)
theorem RA.farB {y n c B : Nat} {o o' : Option Nat} {w w' : World} {H : Int → Option Mb} (h : RA y o w o' n H c w') (hB : B ≤ w.heap.size) (ho : ∀ i, o = some i → B ≤ i) : ∀ i, o' = some i → B ≤ i := fun i e => by
  rcases h.far i e with h1 | h1
  · exact ho i h1
  · omega
set_option maxHeartbeats 1000000 in
theorem within_any (w : World) (a b c : Int) : Calls Try.prog 28 #[.int .i64 a, .int .i64 b, .int .i64 c] w fun e w' => e = .returned (.bool (decide (b ≤ a) && decide (a ≤ c))) ∧ w = w' := by
  by_cases h : b ≤ a
  · have hd : decide (b ≤ a) = true := by simpa using h
    go_enter Try.func28, Try.ntmps28
    go_wp2
    go_ret
    exact ⟨by rw [hd, Bool.true_and]; rfl, rfl⟩
  · have hd : decide (b ≤ a) = false := by simpa using h
    go_enter Try.func28, Try.ntmps28
    go_wp2
    go_ret
    exact ⟨by simp [hd], rfl⟩
/-- A member may be enrolled. -/
def rightM (m : Mb) : Bool := decide (1 ≤ m.user) && decide (m.user ≤ 65534) && decide (0 ≤ m.role) && decide (m.role ≤ 7) && decide (0 ≤ m.tier) && decide (m.tier ≤ 7) && decide (0 ≤ m.quota) && decide (m.quota ≤ 65535) && decide (m.k = 0) && decide (m.area = 0)
theorem rightM_iff (m : Mb) : rightM m = true ↔ 1 ≤ m.user ∧ m.user ≤ 65534 ∧ 0 ≤ m.role ∧ m.role ≤ 7 ∧ 0 ≤ m.tier ∧ m.tier ≤ 7 ∧ 0 ≤ m.quota ∧ m.quota ≤ 65535 ∧ m.k = 0 ∧ m.area = 0 := by
  simp only [rightM, Bool.and_eq_true, decide_eq_true_eq, and_assoc]
theorem rnew_any (w : World) : Calls Try.prog 7 #[] w fun e w' => e = .returned (ptrA w.heap.size) ∧ RS w' w.heap.size none 0 (fun _ => none) 0 ∧ Below w.heap.size w w' := by
  go_enter Try.func7, Try.ntmps7
  go_wp2
  go_ret
  exact ⟨rfl, ⟨Blk.new w _ _, .inl ⟨rfl, rfl, rfl⟩, fun u m h => by cases h⟩, by go_grown⟩
theorem rlen_any (w : World) (y n c : Nat) (o : Option Nat) (H : Int → Option Mb) (h : RS w y o n H c) (hc : c ≤ 1000000) : Calls Try.prog 13 #[ptrA y] w fun e w' => e = .returned (.int .i64 (1 + (c : Int))) ∧ w = w' := by
  have t0 : w.cell? ⟨y, 0, none⟩ = some (.map o) := h.blk.cell 0
  rcases h.mp with ⟨rfl, _, rfl⟩ | ⟨mp, rfl, hne, hm⟩
  · have hl := len_none
    clear h
    go_enter Try.func13, Try.ntmps13
    go_wp2
    go_ret
    exact ⟨rfl, rfl⟩
  · have hl := fun ty => hm.len ty
    clear h hm
    go_enter Try.func13, Try.ntmps13
    go_wp2
    go_ret
    exact ⟨rfl, rfl⟩
theorem rlen_nil (w : World) : Calls Try.prog 13 #[.pointer none] w fun e w' => e = .returned (.int .i64 0) ∧ w = w' := by
  go_enter Try.func13, Try.ntmps13
  go_wp2
  go_ret
  exact ⟨rfl, rfl⟩
/-- Whom Find finds. -/
def fiM (H : Int → Option Mb) (u : Int) : Mb := if u = 0 then Mb.first else (H u).getD Mb.zero
def fiB (H : Int → Option Mb) (u : Int) : Bool := if u = 0 then true else (H u).isSome
set_option maxHeartbeats 4000000 in
theorem rfind_any (w : World) (y n c : Nat) (o : Option Nat) (H : Int → Option Mb) (u : Int) (h : RS w y o n H c) (hu : -9223372036854775808 ≤ u ∧ u ≤ 9223372036854775807) :
    Calls Try.prog 11 #[ptrA y, .int .i64 u] w fun e w' => e = .returned (.tuple #[(fiM H u).V, .bool (fiB H u)]) ∧ Below w.heap.size w w' := by
  have t0 : w.cell? ⟨y, 0, none⟩ = some (.map o) := h.blk.cell 0
  have hy := h.blk.lt
  have hw := wf_i64 hu
  by_cases h0 : u = 0
  · have he : (u == 0) = true := by simpa using h0
    have e1 : fiM H u = Mb.first := if_pos h0
    have e2 : fiB H u = true := if_pos h0
    rw [e1, e2]
    clear h e1 e2 h0
    go_enter Try.func11, Try.ntmps11
    go_wp2
    exact bodyPost_ret (v := .tuple #[Mb.first.V, .bool true]) (by simp [results, Try.results11, go_sem, Mb.first]) rfl ⟨rfl, by go_grown⟩
  · have he : (u == 0) = false := by simpa using h0
    have e1 : fiM H u = (H u).getD Mb.zero := if_neg h0
    have e2 : fiB H u = (H u).isSome := if_neg h0
    rw [e1, e2]
    rcases h.mp with ⟨rfl, rfl, rfl⟩ | ⟨mp, rfl, hne, hm⟩
    · have hl := fun w => look_none w u hw
      simp only [Mb.V, Mb.zero] at hl
      clear h e1 e2 h0
      go_enter Try.func11, Try.ntmps11
      go_wp2
      exact bodyPost_ret (v := .tuple #[Mb.zero.V, .bool false]) (by simp [results, Try.results11, go_sem, Mb.zero]) rfl ⟨rfl, by go_grown⟩
    · have HM := Lib.hid hm
      have hl1 := (hm.alloc (.cells #[.int .i64 0, .int .i64 0, .int .i64 0, .int .i64 0, .int .i64 0, .int .u64 0] 34)).look_ok u hw
      obtain ⟨m, hm9⟩ : ∃ m, (H u).getD Mb.zero = m := ⟨_, rfl⟩
      obtain ⟨b, hb9⟩ : ∃ b, (H u).isSome = b := ⟨_, rfl⟩
      rw [hm9, hb9] at hl1 ⊢
      clear h e1 e2 h0 hm hm9 hb9 hw hu
      obtain ⟨m0, m1, m2, m3, m4, m5⟩ := m
      simp only [Mb.V] at hl1
      go_enter Try.func11, Try.ntmps11
      go_wp2
      exact bodyPost_ret (v := .tuple #[Mb.V ⟨m0, m1, m2, m3, m4, m5⟩, .bool b]) (by simp [results, Try.results11, go_sem]) rfl ⟨rfl, by go_grown⟩
theorem rfind_nil (w : World) (u : Int) : Calls Try.prog 11 #[.pointer none, .int .i64 u] w fun e w' => e = .returned (.tuple #[Mb.zero.V, .bool false]) ∧ Below w.heap.size w w' := by
  go_enter Try.func11, Try.ntmps11
  go_wp2
  exact bodyPost_ret (v := .tuple #[Mb.zero.V, .bool false]) (by simp [results, Try.results11, go_sem, Mb.zero]) rfl ⟨rfl, by go_grown⟩
end Go.Proofs.Ytolbjlphpgfcpaa
