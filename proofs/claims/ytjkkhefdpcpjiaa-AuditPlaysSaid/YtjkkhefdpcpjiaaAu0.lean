/- audit: events and trails as they lie. -/
import Derived.Test.YtjkkhefdpcpjiaaRow3
import Derived.Deep.DeepCutAuto
import Derived.Deep.MidRow
import Derived.Handy
namespace Go.Proofs.Ytjkkhefdpcpjiaa
set_option linter.unusedVariables false
set_option linter.unusedSimpArgs false
open Go.RowKit
/-- An event. -/
structure Ev where
  user : Int
  op : Int
  st : Int
  tick : Int
deriving DecidableEq
abbrev Ev.V (e : Ev) : Value := .agg #[.int .i64 e.user, .int .i64 e.op, .int .i64 e.st, .int .i64 e.tick]
def Ev.zero : Ev := ⟨0, 0, 0, 0⟩
def elE : El Ev := { T := 27, k := 4, by_ := 32, z := Ev.zero.V, enc := fun e => [.int .i64 e.user, .int .i64 e.op, .int .i64 e.st, .int .i64 e.tick] }
theorem elE_ok : elE.Ok := ⟨by decide, fun _ => rfl, fun x u hu => by simp only [elE, List.mem_cons, List.not_mem_nil, or_false] at hu; rcases hu with rfl | rfl | rfl | rfl <;> rfl, by kernel_rfl, rfl, by decide⟩
abbrev ptrA (y : Nat) : Value := .pointer (some ⟨y, 0, none⟩)
theorem EOwn.four {w : World} {A : Option Addr} {n c : Nat} {L : List Ev} (h : EOwn elE w (.slice A n c) L) {i : Nat} {x : Ev} (hi : L[i]? = some x) : ∃ g, A = some ⟨g, 0, none⟩ ∧
    w.cell? ⟨g, i * 4, none⟩ = some (.int .i64 x.user) ∧ w.cell? ⟨g, i * 4 + 1, none⟩ = some (.int .i64 x.op) ∧ w.cell? ⟨g, i * 4 + 2, none⟩ = some (.int .i64 x.st) ∧ w.cell? ⟨g, i * 4 + 3, none⟩ = some (.int .i64 x.tick) := by
  obtain ⟨_, g, e, hc⟩ := h.cell elE_ok hi
  exact ⟨g, e, hc 0 _ rfl, hc 1 _ rfl, hc 2 _ rfl, hc 3 _ rfl⟩
theorem ERd.shape {α : Type} {E : El α} {w : World} {v : Value} {L : List α} (h : ERd E w v L) : ∃ A c, v = .slice A L.length c ∧ L.length ≤ c ∧ c ≤ maxLen := by
  obtain ⟨A, c, e, h1, h2, _⟩ := h
  exact ⟨A, c, e, h1, h2⟩
theorem ERd.four {w : World} {A : Option Addr} {n c : Nat} {L : List Ev} (h : ERd elE w (.slice A n c) L) {i : Nat} {x : Ev} (hi : L[i]? = some x) : ∃ g o, A = some ⟨g, o, none⟩ ∧
    w.cell? ⟨g, o + i * 4, none⟩ = some (.int .i64 x.user) ∧ w.cell? ⟨g, o + i * 4 + 1, none⟩ = some (.int .i64 x.op) ∧ w.cell? ⟨g, o + i * 4 + 2, none⟩ = some (.int .i64 x.st) ∧ w.cell? ⟨g, o + i * 4 + 3, none⟩ = some (.int .i64 x.tick) := by
  obtain ⟨A', c', e, h1, h2, h3⟩ := h
  injection e with e1 e2 e3
  subst e1
  obtain ⟨g, o, rfl, hc⟩ := h3 i x hi
  exact ⟨g, o, rfl, hc 0 _ rfl, hc 1 _ rfl, hc 2 _ rfl, hc 3 _ rfl⟩
/-- All blocks but the trail's and its row's are kept. -/
structure KeT (y : Nat) (v : Value) (w w' : World) : Prop where
  os : w'.os = w.os
  tape : w'.tape = w.tape
  output : w'.output = w.output
  size : w.heap.size ≤ w'.heap.size
  block : ∀ k, k < w.heap.size → k ≠ y → v.ownBlock ≠ some k → w'.heap[k]? = w.heap[k]?
theorem KeT.of_below {y : Nat} {v : Value} {a b : World} (h : Below a.heap.size a b) : KeT y v a b := ⟨h.os, h.tape, h.output, h.size, fun i hi _ _ => h.block i hi⟩
theorem KeT.trans {y : Nat} {v v' : Value} {a b c : World} (h : KeT y v a b) (k : KeT y v' b c) (hf : ∀ i, v'.ownBlock = some i → v.ownBlock = some i ∨ a.heap.size ≤ i) : KeT y v a c :=
  ⟨k.os.trans h.os, k.tape.trans h.tape, k.output.trans h.output, Nat.le_trans h.size k.size, fun i hi h1 h2 => (k.block i (Nat.lt_of_lt_of_le hi h.size) h1 (fun e => by
    rcases hf i e with h3 | h3
    · exact h2 h3
    · omega)).trans (h.block i hi h1 h2)⟩
/-- The trail at y: its row's value, what it holds, how many of these are gone, how many were drained. -/
structure TR (w : World) (y : Nat) (v : Value) (H : List Ev) (n p : Nat) : Prop where
  blk : Blk w y 48 #[v, .int .i64 n, .int .i64 p]
  own : EOwn elE w v H
  ne : v.ownBlock ≠ some y
  gone : n ≤ H.length
  past : p ≤ 4611686018427387903
theorem TR.below {w w' : World} {y : Nat} {v : Value} {H : List Ev} {n p : Nat} (h : TR w y v H n p) (hb : Below w.heap.size w w') : TR w' y v H n p := ⟨Blk.thru0 h.blk hb, h.own.below hb, h.ne, h.gone, h.past⟩
/-- What is done with a trail: what it is behind it. -/
structure AS (y : Nat) (v : Value) (w : World) (v' : Value) (H : List Ev) (n p : Nat) (w' : World) : Prop where
  tr : TR w' y v' H n p
  ke : KeT y v w w'
  far : ∀ i, v'.ownBlock = some i → v.ownBlock = some i ∨ w.heap.size ≤ i
theorem AS.trans {y : Nat} {v v' v'' : Value} {a b c : World} {H H' : List Ev} {n p n' p' : Nat} (h : AS y v a v' H n p b) (k : AS y v' b v'' H' n' p' c) : AS y v a v'' H' n' p' c :=
  ⟨k.tr, h.ke.trans k.ke h.far, fun i hi => by
    rcases k.far i hi with h1 | h1
    · exact h.far i h1
    · exact .inr (Nat.le_trans h.ke.size h1)⟩
theorem AS.below {y : Nat} {v v' : Value} {a b c : World} {H : List Ev} {n p : Nat} (h : AS y v a v' H n p b) (hb : Below b.heap.size b c) : AS y v a v' H n p c :=
  ⟨h.tr.below hb, h.ke.trans (v' := v') (KeT.of_below hb) h.far, h.far⟩
theorem AS.start {y : Nat} {v : Value} {w w' : World} {H : List Ev} {n p : Nat} (h : TR w y v H n p) (hb : Below w.heap.size w w') : AS y v w v H n p w' := ⟨h.below hb, KeT.of_below hb, fun i hi => .inl hi⟩
/-- The slice that is left of a row. -/
def cutV (v : Value) (n : Nat) : Value := match v with
  | .slice A m c => .slice (if c = n then A else A.map (·.add (n * 4))) (m - n) (c - n)
  | v => v
theorem ERd.cut {w : World} {v : Value} {L : List Ev} {n : Nat} (h : ERd elE w v L) (hn : n ≤ L.length) : ERd elE w (cutV v n) (L.drop n) := by
  obtain ⟨A, c, rfl, h1, h2, h3⟩ := h
  refine ⟨if c = n then A else A.map (·.add (n * 4)), c - n, by simp [cutV], by simp; omega, by omega, fun i x hx => ?_⟩
  rw [List.getElem?_drop] at hx
  obtain ⟨g, o, rfl, hc⟩ := h3 (n + i) x hx
  have hlt := (List.getElem?_eq_some_iff.1 hx).1
  rw [if_neg (by omega)]
  refine ⟨g, o + n * 4, by simp [Addr.add], fun j u hu => ?_⟩
  have := hc j u hu
  have e : o + (n + i) * elE.k + j = o + n * 4 + i * elE.k + j := by simp [elE]; omega
  rwa [e] at this
theorem ERd.take {w : World} {A : Option Addr} {m c : Nat} {L : List Ev} {n : Nat} (h : ERd elE w (.slice A m c) L) (hn : n ≤ L.length) : ERd elE w (.slice A n c) (L.take n) := by
  obtain ⟨A', c', e, h1, h2, h3⟩ := h
  injection e with e1 e2 e3
  subst e1; subst e3
  refine ⟨A, c, by rw [List.length_take, Nat.min_eq_left hn], by simp; omega, h2, fun i x hx => ?_⟩
  have hi : i < n := by
    have := (List.getElem?_eq_some_iff.1 hx).1
    simp at this; omega
  rw [List.getElem?_take, if_pos hi] at hx
  exact h3 i x hx
theorem sl_from (A : Option Addr) (a n c : Nat) (h1 : a ≤ n) (h2 : n ≤ c) (w : World) : (Instr.slice 25 (.slice A n c) (some (.int .i64 a)) none none).run Try.prog w = .ok (cutV (.slice A n c) a) w := by
  have hs : ∀ w, (sizeOf 27).run Try.prog w = .ok 4 w := fun w => by kernel_rfl
  have ht : Try.prog.underlying 25 = some (.slice 27) := Try.underlying25
  have he : Try.prog.elem 25 = 27 := by kernel_rfl
  rw [run_slice_l w 25 _ _ _ (by rw [he]; exact ht) .i64 (a : Int) (by omega) (by omega), he, hs]
  simp only [cutV, sliced, Result.andThen_ok, Int.toNat_natCast]
theorem sl_to (A : Option Addr) (a n c : Nat) (h2 : a ≤ c) (w : World) : (Instr.slice 25 (.slice A n c) none (some (.int .i64 a)) none).run Try.prog w = .ok (.slice A a c) w := by
  have hs : ∀ w, (sizeOf 27).run Try.prog w = .ok 4 w := fun w => by kernel_rfl
  have ht : Try.prog.underlying 25 = some (.slice 27) := Try.underlying25
  have he : Try.prog.elem 25 = 27 := by kernel_rfl
  rw [run_slice_h w 25 _ _ _ (by rw [he]; exact ht) .i64 (a : Int) (by omega) (by omega), he, hs]
  cases A with
  | none => simp [sliced]
  | some x => simp [sliced, Addr.add]
end Go.Proofs.Ytjkkhefdpcpjiaa
