/- token: slices.DeleteFunc of tickets whose secret is gone, by contract. -/
import Derived.Test.YtmlmndaflgfdkaaTo7
namespace Go.Proofs.Ytmlmndaflgfdkaa
set_option linter.unusedVariables false
set_option linter.unusedSimpArgs false
open Go.RowKit
/-- All blocks but v's own are kept. -/
structure KeV (v : Value) (w w' : World) : Prop where
  os : w'.os = w.os
  tape : w'.tape = w.tape
  output : w'.output = w.output
  size : w.heap.size ≤ w'.heap.size
  block : ∀ k, k < w.heap.size → v.ownBlock ≠ some k → w'.heap[k]? = w.heap[k]?
theorem KeV.of_below {v : Value} {a b : World} (h : Below a.heap.size a b) : KeV v a b := ⟨h.os, h.tape, h.output, h.size, fun i hi _ => h.block i hi⟩
theorem KeV.of_but {v : Value} {g : Nat} {a b : World} (h : But g a b) (hv : v.ownBlock = some g) : KeV v a b := ⟨h.os, h.tape, h.output, h.size, fun i hi hn => h.block i hi (fun e => hn (by rw [hv, e]))⟩
theorem encs_takeE {α : Type} {E : El α} (hE : E.Ok) (X : List α) (n : Nat) : E.encs (X.take n) = (E.encs X).take (n * E.k) := by
  induction X generalizing n with
  | nil => simp [El.encs]
  | cons x r ih =>
    cases n with
    | zero => simp [El.encs]
    | succ n =>
      have e2 : ∀ (y : α) (Y : List α), E.encs (y :: Y) = E.enc y ++ E.encs Y := fun y Y => by simp [El.encs]
      have hx := hE.len x
      rw [List.take_succ_cons, e2, e2, ih, List.take_append, Nat.add_mul, Nat.one_mul, show (E.enc x).take (n * E.k + E.k) = E.enc x from List.take_of_length_le (by omega), hx, show n * E.k + E.k - E.k = n * E.k by omega]
theorem ERow.head {α : Type} {E : El α} (hE : E.Ok) {w : World} {g cap : Nat} {M : List α} (h : ERow E w g cap M) (a : Nat) : ERow E w g cap (M.take a) := by
  obtain ⟨cur, h1, h2, h3, h4, h5⟩ := h
  refine ⟨cur, h1, h2, by rw [List.length_take]; omega, h4, ?_⟩
  rw [encs_takeE hE, ← h5, List.take_take, List.length_take]
  congr 1
  rcases Nat.le_total a M.length with h | h
  · have := Nat.mul_le_mul_right E.k h
    rw [Nat.min_eq_left h]; omega
  · have := Nat.mul_le_mul_right E.k h
    rw [Nat.min_eq_right h]; omega
theorem ERow.there {α : Type} {E : El α} {w : World} {g cap : Nat} {M : List α} (h : ERow E w g cap M) {a m : Nat} (ha : a + m ≤ M.length) : w.there g (a * E.k) (m * E.k) := by
  obtain ⟨cur, h1, h2, h3, h4, h5⟩ := h
  intro j hj
  have hk : (a + m) * E.k ≤ cap * E.k := Nat.mul_le_mul_right _ (by omega)
  rw [Nat.add_mul] at hk
  refine ⟨?_, h1.frozen _⟩
  rw [h1.cell, Array.getElem?_eq_getElem (by omega)]; rfl
theorem ERow.own {α : Type} {E : El α} {w : World} {g cap : Nat} {M : List α} (h : ERow E w g cap M) {n : Nat} (hn : n = M.length) : EOwn E w (.slice (some ⟨g, 0, none⟩) n cap) M := by subst hn; exact .inr ⟨g, cap, rfl, h⟩
theorem ERow.but {α : Type} {E : El α} {w w' : World} {g cap : Nat} {M : List α} (h : ERow E w g cap M) (hb : Below w.heap.size w w') : ERow E w' g cap M := h.keep (hb.block g h.lt)
theorem run_clearT (w : World) (ty : TypeId) (g a m c : Nat) (hm : 0 < m) (ht : w.there g (a * 10) (m * 10)) : (Builtin.clear_ #[25] ty #[.slice (some ⟨g, a * 10, none⟩) m c]).run Try.prog w = .ok (.tuple #[]) (w.setCells g (a * 10) (elT.encs (List.replicate m Tk.zero))) := by
  have hzc : (Builtin.zeroCells (Tk.zero.V).cells m).toList = elT.encs (List.replicate m Tk.zero) := by
    have hl : (elT.encs (List.replicate m Tk.zero)).length = m * 10 := by rw [El.encs_length elT_ok, List.length_replicate]; rfl
    have hz : (Tk.zero.V).cells = #[.int .u64 0, .int .u64 0, .int .i64 0, .int .i64 0, .int .i64 0, .int .i64 0, .int .i64 0, .int .i64 0, .bool false, .int .i64 0] := rfl
    have hzl : (Builtin.zeroCells (Tk.zero.V).cells m).toList.length = m * 10 := by simp [Builtin.zeroCells, hz]
    apply List.ext_getElem?
    intro i
    by_cases hi : i < m * 10
    · have e1 := El.encs_get elT_ok (List.replicate m Tk.zero) (i / 10) (i % 10) Tk.zero (by rw [List.getElem?_replicate, if_pos (by omega)]) (Nat.mod_lt _ (by decide))
      have e2 : i / 10 * elT.k + i % 10 = i := by show i / 10 * 10 + i % 10 = i; omega
      rw [e2] at e1
      rw [e1, hz]
      simp only [Builtin.zeroCells]
      rw [Array.toList_map, List.getElem?_map, Array.toList_range, List.getElem?_range (by simpa using hi)]
      have hr : i % 10 = 0 ∨ i % 10 = 1 ∨ i % 10 = 2 ∨ i % 10 = 3 ∨ i % 10 = 4 ∨ i % 10 = 5 ∨ i % 10 = 6 ∨ i % 10 = 7 ∨ i % 10 = 8 ∨ i % 10 = 9 := by omega
      rcases hr with h | h | h | h | h | h | h | h | h | h <;> simp [h, elT, Tk.zero, Gt.zero]
    · exact (List.getElem?_eq_none (by rw [hzl]; omega)).trans (List.getElem?_eq_none (by rw [hl]; omega)).symm
  have hall : ∀ v ∈ elT.encs (List.replicate m Tk.zero), v.oneCell' = true := by
    intro v hv
    simp only [El.encs, List.mem_flatMap] at hv
    obtain ⟨x, _, hx⟩ := hv
    exact elT_ok.one x v hx
  have hlen : (elT.encs (List.replicate m Tk.zero)).length = m * 10 := by rw [El.encs_length elT_ok, List.length_replicate]; rfl
  have hst := run_storeCells_cells (P := Try.prog) g (a * 10) (elT.encs (List.replicate m Tk.zero)) 0 w (fun j hj => by rw [hlen] at hj; simpa using (ht j hj).1) (fun j hj => by rw [hlen] at hj; simpa using (ht j hj).2) hall
  simp only [Nat.add_zero] at hst
  have hv : ∀ w, (zeroValue 35).run Try.prog w = .ok (Tk.zero.V) w := fun w => by kernel_rfl
  have htt : Try.prog.underlying 25 = some (.slice 35) := Try.underlying25
  obtain ⟨k, rfl⟩ : ∃ k, m = k + 1 := ⟨m - 1, by omega⟩
  simp [Builtin.clear_, run_underlying htt, hv, hzc, hst]
end Go.Proofs.Ytmlmndaflgfdkaa
