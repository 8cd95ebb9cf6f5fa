/- frame: bytes that wait, in a row of the buffer's own, wherever in it they begin; append. -/
import Derived.Test.YtmkehbmegimecaaBlk
import Derived.Test.YtmkehbmegimecaaRows
import Derived.Test.YtmkehbmegimecaaNumSpec
import Derived.Deep.AppendSrc
import Derived.Deep.Upon
namespace Go.Proofs.Ytmkehbmegimecaa
set_option linter.unusedVariables false
set_option linter.unusedSimpArgs false
open Go.RowKit
theorem add_mid (g off j : Nat) : (⟨g, off, none⟩ : Addr).add j = ⟨g, off + j, none⟩ := by unfold Addr.add; split <;> simp_all
/-- The slice (A, n, cap) holds these bytes; its array is a block of bytes, free up to cap. -/
def Wt (w : World) (A : Option Addr) (n cap : Nat) (l : List UInt8) : Prop :=
  l.length = n ∧ n ≤ cap ∧ ((A = none ∧ cap = 0) ∨ ∃ g off cur, A = some ⟨g, off, none⟩ ∧ Blk w g 5 cur ∧ off + cap ≤ cur.size ∧ ∀ j u, (bv l)[j]? = some u → cur[off + j]? = some u)
theorem Wt.nil_ (w : World) : Wt w none 0 0 [] := ⟨rfl, Nat.le_refl _, .inl ⟨rfl, rfl⟩⟩
theorem Wt.rb {w : World} {A : Option Addr} {n cap : Nat} {l : List UInt8} (h : Wt w A n cap l) : RB w A n l := by
  obtain ⟨h1, h2, h3⟩ := h
  refine ⟨by simp [bv_length, h1], fun hn => ?_⟩
  rcases h3 with ⟨_, h4⟩ | ⟨g, off, cur, rfl, hb, _, hc⟩
  · omega
  · exact ⟨_, rfl, hb.lt, fun j u hu => by rw [add_mid, hb.cell]; exact hc j u hu⟩
/-- No block of another type is the array of what waits. -/
theorem Wt.ne {w : World} {A : Option Addr} {n cap : Nat} {l : List UInt8} (h : Wt w A n cap l) {g : Nat} {t : TypeId} {cs : Array Value} (hb : Blk w g t cs) (ht : 5 ≠ t) : A.map (·.block) ≠ some g := by
  rcases h.2.2 with ⟨rfl, _⟩ | ⟨g', off, cur, rfl, hb', _⟩
  · simp
  · intro he
    have e : g' = g := by simpa using he
    subst e
    exact Blk.ne_ hb' hb ht rfl
theorem Wt.keep {w w' : World} {A : Option Addr} {n cap : Nat} {l : List UInt8} (h : Wt w A n cap l) (hk : ∀ g, A.map (·.block) = some g → g < w.heap.size → w'.heap[g]? = w.heap[g]?) : Wt w' A n cap l := by
  obtain ⟨h1, h2, h3⟩ := h
  refine ⟨h1, h2, ?_⟩
  rcases h3 with h4 | ⟨g, off, cur, rfl, hb, hs, hc⟩
  · exact .inl h4
  · exact .inr ⟨g, off, cur, rfl, (hk g rfl hb.lt).trans hb, hs, hc⟩
theorem Wt.below {w w' : World} {A : Option Addr} {n cap : Nat} {l : List UInt8} (h : Wt w A n cap l) (hb : Below w.heap.size w w') : Wt w' A n cap l := h.keep fun g _ hg => hb.block g hg
theorem Wt.alloc {w : World} {A : Option Addr} {n cap : Nat} {l : List UInt8} (h : Wt w A n cap l) (o : Obj) : Wt (w.alloc o) A n cap l := h.keep fun g _ hg => Below.heap_alloc w o g hg
theorem Wt.drewN {w : World} {A : Option Addr} {n cap : Nat} {l : List UInt8} (h : Wt w A n cap l) (q : Nat) : Wt (w.drewN q) A n cap l := h
theorem Wt.far {w : World} {A : Option Addr} {n cap : Nat} {l : List UInt8} (h : Wt w A n cap l) {p : Addr} (hp : A.map (·.block) ≠ some p.block) (u : Value) : Wt (w.setCell p u) A n cap l :=
  h.keep fun g hg _ => Below.heap_setCell w p u g (fun e => hp (by rw [hg, e]))
theorem Wt.cut {w : World} {A : Option Addr} {n cap : Nat} {l : List UInt8} (h : Wt w A n cap l) {k : Nat} (hk : k ≤ n) : Wt w (if cap = k then A else A.map (·.add k)) (n - k) (cap - k) (l.drop k) := by
  obtain ⟨h1, h2, h3⟩ := h
  refine ⟨by rw [List.length_drop, h1], by omega, ?_⟩
  rcases h3 with ⟨rfl, h4⟩ | ⟨g, off, cur, rfl, hb, hs, hc⟩
  · left; simp; omega
  · right
    by_cases e : cap = k
    · rw [if_pos e]
      refine ⟨g, off, cur, rfl, hb, by omega, fun j u hu => ?_⟩
      have : (l.drop k).length = 0 := by rw [List.length_drop]; omega
      rw [List.eq_nil_of_length_eq_zero this] at hu
      simp [bv] at hu
    · rw [if_neg e]
      refine ⟨g, off + k, cur, by simp [add_mid], hb, by omega, fun j u hu => ?_⟩
      rw [Nat.add_assoc]
      exact hc (k + j) u (by rw [← hu]; simp [bv, List.getElem?_drop])
/-- What a row of new cells leaves of a block. -/
theorem blk_setCells {g : Nat} {t : TypeId} (vs : List Value) (o : Nat) (w : World) (cur : Array Value) (h : Blk w g t cur) (ho : o + vs.length ≤ cur.size) :
    ∃ cur', Blk (w.setCells g o vs) g t cur' ∧ cur'.size = cur.size ∧ (∀ j, j < o → cur'[j]? = cur[j]?) ∧ ∀ j u, vs[j]? = some u → cur'[o + j]? = some u := by
  induction vs generalizing o w cur with
  | nil => exact ⟨cur, h, rfl, fun _ _ => rfl, fun j u hu => by simp at hu⟩
  | cons v vs ih =>
    simp only [List.length_cons] at ho
    obtain ⟨cur', h1, h2, h3, h4⟩ := ih (o + 1) (w.setCell ⟨g, o, none⟩ v) (cur.setIfInBounds o v) (h.set_ o v) (by simp; omega)
    refine ⟨cur', h1, by simpa using h2, fun j hj => ?_, fun j u hu => ?_⟩
    · rw [h3 j (by omega), Array.getElem?_setIfInBounds_ne (by omega)]
    · cases j with
      | zero =>
        rw [Nat.add_zero, h3 o (by omega)]
        have : u = v := by simpa using hu.symm
        subst this
        rw [Array.getElem?_setIfInBounds_self]; simp; omega
      | succ j =>
        have := h4 j u (by simpa using hu)
        rwa [show o + 1 + j = o + (j + 1) by omega] at this
theorem tape_setCells (g : Nat) (vs : List Value) (o : Nat) (w : World) : (w.setCells g o vs).tape = w.tape ∧ (w.setCells g o vs).heap.size = w.heap.size := by
  induction vs generalizing o w with
  | nil => exact ⟨rfl, rfl⟩
  | cons v vs ih =>
    have := ih (o + 1) (w.setCell ⟨g, o, none⟩ v)
    refine ⟨this.1, this.2.trans (by simp)⟩
theorem u8_info : (Try.prog.info? 5).map (fun i => (i.zero, i.size, i.bytes)) = some (some (.int .u8 0), 1, 1) := by kernel_rfl
theorem src_RB {w : World} {B : Option Addr} {m c : Nat} {news : List UInt8} (h : RB w B m news) : Src Try.prog 1 28 (.slice B m c) m (bv news) w := by
  rcases Nat.eq_zero_or_pos m with h0 | h0
  · subst h0
    have hn : news = [] := List.eq_nil_of_length_eq_zero h.len
    subst hn
    refine ⟨.inl ⟨_, Try.underlying28⟩, fun _ => rfl, ?_, ?_, by simp [bv], fun u hu => by simp [bv] at hu⟩
    all_goals cases B <;> simp [Builtin.firstCells, bv, loadCells, loadCellsFrom]
  · obtain ⟨ad, rfl, _, hc⟩ := h.2 h0
    exact Src.ofSlice w Try.underlying28 ad m c (bv news) (by rw [bv_length, h.len]; omega) hc (bv_one _)
theorem run_append_wt (w : World) (ty : TypeId) (A B : Option Addr) (n cap m c : Nat) (l news : List UInt8) (h : Wt w A n cap l) (hr : RB w B m news) (hb : n + m ≤ 1099511627776) :
    ∃ A' cap' w', (Builtin.append_ #[28, 28] ty #[.slice A n cap, .slice B m c]).run Try.prog w = .ok (.slice A' (n + m) cap') w' ∧ Wt w' A' (n + m) cap' (l ++ news) ∧ w.grownBy w' (A.map (·.block)) ∧ (A'.map (·.block) = A.map (·.block) ∨ A'.map (·.block) = some w.heap.size) := by
  obtain ⟨i0, hi, hz, hsz, hby⟩ := info_parts u8_info
  have hs : Src Try.prog i0.size 28 (.slice B m c) m (bv news) w := by rw [hsz]; exact src_RB hr
  obtain ⟨h1, h2, h3⟩ := h
  have hl := hr.len
  by_cases hfit : n + m ≤ cap
  · rcases h3 with ⟨rfl, h4⟩ | ⟨g, off, cur, rfl, hbk, hcs, hc⟩
    · obtain rfl : m = 0 := by omega
      obtain rfl : n = 0 := by omega
      have e0 : news = [] := List.eq_nil_of_length_eq_zero hl
      have e1 : l = [] := List.eq_nil_of_length_eq_zero h1
      subst e0; subst e1; subst h4
      exact ⟨none, 0, w, run_append_nothing w 28 28 ty 5 i0 Try.underlying28 hi none 0 0 (Nat.le_refl _) _ hs, Wt.nil_ w, World.grownBy.refl w _, .inl rfl⟩
    · have hrun := run_append_room_src w 28 28 ty 5 i0 Try.underlying28 hi g off n cap (.slice B m c) m (bv news) hs hfit
        (fun j hj => by
          rw [bv_length, hl] at hj
          rw [hbk.cell, hsz, Array.getElem?_eq_getElem (by omega)]; rfl)
        (fun j _ => hbk.frozen _)
      rw [hsz, Nat.mul_one] at hrun
      obtain ⟨cur', b1, b2, b3, b4⟩ := blk_setCells (bv news) (off + n) w cur hbk (by rw [bv_length, hl]; omega)
      refine ⟨_, cap, _, hrun, ⟨by simp [h1, hl], hfit, .inr ⟨g, off, cur', rfl, b1, by omega, fun j u hu => ?_⟩⟩, ?_⟩
      · rw [bv_append] at hu
        by_cases hj : j < n
        · rw [List.getElem?_append_left (by rw [bv_length]; omega)] at hu
          rw [b3 _ (by omega)]; exact hc j u hu
        · rw [List.getElem?_append_right (by rw [bv_length]; omega), bv_length, h1] at hu
          have := b4 (j - n) u hu
          rwa [show off + n + (j - n) = off + j by omega] at this
      · have hk := World.keptBut_setCells g (may := fun p => p.block = g) (bv news) (off + n) w (fun _ _ => rfl)
        exact ⟨⟨World.os_setCells _ _ _ _, (tape_setCells _ _ _ _).1, World.output_setCells _ _ _ _, Nat.le_of_eq (tape_setCells _ _ _ _).2.symm, fun i hi hne => World.heap_setCells_other w g (off + n) (bv news) hi (fun e => hne (by rw [e]; rfl))⟩, .inl rfl⟩
  · have hold : (Builtin.firstCells i0.size n (.slice A n cap)).run Try.prog w.drew = .ok (bv l).toArray w.drew := by
      rw [hsz]
      exact (src_RB (Wt.rb ⟨h1, h2, h3⟩)).cellsD
    have hle : Builtin.nextslicecap (n + m) cap * i0.bytes ≤ 281474976710656 := growslice_fits (by omega) (by rw [hby]; omega)
    have hrun := run_append_grow_src w 28 28 ty 5 i0 (.int .u8 0) Try.underlying28 hi hz A n cap (bv l) hold (.slice B m c) m (bv news) hs (by omega) (by omega) hle
    have hg := grownCap_ge w (n + m) cap 5
    refine ⟨_, _, _, hrun, ⟨by simp [h1, hl], hg, .inr ⟨w.heap.size, 0, _, rfl, Blk.new w.drew _ _, ?_, fun j u hu => ?_⟩⟩, ?_⟩
    · have e1 : (Value.int IntKind.u8 0).cells.size = 1 := rfl
      simp [Builtin.zeroCells, bv_length, h1, hl, e1]
      omega
    · rw [Nat.zero_add, Array.getElem?_append_left (by simpa [bv_append] using (List.getElem?_eq_some_iff.1 hu).1)]
      simpa [bv_append] using hu
    · refine ⟨⟨rfl, rfl, rfl, ?_, fun i hi hne => Below.heap_alloc w.drew _ i hi⟩, .inr rfl⟩
      simp
end Go.Proofs.Ytmkehbmegimecaa
