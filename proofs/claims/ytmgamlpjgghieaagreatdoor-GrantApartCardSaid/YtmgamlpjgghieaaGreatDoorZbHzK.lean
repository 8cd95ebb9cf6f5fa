/- grant: rules that came in, with how many boxes there may be; structs of two, three, four numbers. -/
import Derived.Test.YtmgamlpjgghieaaGreatDoorZbHzHM
import Derived.Test.YtmgamlpjgghieaaGreatDoorZbFrameM
namespace Go.Proofs.YtmgamlpjgghieaaGreatDoor
set_option linter.unusedVariables false
set_option linter.unusedSimpArgs false
open Go.RowKit Go.ChangeShapes Go.WideShapes Go.Deep
theorem agg_of2 {cs : Array Value} {a b : Value} (h : cs.size = 2) (h0 : cs.toList[0]? = some a) (h1 : cs.toList[1]? = some b) : Value.agg cs = .agg #[a, b] := by
  obtain ⟨l⟩ := cs
  match l, h with
  | [x0, x1], _ =>
    simp at h0 h1
    simp [*]
theorem agg_of3 {cs : Array Value} {a b c : Value} (h : cs.size = 3) (h0 : cs.toList[0]? = some a) (h1 : cs.toList[1]? = some b) (h2 : cs.toList[2]? = some c) : Value.agg cs = .agg #[a, b, c] := by
  obtain ⟨l⟩ := cs
  match l, h with
  | [x0, x1, x2], _ =>
    simp at h0 h1 h2
    simp [*]
theorem agg_of4 {cs : Array Value} {a b c d : Value} (h : cs.size = 4) (h0 : cs.toList[0]? = some a) (h1 : cs.toList[1]? = some b) (h2 : cs.toList[2]? = some c) (h3 : cs.toList[3]? = some d) : Value.agg cs = .agg #[a, b, c, d] := by
  obtain ⟨l⟩ := cs
  match l, h with
  | [x0, x1, x2, x3], _ =>
    simp at h0 h1 h2 h3
    simp [*]
section
variable {H : Type} {enc : TypeId × Value → H} {P : Program} {w : World} {base : Nat} {spare : Nat → Bool} {held : Bool}
theorem leaf_slW {t u e : TypeId} {o fuel K : Nat} {cs : List Value} {x : DataW H × List MemPlace} {ok : List Value → Prop} (hl : leafAt P 9 t o = some u) (hk : P.underlying u = some (.slice e)) (hC : P.cellsOf e = K)
    (hok : ∀ fuel cs (y : DataW H × List MemPlace), DataW.trod enc P w base spare held fuel e cs = some y → (∀ m ∈ y.1.weights P e, m ≤ reachBytes) → ok cs) (h : DataW.trod enc P w base spare held fuel t cs = some x) (hsz : ∀ m ∈ x.1.weights P t, m ≤ reachBytes) :
    ∃ A n c, cs[o]? = some (.slice A n c) ∧ IsSl w K ok A n c ∧ n * P.bytesOf e ≤ reachBytes := by
  obtain ⟨fuel', ps, y, hy, hwt, hv⟩ := leaf_of 9 t o u fuel cs x hl h
  have hform : ∃ A n c, ps = [.slice A n c] ∧ n * P.bytesOf e ≤ reachBytes := by
    rcases open_slice hk hy with ⟨hcs, _⟩ | ⟨b, len', cap', m, n, D, Pl, hcs, _, hl, hm, hmm, hx, hi⟩
    · exact ⟨_, _, _, hcs, by simp⟩
    · refine ⟨_, _, _, hcs, ?_⟩
      have h9 := hsz _ (hwt _ (by rw [hx]; simp only [DataW.weights, hk]; exact List.mem_cons_self))
      refine Nat.le_trans (Nat.mul_le_mul_right _ ?_) h9
      simp
  obtain ⟨A, n, c, rfl, hb⟩ := hform
  exact ⟨A, n, c, by simpa using hv 0 _ rfl, isSl_of hk hC hok hy (fun m hm => hsz m (hwt m hm)), hb⟩
end
/-- A rule's cells, and how many boxes there may be. -/
def okRuG (w : World) (cs : List Value) : Prop := ∃ k ro lo hi la zo : Int, ∃ A n c, cs[0]? = some (.int .i64 k) ∧ cs[1]? = some (.int .i64 ro) ∧ cs[2]? = some (.int .i64 lo) ∧ cs[3]? = some (.int .i64 hi) ∧ cs[4]? = some (.int .i64 la) ∧ cs[5]? = some (.slice A n c) ∧ cs[6]? = some (.int .i64 zo) ∧ IsSl w 4 okRect A n c ∧ n * 32 ≤ 140737488355328
theorem okRuG_of {H : Type} {enc : TypeId × Value → H} {w : World} {base : Nat} {spare : Nat → Bool} {held : Bool} (fuel : Nat) (cs : List Value) (y : DataW H × List MemPlace) (h : DataW.trod enc Tryz.prog w base spare held fuel 59 cs = some y) (hsz : ∀ m ∈ y.1.weights Tryz.prog 59, m ≤ reachBytes) : okRuG w cs := by
  obtain ⟨a0, h0, _⟩ := leaf_int (o := 0) (u := 3) (k := .i64) (by kernel_rfl) Tryz.underlying3 h
  obtain ⟨a1, h1, _⟩ := leaf_int (o := 1) (u := 3) (k := .i64) (by kernel_rfl) Tryz.underlying3 h
  obtain ⟨a2, h2, _⟩ := leaf_int (o := 2) (u := 3) (k := .i64) (by kernel_rfl) Tryz.underlying3 h
  obtain ⟨a3, h3, _⟩ := leaf_int (o := 3) (u := 3) (k := .i64) (by kernel_rfl) Tryz.underlying3 h
  obtain ⟨a4, h4, _⟩ := leaf_int (o := 4) (u := 3) (k := .i64) (by kernel_rfl) Tryz.underlying3 h
  obtain ⟨a6, h6, _⟩ := leaf_int (o := 6) (u := 3) (k := .i64) (by kernel_rfl) Tryz.underlying3 h
  obtain ⟨A, n, c, h5, hI, hb⟩ := leaf_slW (o := 5) (u := 57) (e := 46) (K := 4) (ok := okRect) (by kernel_rfl) Tryz.underlying57 (by kernel_rfl) (fun fuel cs y h _ => okRect_of fuel cs y h) h hsz
  have e32 : Tryz.prog.bytesOf 46 = 32 := by kernel_rfl
  rw [e32] at hb
  exact ⟨a0, a1, a2, a3, a4, a6, A, n, c, h0, h1, h2, h3, h4, h5, h6, hI, Nat.le_trans hb (by decide)⟩
theorem rules_ofG {w : World} {a : Option Addr} {len cap : Nat} (h : IsSl w 7 (okRuG w) a len cap) : ∃ acc : List (Rc × RV), acc.length = len ∧ RRd w (.slice a len cap) acc ∧ ∀ x ∈ acc, x.1.bx.length * elR.by_ ≤ 140737488355328 := by
  have hq : ∀ i, i < len → ∃ x : Rc × RV, (∃ g o, a = some ⟨g, o, none⟩ ∧ ∀ j u, (elRu.enc x)[j]? = some u → w.cell? ⟨g, o + i * 7 + j, none⟩ = some u) ∧ ERd elR w x.2.v x.1.bx ∧ x.1.bx.length * elR.by_ ≤ 140737488355328 := by
    intro i hi
    obtain ⟨xb, xo, cs, rfl, hl, hcell, k, ro, lo, hi', la, zo, A, n, c, h0, h1, h2, h3, h4, h5, h6, hI, hb⟩ := h.at2 i hi (by decide)
    obtain ⟨L, hL, hR⟩ := rects_of hI
    refine ⟨(⟨k, ro, lo, hi', la, L, zo⟩, ⟨A, n, c⟩), ⟨xb, xo, rfl, fun j u hu => ?_⟩, hR, by rw [← hL] at hb; exact hb⟩
    have hj : cs[j]? = some u := by
      match j, hu with
      | 0, hu => simp [elRu, rucells] at hu; rw [h0, hu]
      | 1, hu => simp [elRu, rucells] at hu; rw [h1, hu]
      | 2, hu => simp [elRu, rucells] at hu; rw [h2, hu]
      | 3, hu => simp [elRu, rucells] at hu; rw [h3, hu]
      | 4, hu => simp [elRu, rucells] at hu; rw [h4, hu]
      | 5, hu => simp [elRu, rucells, RV.v] at hu; rw [h5, hu]
      | 6, hu => simp [elRu, rucells] at hu; rw [h6, hu]
      | j + 7, hu => simp [elRu, rucells] at hu
    have := hcell j u hj
    rwa [← Nat.add_assoc] at this
  obtain ⟨acc, h1, h2⟩ := list_of len hq
  obtain ⟨l1, l2⟩ := h.le
  refine ⟨acc, h1, ⟨⟨a, cap, by rw [h1], by omega, l2, fun i x hx => ?_⟩, fun x hx => ?_⟩, fun x hx => ?_⟩
  · obtain ⟨g, o, e, hc⟩ := (h2 i x hx).1
    exact ⟨g, o, e, fun j u hu => hc j u hu⟩
  · obtain ⟨i, hi⟩ := List.getElem?_of_mem hx
    exact (h2 i x hi).2.1
  · obtain ⟨i, hi⟩ := List.getElem?_of_mem hx
    exact (h2 i x hi).2.2
end Go.Proofs.YtmgamlpjgghieaaGreatDoor
