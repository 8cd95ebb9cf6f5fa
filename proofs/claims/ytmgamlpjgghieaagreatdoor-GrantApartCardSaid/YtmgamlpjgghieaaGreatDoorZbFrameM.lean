/- Texts: Frame, Sl, Hand, RuO. -/
import Derived.Test.YtmgamlpjgghieaaGreatDoorZbWords
import Derived.ProofKit
import Derived.OpenShut
import Derived.ShutString
import Derived.ChangeOld
import Derived.Deep.Slices
import Derived.Deep.Fields
import Derived.SizedLaws
import Derived.Test.YtmgamlpjgghieaaGreatDoorZbRu4
namespace Go.Proofs.YtmgamlpjgghieaaGreatDoor
section
set_option linter.unusedVariables false
set_option linter.unusedSimpArgs false
open Go.RowKit
/-- A slice of integers that came in: nil, or a row of 'cap' cells. -/
def IsRow (k : IntKind) (w : World) (a : Option Addr) (len cap : Nat) (zs : List Int) : Prop :=
  (a = none ∧ len = 0 ∧ cap = 0 ∧ zs = []) ∨
  ∃ x, a = some x ∧ len ≤ cap ∧ cap ≤ maxLen ∧ zs.length = cap ∧ (∀ i, i < zs.length → w.cell? (x.add i) = some (.int k (zs.getD i 0))) ∧ ∀ n ∈ zs, (Lit.int k n).wf = true
theorem block_lt_of_cell {w : World} {a : Addr} {v : Value} (h : w.cell? a = some v) : a.block < w.heap.size := World.block_lt_of_cell? w a h
theorem IsRow.rb {w : World} {a : Option Addr} {len cap : Nat} {zs : List Int} (h : IsRow .u8 w a len cap zs) : len ≤ maxLen ∧ ∃ l : List UInt8, RB w a len l := by
  rcases h with ⟨rfl, rfl, rfl, rfl⟩ | ⟨x, rfl, hl, hm, hz, hc, hw⟩
  · exact ⟨by decide, [], RB.nil_ w⟩
  · refine ⟨by omega, (zs.take len).map (fun n => UInt8.ofNat n.toNat), ?_, fun hn => ⟨x, rfl, ?_, fun j u hu => ?_⟩⟩
    · simp [bv_length]; omega
    · have := block_lt_of_cell (hc 0 (by omega))
      simpa [block_of_add] using this
    · have hj : j < (zs.take len).length := by
        have := (List.getElem?_eq_some_iff.1 hu).1
        simpa [bv] using this
      rw [List.length_take] at hj
      have hzj : j < zs.length := by omega
      rw [hc j hzj, ← hu]
      have hb := bounds_u8 (hw (zs[j]) (List.getElem_mem hzj))
      simp [bv, List.getElem?_take, show j < len by omega, List.getElem?_eq_getElem hzj]
      omega
end
section
set_option linter.unusedVariables false
set_option linter.unusedSimpArgs false
open Go.RowKit Go.ChangeShapes Go.WideShapes Go.Deep
/-- The leaf's type at a cell of a struct. -/
def leafAt (P : Program) : Nat → TypeId → Nat → Option TypeId
  | 0, _, _ => none
  | n + 1, t, o => match P.underlying t with
    | some (.struct fs) => match fs.toList.find? (fun f => f.offset ≤ o && decide (o < f.offset + P.cellsOf f.type)) with
      | some f => leafAt P n f.type (o - f.offset)
      | none => none
    | some _ => if o = 0 then some t else none
    | none => none
section
variable {H : Type} {enc : TypeId × Value → H} {P : Program} {w : World} {base : Nat} {spare : Nat → Bool} {held : Bool}
theorem mem_weightsAll {e : TypeId} {d : DataW H} {l : List (DataW H)} (hd : d ∈ l) {k : Nat} (hk : k ∈ d.weights P e) : k ∈ DataW.weightsAll P e l := by
  induction l with
  | nil => simp at hd
  | cons a r ih =>
    simp only [DataW.weightsAll, List.mem_append]
    rcases List.mem_cons.1 hd with rfl | h
    · exact .inl hk
    · exact .inr (ih h)
theorem leaf_of (n : Nat) : ∀ (t : TypeId) (o : Nat) (u : TypeId) (fuel : Nat) (cs : List Value) (x : DataW H × List MemPlace), leafAt P n t o = some u → DataW.trod enc P w base spare held fuel t cs = some x →
    ∃ (fuel' : Nat) (ps : List Value) (y : DataW H × List MemPlace), DataW.trod enc P w base spare held fuel' u ps = some y ∧ (∀ m ∈ y.1.weights P u, m ∈ x.1.weights P t) ∧ ∀ j v, ps[j]? = some v → cs[o + j]? = some v := by
  induction n with
  | zero => intro t o u fuel cs x h; simp [leafAt] at h
  | succ n ih =>
    intro t o u fuel cs x h ht
    unfold leafAt at h
    split at h
    · rename_i fs hs
      split at h
      · rename_i f hf
        have hmem := List.mem_of_find?_eq_some hf
        have hp := List.find?_some hf
        simp only [Bool.and_eq_true, decide_eq_true_eq] at hp
        obtain ⟨i, hi, hif⟩ := List.mem_iff_getElem.1 hmem
        have hfi : fs[i]? = some f := by
          rw [← Array.getElem?_toList, List.getElem?_eq_getElem hi, hif]
        obtain ⟨xs, n', _, hxe, _, hlen, hg⟩ := DataW.trod_struct hs ht
        have hlt : i < xs.length := by rw [hlen]; simpa using hi
        have h1 := hg i f hfi
        rw [List.getElem?_eq_getElem hlt] at h1
        obtain ⟨fuel', ps, y, hy, hwt, hv⟩ := ih _ _ _ _ _ _ h h1
        refine ⟨fuel', ps, y, hy, fun m hm => ?_, fun j v hj => ?_⟩
        · rw [hxe]
          simp only [DataW.weights, hs]
          refine DataW.weights_mem_each (j := i) (t := f.type) (d := xs[i].1) ?_ ?_ m (hwt m hm)
          · rw [List.getElem?_map, List.getElem?_eq_getElem hi, hif]; rfl
          · rw [List.getElem?_map, List.getElem?_eq_getElem hlt]; rfl
        have h2 := hv j v hj
        rw [List.getElem?_take] at h2
        split at h2
        · rw [List.getElem?_drop] at h2
          rwa [show f.offset + (o - f.offset + j) = o + j by omega] at h2
        · simp at h2
      · simp at h
    · split at h
      · rename_i h0
        simp only [Option.some.injEq] at h
        subst h; subst h0
        exact ⟨fuel, cs, x, ht, fun m hm => hm, fun j v hj => by rwa [Nat.zero_add]⟩
      · simp at h
    · simp at h
theorem leaf_int {t u : TypeId} {o fuel : Nat} {cs : List Value} {x : DataW H × List MemPlace} {k : IntKind} (hl : leafAt P 9 t o = some u) (hk : P.underlying u = some (.int k)) (h : DataW.trod enc P w base spare held fuel t cs = some x) :
    ∃ m : Int, cs[o]? = some (.int k m) ∧ (Lit.int k m).wf = true := by
  obtain ⟨_, ps, y, hy, _, hv⟩ := leaf_of 9 t o u fuel cs x hl h
  obtain ⟨m, rfl, _, hw⟩ := DataW.trod_int hk hy
  exact ⟨m, by simpa using hv 0 _ rfl, hw⟩
theorem leaf_bytes {t u e : TypeId} {o fuel : Nat} {cs : List Value} {x : DataW H × List MemPlace} (hl : leafAt P 9 t o = some u) (hk : P.underlying u = some (.slice e)) (he : P.underlying e = some (.int .u8)) (hc : P.cellsOf e = 1) (hby : P.bytesOf e = 1) (h : DataW.trod enc P w base spare held fuel t cs = some x) (hsz : ∀ m ∈ x.1.weights P t, m ≤ reachBytes) :
    ∃ A L C, ∃ l : List UInt8, cs[o]? = some (.slice A L C) ∧ RB w A L l ∧ L ≤ C ∧ C ≤ maxLen ∧ L ≤ reachBytes := by
  obtain ⟨_, ps, y, hy, hwt, hv⟩ := leaf_of 9 t o u fuel cs x hl h
  rcases open_ints hk he hc hy with ⟨rfl, _⟩ | ⟨a, len, cap, zs, rfl, _, hl, hm, hz, hye, hcell, hwz⟩
  · exact ⟨none, 0, 0, [], by simpa using hv 0 _ rfl, RB.nil_ w, Nat.le_refl _, by decide, Nat.zero_le _⟩
  · have hlz : len ≤ zs.length := by rw [hz]; split <;> omega
    refine ⟨some a, len, cap, (zs.take len).map (fun n => UInt8.ofNat n.toNat), by simpa using hv 0 _ rfl, ⟨?_, fun hn => ⟨a, rfl, ?_, fun j u hu => ?_⟩⟩, hl, hm, ?_⟩
    · simp [bv_length]; omega
    · have := block_lt_of_cell (hcell 0 (by omega))
      simpa [block_of_add] using this
    · have hj : j < (zs.take len).length := by
        have := (List.getElem?_eq_some_iff.1 hu).1
        simpa [bv] using this
      rw [List.length_take] at hj
      have hzj : j < zs.length := by omega
      rw [hcell j hzj, ← hu]
      have hb := bounds_u8 (hwz (zs[j]) (List.getElem_mem hzj))
      simp [bv, List.getElem?_take, show j < len by omega, List.getElem?_eq_getElem hzj]
      omega
    · have h9 := hsz _ (hwt zs.length (by rw [hye]; simp [DataW.weights, hk, hby, lits]; omega))
      omega
/-- A slice of structs of K cells that came in; of each struct's cells ok holds. -/
def IsSl (w : World) (K : Nat) (ok : List Value → Prop) (a : Option Addr) (len cap : Nat) : Prop :=
  (a = none ∧ len = 0 ∧ cap = 0) ∨
  ∃ x, a = some x ∧ len ≤ cap ∧ cap ≤ maxLen ∧ ∀ i, i < len → ∃ cs : List Value, cs.length = K ∧ (∀ j u, cs[j]? = some u → w.cell? (x.add (i * K + j)) = some u) ∧ ok cs
theorem IsSl.at {w : World} {K : Nat} {ok : List Value → Prop} {a : Option Addr} {len cap : Nat} (h : IsSl w K ok a len cap) (i : Nat) (hi : i < len) : ∃ x, ∃ cs : List Value, a = some x ∧ cs.length = K ∧ (∀ j u, cs[j]? = some u → w.cell? (x.add (i * K + j)) = some u) ∧ ok cs := by
  rcases h with ⟨_, h0, _⟩ | ⟨x, rfl, _, _, hc⟩
  · omega
  · obtain ⟨cs, h1, h2, h3⟩ := hc i hi
    exact ⟨x, cs, rfl, h1, h2, h3⟩
theorem spot_of_cell {w : World} {a : Addr} {v : Value} (h : w.cell? a = some v) : a.spot = none := by
  unfold World.cell? at h
  split at h
  · cases hs : a.spot with
    | none => rfl
    | some s => simp [hs] at h
  · simp at h
theorem add_mid_ (g off j : Nat) : (⟨g, off, none⟩ : Addr).add j = ⟨g, off + j, none⟩ := by unfold Addr.add; split <;> simp_all
theorem IsSl.at2 {w : World} {K : Nat} {ok : List Value → Prop} {a : Option Addr} {len cap : Nat} (h : IsSl w K ok a len cap) (i : Nat) (hi : i < len) (hK : 0 < K) : ∃ xb xo, ∃ cs : List Value, a = some ⟨xb, xo, none⟩ ∧ cs.length = K ∧ (∀ j u, cs[j]? = some u → w.cell? ⟨xb, xo + (i * K + j), none⟩ = some u) ∧ ok cs := by
  rcases h with ⟨_, h0, _⟩ | ⟨x, rfl, _, _, hc⟩
  · omega
  · obtain ⟨cs0, l0, c0, _⟩ := hc 0 (by omega)
    have h0 := c0 0 _ (List.getElem?_eq_getElem (by omega))
    have hs : x.spot = none := by
      have := spot_of_cell h0
      simpa [Addr.add] using this
    obtain ⟨xb, xo, s⟩ := x
    simp at hs
    subst hs
    obtain ⟨cs, hl, hcell, hok⟩ := hc i hi
    refine ⟨xb, xo, cs, rfl, hl, fun j u hu => ?_, hok⟩
    have h1 := hcell j u hu
    rwa [add_mid_] at h1
theorem IsSl.le {w : World} {K : Nat} {ok : List Value → Prop} {a : Option Addr} {len cap : Nat} (h : IsSl w K ok a len cap) : len ≤ cap ∧ cap ≤ maxLen := by
  rcases h with ⟨_, rfl, rfl⟩ | ⟨x, _, h1, h2, _⟩
  · exact ⟨Nat.le_refl _, by decide⟩
  · exact ⟨h1, h2⟩
theorem isSl_of {t e : TypeId} {K fuel len cap : Nat} {a : Option Addr} {ok : List Value → Prop} {x : DataW H × List MemPlace} (ht : P.underlying t = some (.slice e)) (hC : P.cellsOf e = K)
    (hok : ∀ fuel cs (y : DataW H × List MemPlace), DataW.trod enc P w base spare held fuel e cs = some y → (∀ m ∈ y.1.weights P e, m ≤ reachBytes) → ok cs) (h : DataW.trod enc P w base spare held fuel t [.slice a len cap] = some x) (hsz : ∀ m ∈ x.1.weights P t, m ≤ reachBytes) : IsSl w K ok a len cap := by
  rcases open_slice ht h with ⟨hcs, _⟩ | ⟨b, len', cap', m, n, D, Pl, hcs, _, hl, hm, hmm, hx, hi⟩
  · simp at hcs
    obtain ⟨rfl, rfl, rfl⟩ := hcs
    exact .inl ⟨rfl, rfl, rfl⟩
  · simp at hcs
    obtain ⟨rfl, rfl, rfl⟩ := hcs
    refine .inr ⟨b, rfl, hl, hm, fun i hil => ?_⟩
    have him : i < m := by rw [hmm]; split <;> omega
    obtain ⟨cs', hc, ht'⟩ := hi i him
    obtain ⟨_, hcl, hat⟩ := World.cells?_some hc
    rw [hC] at hcl
    refine ⟨cs', hcl, fun j u hu => ?_, hok _ _ _ ht' (fun k hk => hsz k ?_)⟩
    have hj : j < cs'.length := (List.getElem?_eq_some_iff.1 hu).1
    have := hat j (by rw [hC]; omega)
    rw [add_of_add, hC] at this
    rw [this, hu]
    rw [hx]
    simp only [DataW.weights, ht]
    exact List.mem_cons_of_mem _ (List.mem_append_left _ (mem_weightsAll (d := D i) (List.mem_map.2 ⟨i, List.mem_range.2 hil, rfl⟩) hk))
end
end
section
set_option linter.unusedVariables false
set_option linter.unusedSimpArgs false
open Go.RowKit Go.ChangeShapes Go.WideShapes Go.Deep
theorem list_of {α : Type} (n : Nat) {Q : Nat → α → Prop} (h : ∀ i, i < n → ∃ x, Q i x) : ∃ l : List α, l.length = n ∧ ∀ i x, l[i]? = some x → Q i x := by
  induction n with
  | zero => exact ⟨[], rfl, fun i x hx => by simp at hx⟩
  | succ n ih =>
    obtain ⟨l, h1, h2⟩ := ih fun i hi => h i (by omega)
    obtain ⟨y, hy⟩ := h n (by omega)
    refine ⟨l ++ [y], by simp [h1], fun i x hx => ?_⟩
    by_cases hi : i < l.length
    · rw [List.getElem?_append_left hi] at hx
      exact h2 i x hx
    · rw [List.getElem?_append_right (by omega)] at hx
      have h0 : i - l.length = 0 := by
        by_cases h0 : i - l.length = 0
        · exact h0
        · obtain ⟨m, hm⟩ : ∃ m, i - l.length = m + 1 := ⟨i - l.length - 1, by omega⟩
          rw [hm] at hx; simp at hx
      rw [h0] at hx
      simp at hx
      subst hx
      have : i = n := by omega
      subst this
      exact hy
section
variable {H : Type} {enc : TypeId × Value → H} {P : Program} {w : World} {base : Nat} {spare : Nat → Bool} {held : Bool}
theorem leaf_sl {t u e : TypeId} {o fuel K : Nat} {cs : List Value} {x : DataW H × List MemPlace} {ok : List Value → Prop} (hl : leafAt P 9 t o = some u) (hk : P.underlying u = some (.slice e)) (hC : P.cellsOf e = K)
    (hok : ∀ fuel cs (y : DataW H × List MemPlace), DataW.trod enc P w base spare held fuel e cs = some y → (∀ m ∈ y.1.weights P e, m ≤ reachBytes) → ok cs) (h : DataW.trod enc P w base spare held fuel t cs = some x) (hsz : ∀ m ∈ x.1.weights P t, m ≤ reachBytes) :
    ∃ A n c, cs[o]? = some (.slice A n c) ∧ IsSl w K ok A n c := by
  obtain ⟨fuel', ps, y, hy, hwt, hv⟩ := leaf_of 9 t o u fuel cs x hl h
  have hform : ∃ A n c, ps = [.slice A n c] := by
    rcases open_slice hk hy with ⟨hcs, _⟩ | ⟨b, len', cap', m, n, D, Pl, hcs, _⟩
    · exact ⟨_, _, _, hcs⟩
    · exact ⟨_, _, _, hcs⟩
  obtain ⟨A, n, c, rfl⟩ := hform
  exact ⟨A, n, c, by simpa using hv 0 _ rfl, isSl_of hk hC hok hy fun m hm => hsz m (hwt m hm)⟩
end
/-- Four numbers. -/
def okRect (cs : List Value) : Prop := ∃ a b c d : Int, cs[0]? = some (.int .i64 a) ∧ cs[1]? = some (.int .i64 b) ∧ cs[2]? = some (.int .i64 c) ∧ cs[3]? = some (.int .i64 d)
theorem okRect_of {H : Type} {enc : TypeId × Value → H} {w : World} {base : Nat} {spare : Nat → Bool} {held : Bool} (fuel : Nat) (cs : List Value) (y : DataW H × List MemPlace) (h : DataW.trod enc Tryz.prog w base spare held fuel 46 cs = some y) : okRect cs := by
  obtain ⟨a, h0, _⟩ := leaf_int (o := 0) (u := 3) (k := .i64) (by kernel_rfl) Tryz.underlying3 h
  obtain ⟨b, h1, _⟩ := leaf_int (o := 1) (u := 3) (k := .i64) (by kernel_rfl) Tryz.underlying3 h
  obtain ⟨c, h2, _⟩ := leaf_int (o := 2) (u := 3) (k := .i64) (by kernel_rfl) Tryz.underlying3 h
  obtain ⟨d, h3, _⟩ := leaf_int (o := 3) (u := 3) (k := .i64) (by kernel_rfl) Tryz.underlying3 h
  exact ⟨a, b, c, d, h0, h1, h2, h3⟩
theorem rects_of {w : World} {a : Option Addr} {len cap : Nat} (h : IsSl w 4 okRect a len cap) : ∃ L : List Bx, L.length = len ∧ ERd elR w (.slice a len cap) L := by
  have hq : ∀ i, i < len → ∃ b : Bx, ∃ g o, a = some ⟨g, o, none⟩ ∧ ∀ j u, (elR.enc b)[j]? = some u → w.cell? ⟨g, o + i * 4 + j, none⟩ = some u := by
    intro i hi
    obtain ⟨xb, xo, cs, rfl, hl, hcell, a, b, c, d, h0, h1, h2, h3⟩ := h.at2 i hi (by decide)
    refine ⟨⟨a, b, c, d⟩, xb, xo, rfl, fun j u hu => ?_⟩
    have hj : cs[j]? = some u := by
      match j, hu with
      | 0, hu => simp [elR] at hu; rw [h0, hu]
      | 1, hu => simp [elR] at hu; rw [h1, hu]
      | 2, hu => simp [elR] at hu; rw [h2, hu]
      | 3, hu => simp [elR] at hu; rw [h3, hu]
      | j + 4, hu => simp [elR] at hu
    have := hcell j u hj
    rwa [← Nat.add_assoc] at this
  obtain ⟨L, h1, h2⟩ := list_of len hq
  obtain ⟨l1, l2⟩ := h.le
  refine ⟨L, h1, a, cap, by rw [h1], by omega, l2, fun i x hx => ?_⟩
  obtain ⟨g, o, e, hc⟩ := h2 i x hx
  exact ⟨g, o, e, fun j u hu => hc j u hu⟩
/-- A rule's cells. -/
def okRule (w : World) (cs : List Value) : Prop := ∃ k ro lo hi la zo : Int, ∃ A n c, cs[0]? = some (.int .i64 k) ∧ cs[1]? = some (.int .i64 ro) ∧ cs[2]? = some (.int .i64 lo) ∧ cs[3]? = some (.int .i64 hi) ∧ cs[4]? = some (.int .i64 la) ∧ cs[5]? = some (.slice A n c) ∧ cs[6]? = some (.int .i64 zo) ∧ IsSl w 4 okRect A n c
theorem okRule_of {H : Type} {enc : TypeId × Value → H} {w : World} {base : Nat} {spare : Nat → Bool} {held : Bool} (fuel : Nat) (cs : List Value) (y : DataW H × List MemPlace) (h : DataW.trod enc Tryz.prog w base spare held fuel 59 cs = some y) (hsz : ∀ m ∈ y.1.weights Tryz.prog 59, m ≤ reachBytes) : okRule w cs := by
  obtain ⟨a0, h0, _⟩ := leaf_int (o := 0) (u := 3) (k := .i64) (by kernel_rfl) Tryz.underlying3 h
  obtain ⟨a1, h1, _⟩ := leaf_int (o := 1) (u := 3) (k := .i64) (by kernel_rfl) Tryz.underlying3 h
  obtain ⟨a2, h2, _⟩ := leaf_int (o := 2) (u := 3) (k := .i64) (by kernel_rfl) Tryz.underlying3 h
  obtain ⟨a3, h3, _⟩ := leaf_int (o := 3) (u := 3) (k := .i64) (by kernel_rfl) Tryz.underlying3 h
  obtain ⟨a4, h4, _⟩ := leaf_int (o := 4) (u := 3) (k := .i64) (by kernel_rfl) Tryz.underlying3 h
  obtain ⟨a6, h6, _⟩ := leaf_int (o := 6) (u := 3) (k := .i64) (by kernel_rfl) Tryz.underlying3 h
  obtain ⟨A, n, c, h5, hI⟩ := leaf_sl (o := 5) (u := 57) (e := 46) (K := 4) (ok := okRect) (by kernel_rfl) Tryz.underlying57 (by kernel_rfl) (fun fuel cs y h _ => okRect_of fuel cs y h) h hsz
  exact ⟨a0, a1, a2, a3, a4, a6, A, n, c, h0, h1, h2, h3, h4, h5, h6, hI⟩
theorem rules_of {w : World} {a : Option Addr} {len cap : Nat} (h : IsSl w 7 (okRule w) a len cap) : ∃ acc : List (Rc × RV), acc.length = len ∧ RRd w (.slice a len cap) acc := by
  have hq : ∀ i, i < len → ∃ x : Rc × RV, (∃ g o, a = some ⟨g, o, none⟩ ∧ ∀ j u, (elRu.enc x)[j]? = some u → w.cell? ⟨g, o + i * 7 + j, none⟩ = some u) ∧ ERd elR w x.2.v x.1.bx := by
    intro i hi
    obtain ⟨xb, xo, cs, rfl, hl, hcell, k, ro, lo, hi', la, zo, A, n, c, h0, h1, h2, h3, h4, h5, h6, hI⟩ := h.at2 i hi (by decide)
    obtain ⟨L, hL, hR⟩ := rects_of hI
    refine ⟨(⟨k, ro, lo, hi', la, L, zo⟩, ⟨A, n, c⟩), ⟨xb, xo, rfl, fun j u hu => ?_⟩, hR⟩
    have hj : cs[j]? = some u := by
      match j, hu with
      | 0, hu => simp [elRu, rucells] at hu; rw [h0, hu]
      | 1, hu => simp [elRu, rucells] at hu; rw [h1, hu]
      | 2, hu => simp [elRu, rucells] at hu; rw [h2, hu]
      | 3, hu => simp [elRu, rucells] at hu; rw [h3, hu]
      | 4, hu => simp [elRu, rucells] at hu; rw [h4, hu]
      | 5, hu => simp [elRu, rucells, RV.v] at hu; rw [h5, hu]
      | 6, hu => simp [elRu, rucells] at hu; rw [h6, hu]
      | j + 7, hu => simp [elRu, rucells] at hu
    have := hcell j u hj
    rwa [← Nat.add_assoc] at this
  obtain ⟨acc, h1, h2⟩ := list_of len hq
  obtain ⟨l1, l2⟩ := h.le
  refine ⟨acc, h1, ⟨a, cap, by rw [h1], by omega, l2, fun i x hx => ?_⟩, fun x hx => ?_⟩
  · obtain ⟨g, o, e, hc⟩ := (h2 i x hx).1
    exact ⟨g, o, e, fun j u hu => hc j u hu⟩
  · obtain ⟨i, hi⟩ := List.getElem?_of_mem hx
    exact (h2 i x hi).2
end
section
set_option linter.unusedVariables false
set_option linter.unusedSimpArgs false
open Go.RowKit
theorem agg_of5 {cs : Array Value} {a b c d e : Value} (h : cs.size = 5) (h0 : cs.toList[0]? = some a) (h1 : cs.toList[1]? = some b) (h2 : cs.toList[2]? = some c) (h3 : cs.toList[3]? = some d) (h4 : cs.toList[4]? = some e) : Value.agg cs = .agg #[a, b, c, d, e] := by
  obtain ⟨l⟩ := cs
  match l, h with
  | [x0, x1, x2, x3, x4], _ =>
    simp at h0 h1 h2 h3 h4
    simp [*]
theorem rule_val {w : World} {cs : Array Value} (h : okRule w cs.toList) (hs : cs.size = 7) : ∃ (rr : Rc) (bv : Value), Value.agg cs = ruV rr bv ∧ ERd elR w bv rr.bx := by
  obtain ⟨k, ro, lo, hi, la, zo, A, n, c, h0, h1, h2, h3, h4, h5, h6, hI⟩ := h
  obtain ⟨L, rfl, hR⟩ := rects_of hI
  refine ⟨⟨k, ro, lo, hi, la, L, zo⟩, _, ?_, hR⟩
  obtain ⟨l⟩ := cs
  match l, hs with
  | [x0, x1, x2, x3, x4, x5, x6], _ =>
    simp at h0 h1 h2 h3 h4 h5 h6
    simp [*, ruV]
end
end Go.Proofs.YtmgamlpjgghieaaGreatDoor
