/- A slice of structs that came in: its cells, and what each leaf of a struct is, however deep. -/
import Derived.Test.YtdbiaijpbkmfhaaFrame
import Derived.Deep.Slices
import Derived.Deep.Fields
import Derived.SizedLaws
namespace Go.Proofs.Ytdbiaijpbkmfhaa
set_option linter.unusedVariables false
set_option linter.unusedSimpArgs false
open Go.RowKit Go.ChangeShapes Go.WideShapes Go.Deep
/-- The leaf's type at a cell of a struct. -/
def leafAt (P : Program) : Nat → TypeId → Nat → Option TypeId
  | 0, _, _ => none
  | n + 1, t, o => match P.underlying t with
    | some (.struct fs) => match fs.toList.find? (fun f => f.offset ≤ o && decide (o < f.offset + P.cellsOf f.type)) with
      | some f => leafAt P n f.type (o - f.offset)
      | none => none
    | some _ => if o = 0 then some t else none
    | none => none
section
variable {H : Type} {enc : TypeId × Value → H} {P : Program} {w : World} {base : Nat} {spare : Nat → Bool} {held : Bool}
theorem mem_weightsAll {e : TypeId} {d : DataW H} {l : List (DataW H)} (hd : d ∈ l) {k : Nat} (hk : k ∈ d.weights P e) : k ∈ DataW.weightsAll P e l := by
  induction l with
  | nil => simp at hd
  | cons a r ih =>
    simp only [DataW.weightsAll, List.mem_append]
    rcases List.mem_cons.1 hd with rfl | h
    · exact .inl hk
    · exact .inr (ih h)
theorem leaf_of (n : Nat) : ∀ (t : TypeId) (o : Nat) (u : TypeId) (fuel : Nat) (cs : List Value) (x : DataW H × List MemPlace), leafAt P n t o = some u → DataW.trod enc P w base spare held fuel t cs = some x →
    ∃ (fuel' : Nat) (ps : List Value) (y : DataW H × List MemPlace), DataW.trod enc P w base spare held fuel' u ps = some y ∧ (∀ m ∈ y.1.weights P u, m ∈ x.1.weights P t) ∧ ∀ j v, ps[j]? = some v → cs[o + j]? = some v := by
  induction n with
  | zero => intro t o u fuel cs x h; simp [leafAt] at h
  | succ n ih =>
    intro t o u fuel cs x h ht
    unfold leafAt at h
    split at h
    · rename_i fs hs
      split at h
      · rename_i f hf
        have hmem := List.mem_of_find?_eq_some hf
        have hp := List.find?_some hf
        simp only [Bool.and_eq_true, decide_eq_true_eq] at hp
        obtain ⟨i, hi, hif⟩ := List.mem_iff_getElem.1 hmem
        have hfi : fs[i]? = some f := by
          rw [← Array.getElem?_toList, List.getElem?_eq_getElem hi, hif]
        obtain ⟨xs, n', _, hxe, _, hlen, hg⟩ := DataW.trod_struct hs ht
        have hlt : i < xs.length := by rw [hlen]; simpa using hi
        have h1 := hg i f hfi
        rw [List.getElem?_eq_getElem hlt] at h1
        obtain ⟨fuel', ps, y, hy, hwt, hv⟩ := ih _ _ _ _ _ _ h h1
        refine ⟨fuel', ps, y, hy, fun m hm => ?_, fun j v hj => ?_⟩
        · rw [hxe]
          simp only [DataW.weights, hs]
          refine DataW.weights_mem_each (j := i) (t := f.type) (d := xs[i].1) ?_ ?_ m (hwt m hm)
          · rw [List.getElem?_map, List.getElem?_eq_getElem hi, hif]; rfl
          · rw [List.getElem?_map, List.getElem?_eq_getElem hlt]; rfl
        have h2 := hv j v hj
        rw [List.getElem?_take] at h2
        split at h2
        · rw [List.getElem?_drop] at h2
          rwa [show f.offset + (o - f.offset + j) = o + j by omega] at h2
        · simp at h2
      · simp at h
    · split at h
      · rename_i h0
        simp only [Option.some.injEq] at h
        subst h; subst h0
        exact ⟨fuel, cs, x, ht, fun m hm => hm, fun j v hj => by rwa [Nat.zero_add]⟩
      · simp at h
    · simp at h
theorem leaf_int {t u : TypeId} {o fuel : Nat} {cs : List Value} {x : DataW H × List MemPlace} {k : IntKind} (hl : leafAt P 9 t o = some u) (hk : P.underlying u = some (.int k)) (h : DataW.trod enc P w base spare held fuel t cs = some x) :
    ∃ m : Int, cs[o]? = some (.int k m) ∧ (Lit.int k m).wf = true := by
  obtain ⟨_, ps, y, hy, _, hv⟩ := leaf_of 9 t o u fuel cs x hl h
  obtain ⟨m, rfl, _, hw⟩ := DataW.trod_int hk hy
  exact ⟨m, by simpa using hv 0 _ rfl, hw⟩
theorem leaf_bytes {t u e : TypeId} {o fuel : Nat} {cs : List Value} {x : DataW H × List MemPlace} (hl : leafAt P 9 t o = some u) (hk : P.underlying u = some (.slice e)) (he : P.underlying e = some (.int .u8)) (hc : P.cellsOf e = 1) (hby : P.bytesOf e = 1) (h : DataW.trod enc P w base spare held fuel t cs = some x) (hsz : ∀ m ∈ x.1.weights P t, m ≤ reachBytes) :
    ∃ A L C, ∃ l : List UInt8, cs[o]? = some (.slice A L C) ∧ RB w A L l ∧ L ≤ C ∧ C ≤ maxLen ∧ L ≤ reachBytes := by
  obtain ⟨_, ps, y, hy, hwt, hv⟩ := leaf_of 9 t o u fuel cs x hl h
  rcases open_ints hk he hc hy with ⟨rfl, _⟩ | ⟨a, len, cap, zs, rfl, _, hl, hm, hz, hye, hcell, hwz⟩
  · exact ⟨none, 0, 0, [], by simpa using hv 0 _ rfl, RB.nil_ w, Nat.le_refl _, by decide, Nat.zero_le _⟩
  · have hlz : len ≤ zs.length := by rw [hz]; split <;> omega
    refine ⟨some a, len, cap, (zs.take len).map (fun n => UInt8.ofNat n.toNat), by simpa using hv 0 _ rfl, ⟨?_, fun hn => ⟨a, rfl, ?_, fun j u hu => ?_⟩⟩, hl, hm, ?_⟩
    · simp [bv_length]; omega
    · have := block_lt_of_cell (hcell 0 (by omega))
      simpa [block_of_add] using this
    · have hj : j < (zs.take len).length := by
        have := (List.getElem?_eq_some_iff.1 hu).1
        simpa [bv] using this
      rw [List.length_take] at hj
      have hzj : j < zs.length := by omega
      rw [hcell j hzj, ← hu]
      have hb := bounds_u8 (hwz (zs[j]) (List.getElem_mem hzj))
      simp [bv, List.getElem?_take, show j < len by omega, List.getElem?_eq_getElem hzj]
      omega
    · have h9 := hsz _ (hwt zs.length (by rw [hye]; simp [DataW.weights, hk, hby, lits]; omega))
      omega
/-- A slice of structs of K cells that came in; of each struct's cells ok holds. -/
def IsSl (w : World) (K : Nat) (ok : List Value → Prop) (a : Option Addr) (len cap : Nat) : Prop :=
  (a = none ∧ len = 0 ∧ cap = 0) ∨
  ∃ x, a = some x ∧ len ≤ cap ∧ cap ≤ maxLen ∧ ∀ i, i < len → ∃ cs : List Value, cs.length = K ∧ (∀ j u, cs[j]? = some u → w.cell? (x.add (i * K + j)) = some u) ∧ ok cs
theorem IsSl.at {w : World} {K : Nat} {ok : List Value → Prop} {a : Option Addr} {len cap : Nat} (h : IsSl w K ok a len cap) (i : Nat) (hi : i < len) : ∃ x, ∃ cs : List Value, a = some x ∧ cs.length = K ∧ (∀ j u, cs[j]? = some u → w.cell? (x.add (i * K + j)) = some u) ∧ ok cs := by
  rcases h with ⟨_, h0, _⟩ | ⟨x, rfl, _, _, hc⟩
  · omega
  · obtain ⟨cs, h1, h2, h3⟩ := hc i hi
    exact ⟨x, cs, rfl, h1, h2, h3⟩
theorem spot_of_cell {w : World} {a : Addr} {v : Value} (h : w.cell? a = some v) : a.spot = none := by
  unfold World.cell? at h
  split at h
  · cases hs : a.spot with
    | none => rfl
    | some s => simp [hs] at h
  · simp at h
theorem add_mid_ (g off j : Nat) : (⟨g, off, none⟩ : Addr).add j = ⟨g, off + j, none⟩ := by unfold Addr.add; split <;> simp_all
theorem IsSl.at2 {w : World} {K : Nat} {ok : List Value → Prop} {a : Option Addr} {len cap : Nat} (h : IsSl w K ok a len cap) (i : Nat) (hi : i < len) (hK : 0 < K) : ∃ xb xo, ∃ cs : List Value, a = some ⟨xb, xo, none⟩ ∧ cs.length = K ∧ (∀ j u, cs[j]? = some u → w.cell? ⟨xb, xo + (i * K + j), none⟩ = some u) ∧ ok cs := by
  rcases h with ⟨_, h0, _⟩ | ⟨x, rfl, _, _, hc⟩
  · omega
  · obtain ⟨cs0, l0, c0, _⟩ := hc 0 (by omega)
    have h0 := c0 0 _ (List.getElem?_eq_getElem (by omega))
    have hs : x.spot = none := by
      have := spot_of_cell h0
      simpa [Addr.add] using this
    obtain ⟨xb, xo, s⟩ := x
    simp at hs
    subst hs
    obtain ⟨cs, hl, hcell, hok⟩ := hc i hi
    refine ⟨xb, xo, cs, rfl, hl, fun j u hu => ?_, hok⟩
    have h1 := hcell j u hu
    rwa [add_mid_] at h1
theorem IsSl.le {w : World} {K : Nat} {ok : List Value → Prop} {a : Option Addr} {len cap : Nat} (h : IsSl w K ok a len cap) : len ≤ cap ∧ cap ≤ maxLen := by
  rcases h with ⟨_, rfl, rfl⟩ | ⟨x, _, h1, h2, _⟩
  · exact ⟨Nat.le_refl _, by decide⟩
  · exact ⟨h1, h2⟩
theorem isSl_of {t e : TypeId} {K fuel len cap : Nat} {a : Option Addr} {ok : List Value → Prop} {x : DataW H × List MemPlace} (ht : P.underlying t = some (.slice e)) (hC : P.cellsOf e = K)
    (hok : ∀ fuel cs (y : DataW H × List MemPlace), DataW.trod enc P w base spare held fuel e cs = some y → (∀ m ∈ y.1.weights P e, m ≤ reachBytes) → ok cs) (h : DataW.trod enc P w base spare held fuel t [.slice a len cap] = some x) (hsz : ∀ m ∈ x.1.weights P t, m ≤ reachBytes) : IsSl w K ok a len cap := by
  rcases open_slice ht h with ⟨hcs, _⟩ | ⟨b, len', cap', m, n, D, Pl, hcs, _, hl, hm, hmm, hx, hi⟩
  · simp at hcs
    obtain ⟨rfl, rfl, rfl⟩ := hcs
    exact .inl ⟨rfl, rfl, rfl⟩
  · simp at hcs
    obtain ⟨rfl, rfl, rfl⟩ := hcs
    refine .inr ⟨b, rfl, hl, hm, fun i hil => ?_⟩
    have him : i < m := by rw [hmm]; split <;> omega
    obtain ⟨cs', hc, ht'⟩ := hi i him
    obtain ⟨_, hcl, hat⟩ := World.cells?_some hc
    rw [hC] at hcl
    refine ⟨cs', hcl, fun j u hu => ?_, hok _ _ _ ht' (fun k hk => hsz k ?_)⟩
    have hj : j < cs'.length := (List.getElem?_eq_some_iff.1 hu).1
    have := hat j (by rw [hC]; omega)
    rw [add_of_add, hC] at this
    rw [this, hu]
    rw [hx]
    simp only [DataW.weights, ht]
    exact List.mem_cons_of_mem _ (List.mem_append_left _ (mem_weightsAll (d := D i) (List.mem_map.2 ⟨i, List.mem_range.2 hil, rfl⟩) hk))
end
end Go.Proofs.Ytdbiaijpbkmfhaa
