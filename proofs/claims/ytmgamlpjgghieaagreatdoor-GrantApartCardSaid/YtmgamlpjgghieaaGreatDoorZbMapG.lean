/- A map of any key and any values out of a table: what it holds. -/
import Derived.Test.YtmgamlpjgghieaaGreatDoorRows
import Derived.Test.YtmgamlpjgghieaaGreatDoorZbWords
import Derived.Test.YtmgamlpjgghieaaGreatDoorZbBlk
import Derived.Maps.Views
namespace Go.Proofs.YtmgamlpjgghieaaGreatDoor
set_option linter.unusedVariables false
set_option linter.unusedSimpArgs false
open Go.RowKit Go.Maps
noncomputable def codeT (T : List Value) (v : Value) : Nat := T.findIdx fun u => @decide (u = v) (Classical.propDecidable _)
noncomputable def cd (T : List Value) (v : Value) : DataW Unit := .lit (.int .i64 (codeT T v : Nat))
noncomputable def recT (T : List Value) (v : Value) : Option (DataW Unit × List MemPlace) := @ite _ (v ∈ T) (Classical.propDecidable _) (some (cd T v, [])) none
theorem recT_mem {T : List Value} {v : Value} (h : v ∈ T) : recT T v = some (cd T v, []) := by unfold recT; rw [if_pos h]
theorem code_get {T : List Value} {v : Value} (h : v ∈ T) : T[codeT T v]? = some v := by
  have hlt : T.findIdx (fun u => @decide (u = v) (Classical.propDecidable _)) < T.length := List.findIdx_lt_length_of_exists ⟨v, h, by simp⟩
  have h2 := List.findIdx_getElem (w := hlt)
  simp only [decide_eq_true_eq] at h2
  unfold codeT
  rw [List.getElem?_eq_getElem hlt, h2]
theorem recT_inv {T : List Value} {v u : Value} {ps : List MemPlace} (hu : u ∈ T) (h : recT T v = some (cd T u, ps)) : v = u := by
  unfold recT at h
  by_cases hv : v ∈ T
  · rw [if_pos hv] at h
    simp only [Option.some.injEq, Prod.mk.injEq, cd, DataW.lit.injEq, Lit.int.injEq, true_and] at h
    have e : codeT T v = codeT T u := by have := h.1; omega
    have h1 := code_get hv
    have h2 := code_get hu
    rw [e, h2] at h1
    exact (Option.some.inj h1).symm
  · rw [if_neg hv] at h; cases h
/-- How values are told apart. -/
structure Cdg where
  R : Value → Option (DataW Unit × List MemPlace)
  cf : Value → DataW Unit
  G : Value → Prop
  mem : ∀ v, G v → R v = some (cf v, [])
  inv : ∀ v u ps, G u → R v = some (cf u, ps) → v = u
/-- Values out of a table. -/
noncomputable def tabC (T : List Value) : Cdg := ⟨recT T, cd T, (· ∈ T), fun _ h => recT_mem h, fun _ _ _ hu h => recT_inv hu h⟩
/-- Maps. -/
def mapR (v : Value) : Option (DataW Unit × List MemPlace) :=
  match v with
  | .map (some b) => some (.lit (.int .i64 (b : Nat)), [])
  | .map none => some (.lit (.int .i64 (-1)), [])
  | _ => none
def mapF (v : Value) : DataW Unit :=
  match v with
  | .map (some b) => .lit (.int .i64 (b : Nat))
  | _ => .lit (.int .i64 (-1))
def mapC : Cdg := ⟨mapR, mapF, fun v => ∃ o, v = .map o, fun v h => by
    obtain ⟨o, rfl⟩ := h
    cases o <;> rfl, fun v u ps h h2 => by
    obtain ⟨o, rfl⟩ := h
    unfold mapR at h2
    split at h2
    · rename_i b
      cases o with
      | none => simp [mapF] at h2
      | some c =>
        simp [mapF] at h2
        have : b = c := by omega
        rw [this]
    · cases o with
      | none => rfl
      | some c => simp [mapF] at h2
    · cases h2⟩
/-- The map in block mp; z: what is told where nothing is. -/
def GMap (k : TypeId) (T : Cdg) (z : Value) (w : World) (mp n : Nat) (H : Lit → Option Value) : Prop :=
  ∃ D : DataW Unit, w.ownsMap Tryz.prog k T.R mp n D ∧ IsMap D ∧ Tidy D ∧ (∀ kl, WideAt.IsKeyLit kl → Maps.has D kl = (H kl).isSome) ∧ (∀ kl, WideAt.IsKeyLit kl → D.atKey kl (T.cf z) = T.cf ((H kl).getD z)) ∧ ∀ kl v, H kl = some v → T.G v
section
variable {k : TypeId} {T : Cdg} {z : Value} {w : World} {mp n : Nat} {H : Lit → Option Value}
theorem GMap.lt (h : GMap k T z w mp n H) : mp < w.heap.size := by obtain ⟨D, h1, _⟩ := h; exact h1.lt
theorem GMap.keep {w' : World} (h : GMap k T z w mp n H) (hk : w'.heap[mp]? = w.heap[mp]?) : GMap k T z w' mp n H := by
  obtain ⟨D, ⟨es, clock, hb, h1⟩, h2⟩ := h
  exact ⟨D, ⟨es, clock, hk.trans hb, h1⟩, h2⟩
theorem GMap.drew (h : GMap k T z w mp n H) : GMap k T z w.drew mp n H := h
theorem GMap.alloc (h : GMap k T z w mp n H) (o : Obj) : GMap k T z (w.alloc o) mp n H := h.keep (Below.heap_alloc w o mp h.lt)
theorem GMap.below {w' : World} (h : GMap k T z w mp n H) (hb : Below w.heap.size w w') : GMap k T z w' mp n H := h.keep (hb.block mp h.lt)
theorem GMap.mem (h : GMap k T z w mp n H) (hz : T.G z) (kl : Lit) : T.G ((H kl).getD z) := by
  obtain ⟨D, _, _, _, _, _, h6⟩ := h
  cases hk : H kl with
  | none => exact hz
  | some v => exact h6 kl v hk
theorem GMap.look {t e : TypeId} (h : GMap k T z w mp n H) (K : Keyed Tryz.prog k) (ht : Tryz.prog.underlying t = some (.map k e)) (hz : (zeroValue e).run Tryz.prog w = .ok z w) (hzT : T.G z) {key : Value} {kl : Lit} (hkey : keyOf Tryz.prog k key = some kl) :
    (Instr.lookup t (.map (some mp)) key false).run Tryz.prog w = .ok ((H kl).getD z) w := by
  have hm := h.mem hzT kl
  obtain ⟨D, h1, _, _, _, h5, _⟩ := h
  obtain ⟨v, ps, hrun, hR⟩ := h1.lookup K ht hz (T.mem _ hzT) hkey
  rw [h5 kl (K.key hkey)] at hR
  rw [hrun, T.inv _ _ _ hm hR]
theorem GMap.look_ok {t e : TypeId} (h : GMap k T z w mp n H) (K : Keyed Tryz.prog k) (ht : Tryz.prog.underlying t = some (.map k e)) (hz : (zeroValue e).run Tryz.prog w = .ok z w) (hzT : T.G z) {key : Value} {kl : Lit} (hkey : keyOf Tryz.prog k key = some kl) :
    (Instr.lookup t (.map (some mp)) key true).run Tryz.prog w = .ok (.tuple #[(H kl).getD z, .bool (H kl).isSome]) w := by
  have hm := h.mem hzT kl
  obtain ⟨D, h1, _, _, h4, h5, _⟩ := h
  obtain ⟨v, ps, hrun, hR⟩ := h1.look_ok K ht hz (T.mem _ hzT) hkey
  rw [h5 kl (K.key hkey)] at hR
  rw [hrun, h4 kl (K.key hkey), T.inv _ _ _ hm hR]
noncomputable def putG (H : Lit → Option Value) (kl : Lit) (v : Value) : Lit → Option Value := fun j => @ite _ (j = kl) (Classical.propDecidable _) (some v) (H j)
theorem GMap.store {t e : TypeId} (h : GMap k T z w mp n H) (K : Keyed Tryz.prog k) (ht : Tryz.prog.underlying t = some (.map k e)) {key v : Value} {kl : Lit} (hkey : keyOf Tryz.prog k key = some kl) (hv : T.G v) (hn : n < maxLen) :
    ∃ w', (Instr.mapUpdate t (.map (some mp)) key v).run Tryz.prog w = .ok () w' ∧ GMap k T z w' mp (n + 1) (putG H kl v) ∧ w.grownBy w' (some mp) := by
  obtain ⟨D, h1, h2, h3, h4, h5, h6⟩ := h
  obtain ⟨w', hrun, ho, hm⟩ := h1.store K ht hn hkey (T.mem _ hv)
  have hK := K.key hkey
  refine ⟨w', hrun, ⟨_, ho, ho.isMap, ho.tidy K, fun j hj => ?_, fun j hj => ?_, fun j u hu => ?_⟩, hm.grown⟩
  · unfold putG
    by_cases e : j = kl
    · subst e; rw [if_pos rfl, has_put_same h2 hK]; rfl
    · rw [if_neg e, has_put_other e]; exact h4 j hj
  · unfold putG
    by_cases e : j = kl
    · subst e; rw [if_pos rfl, atKey_put_same h2 hK]; rfl
    · rw [if_neg e, atKey_put_other e]; exact h5 j hj
  · unfold putG at hu
    by_cases e : j = kl
    · rw [if_pos e] at hu; cases hu; exact hv
    · rw [if_neg e] at hu; exact h6 j u hu
theorem GMap.made (K : Keyed Tryz.prog k) (w : World) : GMap k T z (w.alloc (.map #[] 0)) w.heap.size 0 fun _ => none := by
  have h := World.ownsMap_made (H := Unit) w Tryz.prog k T.R
  refine ⟨_, h, h.isMap, h.tidy K, fun j _ => rfl, fun j _ => ?_, fun _ _ hu => by cases hu⟩
  exact atKey_of_not_has rfl _
end
end Go.Proofs.YtmgamlpjgghieaaGreatDoor
