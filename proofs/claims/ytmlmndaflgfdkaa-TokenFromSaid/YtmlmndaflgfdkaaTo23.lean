/- token: what the laws over operations share. -/
import Derived.Test.YtmlmndaflgfdkaaTo22
import Derived.Test.YtmlmndaflgfdkaaTo15
namespace Go.Proofs.Ytmlmndaflgfdkaa
set_option linter.unusedVariables false
set_option linter.unusedSimpArgs false
open Go.RowKit Go.ChangeShapes Go.WideShapes Go.Deep
def okOpW (_ : World) : List Value → Prop := okOp
theorem okOpP {H : Type} {enc : TypeId × Value → H} {w : World} {base : Nat} {spare : Nat → Bool} {held : Bool} (fuel : Nat) (cs : List Value) (y : DataW H × List MemPlace) (h : DataW.trod enc Try.prog w base spare held fuel 32 cs = some y) (_ : ∀ m ∈ y.1.weights Try.prog 32, m ≤ reachBytes) : okOp cs := okOp_of fuel cs y h
/-- A row of one's own, kept by what is done with a table. -/
theorem TS.keepRow {y : Nat} {v v' v2 : Value} {w w' : World} {L M : List Tk} (h : TS y v w v' L w') (hr : EOwn elT w v2 M) (hf : ∀ i, v2.ownBlock = some i → i ≠ y ∧ v.ownBlock ≠ some i) : EOwn elT w' v2 M :=
  hr.keep fun i hi e => h.ke.block i hi (hf i e).1 (hf i e).2
theorem TS.farRow {y : Nat} {v v' v2 : Value} {w w' : World} {L M : List Tk} (h : TS y v w v' L w') (hr : EOwn elT w v2 M) (hf : ∀ i, v2.ownBlock = some i → i ≠ y ∧ v.ownBlock ≠ some i) : ∀ i, v2.ownBlock = some i → i ≠ y ∧ v'.ownBlock ≠ some i := fun i hi => ⟨(hf i hi).1, fun e => by
  rcases h.far i e with h1 | h1
  · exact (hf i hi).2 h1
  · have := hr.lt hi; omega⟩
theorem below_ts {y : Nat} {v v' : Value} {w w0 w' : World} {L : List Tk} (h : Below w.heap.size w w0) (t : TS y v w0 v' L w') (hy : w.heap.size ≤ y) (hv : ∀ i, v.ownBlock = some i → w.heap.size ≤ i) : Below w.heap.size w w' := below_ke h t.ke hy hv h.size
theorem gone_none {p : Tk → Bool} (M : List Tk) (hM : ∀ k ∈ M, p k = false) : gone p M = [] := by
  unfold gone
  induction M with
  | nil => rfl
  | cons x r ih =>
    have h1 : stepG p [] x = [] := by
      unfold stepG
      rw [if_neg]
      rintro (h | h)
      · rw [hM x (List.mem_cons_self ..)] at h; cases h
      · exact absurd ((hasN_iff _ _).1 h).2 (by simp)
    rw [List.foldl_cons, h1]
    exact ih fun k hk => hM k (List.mem_cons_of_mem _ hk)
theorem drop_none {p : Tk → Bool} (M : List Tk) (hM : ∀ k ∈ M, p k = false) : dropT p M = M := by
  unfold dropT
  rw [gone_none M hM]
  unfold keepT
  rw [List.filter_eq_self]
  intro k _
  have : hasN [] k.sec = false := by
    cases hb : hasN [] k.sec
    · rfl
    · exact absurd ((hasN_iff _ _).1 hb).2 (by simp)
  simp [this]
theorem drop_not {L : List Tk} (h : WF L) (p : Tk → Bool) : ∀ k ∈ dropT p L, p k = false := by
  intro k hk
  obtain ⟨h1, h2⟩ := List.mem_filter.1 hk
  obtain ⟨i, hi, rfl⟩ := List.getElem_of_mem h1
  have h3 := up_gone h p i hi (i + 1) (by omega)
  rw [upR] at h3
  cases hp : p L[i]
  · rfl
  · rw [hp, if_pos rfl] at h3
    rw [← h3] at h2
    simp at h2
theorem left_sub {L M : List Tk} (h : WF L) (now : Int) (hM : ∀ k ∈ M, k ∈ leftC now L) : leftC now M = M := drop_none M fun k hk => drop_not h _ k (hM k hk)
theorem left_drop {L : List Tk} (h : WF L) (now : Int) (p : Tk → Bool) : leftC now (dropT p (leftC now L)) = dropT p (leftC now L) := left_sub h now fun k hk => (List.mem_filter.1 hk).1
end Go.Proofs.Ytmlmndaflgfdkaa
