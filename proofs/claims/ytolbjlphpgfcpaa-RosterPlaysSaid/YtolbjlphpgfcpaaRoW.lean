/- roster: who is enrolled, sorted, by contract. -/
import Derived.Test.YtolbjlphpgfcpaaRoV
import Derived.Test.YtolbjlphpgfcpaaShelf
import Derived.Maps.RangeWalk
import Derived.Sort.OwnSortedInts
namespace Go.Proofs.Ytolbjlphpgfcpaa
set_option linter.unusedVariables false
set_option linter.unusedSimpArgs false
open Go.RowKit Go.Sort
def elI : El Int := { T := 3, k := 1, by_ := 8, z := .int .i64 0, enc := fun x => [.int .i64 x] }
theorem elI_ok : elI.Ok := ⟨by decide, fun _ => rfl, fun x u hu => by simp only [elI, List.mem_cons, List.not_mem_nil, or_false] at hu; rcases hu with rfl; rfl, by kernel_rfl, rfl, by decide⟩
theorem elI_encs (L : List Int) : elI.encs L = L.map (Value.int .i64) := by
  induction L with
  | nil => rfl
  | cons x r ih => rw [List.map_cons, ← ih]; rfl
theorem new_int (w : World) (t : TypeId) (x : Int) : ∀ j u, (elI.enc x)[j]? = some u → (w.alloc (.cells #[.int .i64 x] t)).cell? ⟨w.heap.size, j, none⟩ = some u := fun j u hu => new_cellT _ _ _ j (by simpa [elI] using hu)
theorem sort_own {w : World} {g cap : Nat} {L : List Int} (h : ERow elI w g cap L) (hl : L.length ≤ 1000000) :
    Calls Try.prog 34 #[.slice (some ⟨g, 0, none⟩) L.length cap] w fun e w' => e = .returned (.tuple #[]) ∧ EOwn elI w' (.slice (some ⟨g, 0, none⟩) L.length cap) (L.mergeSort fun x y => decide (x ≤ y)) ∧ w.grownBy w' (some g) := by
  obtain ⟨cur, hb, hs, h1, h2, h3⟩ := h
  have h4 : cur.toList.take L.length = L.map (Value.int .i64) := by
    have e : elI.k = 1 := rfl
    rw [e, Nat.mul_one, elI_encs] at h3
    exact h3
  refine (Try.slices_Sort_int g 0 cap L w (holds_of_blockI hb h4) hb.lt (by omega)).mono ?_
  rintro e w' ⟨rfl, n, os, rfl⟩
  have hk : (L.mergeSort fun x y => decide (x ≤ y)).length = L.length := List.length_mergeSort _
  have o := ownsRow_sortedI (w := w) (base := 0) (n := n) (os := os) hk (Nat.zero_le g) hb h1 h2 (by have e : elI.k = 1 := rfl; rw [e] at hs; exact hs)
  refine ⟨rfl, .inr ⟨g, cap, by rw [hk], _, heap_sortedI _ hb, ?_, by rw [hk]; exact h1, h2, ?_⟩, grownBy_sortedI _⟩
  · have e : elI.k = 1 := rfl
    rw [e] at hs ⊢
    simp [putCells, hs]
  · have e : elI.k = 1 := rfl
    rw [e, Nat.mul_one, elI_encs]
    exact take_putCellsI cur _ (by have e : elI.k = 1 := rfl; rw [e] at hs; omega)
/-- The keys that have come up, and those that are still to come. -/
structure KS (H : Int → Option Mb) (left : Lit → Bool) (Ks : List Int) : Prop where
  all : ∀ u, (H u).isSome = (left (keyL u) || decide (u ∈ Ks))
  off : ∀ u ∈ Ks, left (keyL u) = false
  nodup : Ks.Nodup
theorem same_key (a b : Int) : (keyL a).sameKey (keyL b) = decide (a = b) := by
  by_cases h : a = b
  · subst h; simp [keyL, Lit.sameKey]
  · rw [Maps.sameKey_ne (keyL_ne h)]; simp [h]
theorem KS.start {H : Int → Option Mb} {D : DataW Unit} (h : ∀ id, Maps.has D (keyL id) = (H id).isSome) : KS H (Maps.has D) [] := ⟨fun u => by rw [h u]; simp, fun u hu => by simp at hu, List.nodup_nil⟩
theorem KS.step {H : Int → Option Mb} {left : Lit → Bool} {Ks : List Int} (h : KS H left Ks) {x : Int} (hx : left (keyL x) = true) : KS H (fun z => left z && !z.sameKey (keyL x)) (Ks ++ [x]) := by
  have hn : x ∉ Ks := fun hm => by rw [h.off x hm] at hx; cases hx
  refine ⟨fun u => ?_, fun u hu => ?_, ?_⟩
  · rw [h.all u, same_key]
    by_cases e : u = x
    · subst e; simp [hx]
    · simp [e]
  · rcases List.mem_append.1 hu with h1 | h1
    · simp [h.off u h1]
    · rw [List.mem_singleton.1 h1, same_key]; simp
  · rw [List.nodup_append]
    exact ⟨h.nodup, by simp, fun a ha b hb e => hn (by rw [List.mem_singleton.1 hb] at e; exact e ▸ ha)⟩
theorem KS.done {H : Int → Option Mb} {left : Lit → Bool} {Ks : List Int} (h : KS H left Ks) (hl : ∀ kl, left kl = false) (u : Int) : (H u).isSome = true ↔ u ∈ Ks := by
  rw [h.all u, hl]; simp
theorem has_int {D : DataW Unit} {H : Int → Option Mb} {left : Lit → Bool} (key : Value) (kl : Lit) (h : keyOf Try.prog 3 key = some kl) : ∃ x, key = .int .i64 x := by
  obtain ⟨x, rfl, _⟩ := Maps.keyOf_int_inv Try.underlying3 h
  exact ⟨x, rfl⟩
/-- Sorted, the least first. -/
theorem sorted_lt {L : List Int} (h : L.Nodup) : (L.mergeSort fun x y => decide (x ≤ y)).Pairwise (· < ·) := by
  have hp := List.mergeSort_perm L fun x y => decide (x ≤ y)
  have h1 : (L.mergeSort fun x y => decide (x ≤ y)).Pairwise fun x y => decide (x ≤ y) = true := List.pairwise_mergeSort (fun a b c h1 h2 => by simp at h1 h2 ⊢; omega) (fun a b => by simp; omega) L
  have h2 : (L.mergeSort fun x y => decide (x ≤ y)).Nodup := hp.nodup_iff.2 h
  exact (h1.and h2).imp fun ⟨a, b⟩ => by simp at a; omega
end Go.Proofs.Ytolbjlphpgfcpaa
