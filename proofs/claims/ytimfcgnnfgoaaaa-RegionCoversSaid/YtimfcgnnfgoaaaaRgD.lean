/- region: rows that the library sorts and compacts. -/
import Derived.Test.YtimfcgnnfgoaaaaRgC
import Derived.Test.YtimfcgnnfgoaaaaShelf
import Derived.Test.YtimfcgnnfgoaaaaSortLay
import Derived.Sort.OwnSortedInts
namespace Go.Proofs.Ytimfcgnnfgoaaaa
set_option linter.unusedVariables false
set_option linter.unusedSimpArgs false
open Go.RowKit Go.Sort Go.Shelf Go.Lib
section
variable {α β : Type} [Inhabited β] {E : El α}
theorem flat_encs (hE : E.Ok) (f : β → α) (M : List β) : (flatK (fun b => E.enc (f b)) E.k M.toArray).toList = E.encs (M.map f) := by
  have hl : (E.encs (M.map f)).length = M.length * E.k := by rw [El.encs_length hE]; simp
  apply List.ext_getElem
  · simp [hl]
  · intro t h1 h2
    have ht : t < M.length * E.k := by rw [← hl]; exact h2
    have hp := hE.pos
    have hi : t / E.k < M.length := (Nat.div_lt_iff_lt_mul hp).2 ht
    have hm : t % E.k < E.k := Nat.mod_lt _ hp
    have hdm : t / E.k * E.k + t % E.k = t := by rw [Nat.mul_comm]; exact Nat.div_add_mod t E.k
    have g := El.encs_get hE (M.map f) (t / E.k) (t % E.k) (f M[t / E.k]) (by simp [hi]) hm
    rw [hdm, List.getElem?_eq_getElem h2, List.getElem?_eq_getElem (by rw [hE.len]; exact hm)] at g
    have e := get_flatK (fun b => E.enc (f b)) E.k M.toArray t (by simpa using ht)
    have h1' : t < (flatK (fun b => E.enc (f b)) E.k M.toArray).size := by simpa using ht
    rw [getElem!_pos _ t h1'] at e
    rw [Array.getElem_toList, e]
    simp only [Option.some.injEq] at g
    rw [g]
    have e2 : M.toArray[t / E.k]! = M[t / E.k] := by rw [getElem!_pos _ _ (by simpa using hi)]; simp
    rw [e2, getElem!_pos _ _ (by rw [hE.len]; exact hm)]
theorem row_holdsK (hE : E.Ok) {f : β → α} {w : World} {g cap : Nat} {M : List β} (h : ERow E w g cap (M.map f)) : HoldsK (fun b => E.enc (f b)) E.k w g 0 M.toArray := by
  obtain ⟨cur, hb, hs, h1, h2, h3⟩ := h
  rw [List.length_map] at h1 h3
  intro j hj
  have hj' : j < M.length * E.k := by simpa using hj
  refine ⟨?_, hb.frozen _⟩
  rw [Nat.zero_add, hb.cell, getElem!_pos _ j hj]
  rw [← flat_encs hE f M] at h3
  have e : (cur.toList.take (M.length * E.k))[j]? = (flatK (fun b => E.enc (f b)) E.k M.toArray).toList[j]? := by rw [h3]
  rw [List.getElem?_take_of_lt hj', Array.getElem?_toList, Array.getElem?_toList, Array.getElem?_eq_getElem hj] at e
  exact e
theorem heap_sortedK {enc : β → List Value} {k : Nat} {w : World} {g n : Nat} {os : Array Obj} {cur : Array Value} {e : TypeId} {fr : Nat × Nat} (d : Array β) (hb : w.heap[g]? = some (.cells cur e fr)) :
    (sortWorldK enc k w g 0 n d os).heap[g]? = some (.cells (putCells id 0 (flatK enc k d) cur) e fr) := by
  have hg : g < w.heap.size := (Array.getElem?_eq_some_iff.1 hb).1
  unfold sortWorldK putRowK
  rw [heap_grow_old _ _ (by simpa using hg)]
  simp [putRow, mapBlock, Sort.ahead, Array.getElem?_modify, hb, onCells]
theorem grownBy_sortedK {enc : β → List Value} {k : Nat} {w : World} {g n : Nat} {os : Array Obj} (d : Array β) : w.grownBy (sortWorldK enc k w g 0 n d os) (some g) := by
  refine ⟨rfl, rfl, rfl, by simp [sortWorldK, putRowK], fun j hj hne => ?_⟩
  unfold sortWorldK putRowK
  rw [heap_grow_old _ _ (by simpa using hj)]
  have : g ≠ j := fun e => hne (by rw [e])
  simp [putRow, mapBlock, Sort.ahead, Array.getElem?_modify, this]
theorem row_sortedK (hE : E.Ok) {f : β → α} {w : World} {g cap n : Nat} {os : Array Obj} {M M' : List β} (h : ERow E w g cap (M.map f)) (hl : M'.length = M.length) : ERow E (sortWorldK (fun b => E.enc (f b)) E.k w g 0 n M'.toArray os) g cap (M'.map f) := by
  obtain ⟨cur, hb, hs, h1, h2, h3⟩ := h
  rw [List.length_map] at h1 h3
  refine ⟨_, heap_sortedK _ hb, by simp [putCells, hs], by rw [List.length_map]; omega, h2, ?_⟩
  rw [List.length_map, ← flat_encs hE f M']
  have hk : M'.length * E.k ≤ cur.size := by rw [hs, hl]; exact Nat.mul_le_mul_right _ h1
  apply List.ext_getElem?
  intro j
  by_cases hj : j < M'.length * E.k
  · have h9 : j < cur.size := by omega
    rw [List.getElem?_take_of_lt hj, Array.getElem?_toList, Array.getElem?_toList]
    simp [putCells, h9, hj]
  · rw [List.getElem?_take_eq_none (by omega), List.getElem?_eq_none (by simp; omega)]
end
/-- An end whose x is one of the grid's. -/
abbrev EnS : Type := { e : En // 0 ≤ e.x ∧ e.x ≤ 65536 }
instance : Inhabited EnS := ⟨⟨⟨0, 0, 0, 0, 0⟩, by decide⟩⟩
def cfE (a b : EnS) : Int := wrap64 (a.1.x - b.1.x)
theorem cfE_lt (a b : EnS) : ltOf cfE a b = decide (a.1.x < b.1.x) := by
  have h1 := a.2
  have h2 := b.2
  have e : cfE a b = a.1.x - b.1.x := by unfold cfE wrap64; omega
  unfold ltOf
  rw [e, decide_eq_decide]
  omega
theorem cfE_swo : SWO (ltOf cfE) where
  irrefl x := by rw [cfE_lt]; simp
  trans x y z h1 h2 := by rw [cfE_lt] at *; simp at *; omega
  ntrans x y z h1 h2 := by rw [cfE_lt] at *; simp at *; omega
theorem cfE_lays (blk off size : Nat) (w : World) : CmpLays Try.prog 55 #[] (fun e : EnS => elEd.enc e.1) 5 cfE blk off size w :=
  fun m os dk _ x y => (compare_any x.1 y.1 _).mono fun e w' ⟨he, hw⟩ => by
    subst hw
    exact ⟨he, 0, _, by rw [alloc_eq_grow, alloc_eq_grow, grow_grow]; rfl⟩
theorem enS_of : ∀ L : List En, (∀ e ∈ L, 0 ≤ e.x ∧ e.x ≤ 65536) → ∃ M : List EnS, M.map (·.1) = L
  | [], _ => ⟨[], rfl⟩
  | e :: L, h => by
    obtain ⟨M, hM⟩ := enS_of L fun d hd => h d (by simp [hd])
    exact ⟨⟨e, h e (by simp)⟩ :: M, by rw [List.map_cons, hM]⟩
theorem sortE_own {w : World} {g cap : Nat} {L : List En} (h : ERow elEd w g cap L) (hl : L.length ≤ 1000000) (hx : ∀ e ∈ L, 0 ≤ e.x ∧ e.x ≤ 65536) :
    Calls Try.prog 54 #[.slice (some ⟨g, 0, none⟩) L.length cap, .func (.func 55) #[] #[]] w fun e w' => e = .returned (.tuple #[]) ∧ ∃ L', L'.Perm L ∧ L'.Pairwise (fun d e => d.x ≤ e.x) ∧ EOwn elEd w' (.slice (some ⟨g, 0, none⟩) L.length cap) L' ∧ w.grownBy w' (some g) := by
  obtain ⟨M, rfl⟩ := enS_of L hx
  have hlt := h.lt
  have hk : ∀ x : EnS, (elEd.enc x.1).length = 5 := fun _ => rfl
  have h1 : ∀ x : EnS, ∀ v ∈ elEd.enc x.1, v.oneCell' = true := fun x => elEd_ok.one x.1
  have eg : ∀ args w, (callFunc 55 args).run Try.prog w = .ok (.enter 55 args) w := enters_of Try.func55 (by kernel_rfl) rfl
  have hH := row_holdsK elEd_ok h
  have hcon := AnyQ.slices_SortFunc Try.laysSF 5 (fun w => by kernel_rfl) (fun w => by kernel_rfl) (fun e : EnS => elEd.enc e.1) hk h1 cfE cfE_swo 55 #[] g 0 cap M.toArray w eg (cfE_lays _ _ _ _) hH hlt (by simp at hl ⊢; omega)
  have hn : (M.map (·.1)).length = M.toArray.size := by simp
  rw [hn]
  refine (show Calls Try.prog 54 _ w _ from hcon).mono ?_
  rintro e w' ⟨rfl, d', n, os, ⟨hp1, hp2, hp3⟩, hs, rfl⟩
  have hsz : d'.size = M.length := by rw [hp1]; simp
  have hd : d'.toList.toArray = d' := by simp
  have hperm : d'.toList.Perm M := by
    have e1 : d'.extract 0 M.toArray.size = d' := by rw [← hp1]; exact Array.extract_size
    have e2 : M.toArray.extract 0 M.toArray.size = M.toArray := Array.extract_size
    rw [e1, e2] at hp3
    exact hp3
  refine ⟨rfl, d'.toList.map (·.1), hperm.map _, ?_, ?_, grownBy_sortedK _⟩
  · rw [List.pairwise_map, List.pairwise_iff_getElem]
    intro i j hi hj hij
    have := hs i j (Nat.zero_le _) hij (by simp at hj ⊢; omega)
    rw [cfE_lt] at this
    simp at hi hj
    rw [getElem!_pos d' i hi, getElem!_pos d' j hj] at this
    simp at this
    simpa using this
  · have hr := row_sortedK (n := n) (os := os) elEd_ok h (M' := d'.toList) (by simp [hsz])
    rw [hd] at hr
    refine .inr ⟨g, cap, ?_, hr⟩
    simp [hsz]
/-- slices.Sort of a row of the call's own. -/
theorem elI_encs (L : List Int) : elI.encs L = L.map (Value.int .i64) := by
  induction L with
  | nil => rfl
  | cons x r ih => rw [List.map_cons, ← ih]; rfl
theorem sort_own {w : World} {g cap : Nat} {L : List Int} (h : ERow elI w g cap L) (hl : L.length ≤ 1000000) :
    Calls Try.prog 61 #[.slice (some ⟨g, 0, none⟩) L.length cap] w fun e w' => e = .returned (.tuple #[]) ∧ ERow elI w' g cap (L.mergeSort fun x y => decide (x ≤ y)) ∧ w.grownBy w' (some g) := by
  obtain ⟨cur, hb, hs, h1, h2, h3⟩ := h
  have h4 : cur.toList.take L.length = L.map (Value.int .i64) := by
    have e : elI.k = 1 := rfl
    rw [e, Nat.mul_one, elI_encs] at h3
    exact h3
  refine (Try.slices_Sort_int g 0 cap L w (holds_of_blockI hb h4) hb.lt (by omega)).mono ?_
  rintro e w' ⟨rfl, n, os, rfl⟩
  have hk : (L.mergeSort fun x y => decide (x ≤ y)).length = L.length := List.length_mergeSort _
  refine ⟨rfl, ⟨_, heap_sortedI _ hb, ?_, by rw [hk]; exact h1, h2, ?_⟩, grownBy_sortedI _⟩
  · have e : elI.k = 1 := rfl
    rw [e] at hs ⊢
    simp [putCells, hs]
  · have e : elI.k = 1 := rfl
    rw [e, Nat.mul_one, elI_encs]
    exact take_putCellsI cur _ (by have e : elI.k = 1 := rfl; rw [e] at hs; omega)
/-- What Compact leaves of a row that is sorted. -/
theorem compact_sorted (d : Array Int) (hs : ∀ i j, i ≤ j → j < d.size → d[i]! ≤ d[j]!) : ∀ m, m ≤ d.size → (compactUpTo d m).Pairwise (· < ·) ∧ (∀ x ∈ compactUpTo d m, ∃ j, j < m ∧ x = d[j]!) ∧ ∀ j, j < m → d[j]! ∈ compactUpTo d m
  | 0, _ => ⟨by simp [compactUpTo], by simp [compactUpTo], fun j hj => by omega⟩
  | m + 1, hm => by
    obtain ⟨h1, h2, h3⟩ := compact_sorted d hs m (by omega)
    rw [compactUpTo_succ]
    by_cases hk : keeps d m = true
    · rw [if_pos hk]
      refine ⟨?_, fun x hx => ?_, fun j hj => ?_⟩
      · rw [List.pairwise_append]
        refine ⟨h1, by simp, fun x hx y hy => ?_⟩
        simp at hy; subst hy
        obtain ⟨j, hj, rfl⟩ := h2 x hx
        have h4 := hs j (m - 1) (by omega) (by omega)
        have h5 := hs (m - 1) m (by omega) (by omega)
        have h6 : d[m]! ≠ d[m - 1]! := by
          simp only [keeps, decide_eq_true_eq] at hk
          rcases hk with hk | hk
          · omega
          · exact hk
        omega
      · rcases List.mem_append.1 hx with hx | hx
        · obtain ⟨j, hj, e⟩ := h2 x hx; exact ⟨j, by omega, e⟩
        · simp at hx; exact ⟨m, by omega, hx⟩
      · by_cases e : j = m
        · subst e; simp
        · exact List.mem_append_left _ (h3 j (by omega))
    · rw [if_neg hk, List.append_nil]
      have hk2 : 0 < m ∧ d[m]! = d[m - 1]! := by
        simp only [keeps, decide_eq_true_eq] at hk
        refine ⟨?_, ?_⟩
        · rcases Nat.eq_zero_or_pos m with e | e
          · exact absurd (.inl e) hk
          · exact e
        · exact Classical.byContradiction fun h => hk (.inr h)
      refine ⟨h1, fun x hx => ?_, fun j hj => ?_⟩
      · obtain ⟨j, hj, e⟩ := h2 x hx; exact ⟨j, by omega, e⟩
      · by_cases e : j = m
        · subst e; rw [hk2.2]; exact h3 _ (by omega)
        · exact h3 j (by omega)
theorem compact_of_sorted {L : List Int} (h : L.Pairwise (· ≤ ·)) : (Lib.compact L).Pairwise (· < ·) ∧ ∀ x, x ∈ Lib.compact L ↔ x ∈ L := by
  have hs : ∀ i j, i ≤ j → j < L.toArray.size → L.toArray[i]! ≤ L.toArray[j]! := by
    intro i j hij hj
    have hj' : j < L.length := by simpa using hj
    rw [getElem!_pos _ i (by simp; omega), getElem!_pos _ j hj]
    simp only [List.getElem_toArray]
    rcases Nat.lt_or_ge i j with h1 | h1
    · exact List.pairwise_iff_getElem.1 h i j (by omega) hj' h1
    · have : i = j := by omega
      subst this; exact Int.le_refl _
  obtain ⟨h1, h2, h3⟩ := compact_sorted L.toArray hs L.length (by simp)
  refine ⟨h1, fun x => ⟨fun hx => ?_, fun hx => ?_⟩⟩
  · obtain ⟨j, hj, rfl⟩ := h2 x hx
    rw [getElem!_pos _ _ (by simpa using hj)]
    simp
  · obtain ⟨j, hj, rfl⟩ := List.getElem_of_mem hx
    have := h3 j hj
    rw [getElem!_pos _ _ (by simpa using hj)] at this
    show _ ∈ compactUpTo L.toArray L.length
    simpa using this
theorem compact_le (L : List Int) : (Lib.compact L).length ≤ L.length := by
  unfold Lib.compact compactUpTo
  rw [List.length_map]
  have := List.length_filter_le (keeps L.toArray) (List.range L.length)
  simpa using this
theorem compact_own {w : World} {g cap : Nat} {L : List Int} (h : ERow elI w g cap L) (hl : L.length ≤ 1000000) :
    Calls Try.prog 62 #[.slice (some ⟨g, 0, none⟩) L.length cap] w fun e w' => e = .returned (.slice (some ⟨g, 0, none⟩) (Lib.compact L).length cap) ∧ ERow elI w' g cap (Lib.compact L) ∧ w.grownBy w' (some g) := by
  obtain ⟨cur, hb, hs, h1, h2, h3⟩ := h
  have h4 : cur.toList.take L.length = L.map (Value.int .i64) := by
    have e : elI.k = 1 := rfl
    rw [e, Nat.mul_one, elI_encs] at h3
    exact h3
  refine (Try.slices_Compact_int g 0 cap L w (holds_of_blockI hb h4) (by omega) h1).mono ?_
  rintro e w' ⟨rfl, q, rfl⟩
  have hc := compact_le L
  have hg : ∀ d : Array Int, putRow (Value.int .i64) (Sort.ahead w q) g 0 d = grow (putRow (Value.int .i64) (Sort.ahead w q) g 0 d) #[] := fun d => (grow_empty _).symm
  rw [hg]
  refine ⟨rfl, ⟨_, heap_sortedI _ hb, ?_, by omega, h2, ?_⟩, grownBy_sortedI _⟩
  · have e : elI.k = 1 := rfl
    rw [e] at hs ⊢
    simp [putCells, hs]
  · have e : elI.k = 1 := rfl
    rw [e] at hs
    rw [e, Nat.mul_one, elI_encs]
    have h5 := take_putCellsI cur (Lib.compact L ++ List.replicate (L.length - (Lib.compact L).length) 0) (by simp; omega)
    have h6 := congrArg (List.take (Lib.compact L).length) h5
    rw [List.take_take] at h6
    have h7 : min (Lib.compact L).length (Lib.compact L ++ List.replicate (L.length - (Lib.compact L).length) 0).length = (Lib.compact L).length := by simp
    rw [h7] at h6
    rw [h6, List.map_append, List.take_append_of_le_length (by simp)]
    exact List.take_of_length_le (by simp)
end Go.Proofs.Ytimfcgnnfgoaaaa
