/- Texts: GzU, GzV, GzW. -/
import Derived.Test.YtmgamlpjgghieaaGreatDoorZbGzMM
import Derived.Test.YtmgamlpjgghieaaGreatDoorShelf
import Derived.Test.YtmgamlpjgghieaaGreatDoorSortLay
import Derived.Sort.OwnSortedInts
namespace Go.Proofs.YtmgamlpjgghieaaGreatDoor
section
set_option linter.unusedVariables false
set_option linter.unusedSimpArgs false
open Go.RowKit Go.Sort Go.Shelf Go.Lib
section
variable {α β : Type} [Inhabited β] {E : El α}
theorem flat_encs (hE : E.Ok) (f : β → α) (M : List β) : (flatK (fun b => E.enc (f b)) E.k M.toArray).toList = E.encs (M.map f) := by
  have hl : (E.encs (M.map f)).length = M.length * E.k := by rw [El.encs_length hE]; simp
  apply List.ext_getElem
  · simp [hl]
  · intro t h1 h2
    have ht : t < M.length * E.k := by rw [← hl]; exact h2
    have hp := hE.pos
    have hi : t / E.k < M.length := (Nat.div_lt_iff_lt_mul hp).2 ht
    have hm : t % E.k < E.k := Nat.mod_lt _ hp
    have hdm : t / E.k * E.k + t % E.k = t := by rw [Nat.mul_comm]; exact Nat.div_add_mod t E.k
    have g := El.encs_get hE (M.map f) (t / E.k) (t % E.k) (f M[t / E.k]) (by simp [hi]) hm
    rw [hdm, List.getElem?_eq_getElem h2, List.getElem?_eq_getElem (by rw [hE.len]; exact hm)] at g
    have e := get_flatK (fun b => E.enc (f b)) E.k M.toArray t (by simpa using ht)
    have h1' : t < (flatK (fun b => E.enc (f b)) E.k M.toArray).size := by simpa using ht
    rw [getElem!_pos _ t h1'] at e
    rw [Array.getElem_toList, e]
    simp only [Option.some.injEq] at g
    rw [g]
    have e2 : M.toArray[t / E.k]! = M[t / E.k] := by rw [getElem!_pos _ _ (by simpa using hi)]; simp
    rw [e2, getElem!_pos _ _ (by rw [hE.len]; exact hm)]
theorem row_holdsK (hE : E.Ok) {f : β → α} {w : World} {g cap : Nat} {M : List β} (h : ERow E w g cap (M.map f)) : HoldsK (fun b => E.enc (f b)) E.k w g 0 M.toArray := by
  obtain ⟨cur, hb, hs, h1, h2, h3⟩ := h
  rw [List.length_map] at h1 h3
  intro j hj
  have hj' : j < M.length * E.k := by simpa using hj
  refine ⟨?_, hb.frozen _⟩
  rw [Nat.zero_add, hb.cell, getElem!_pos _ j hj]
  rw [← flat_encs hE f M] at h3
  have e : (cur.toList.take (M.length * E.k))[j]? = (flatK (fun b => E.enc (f b)) E.k M.toArray).toList[j]? := by rw [h3]
  rw [List.getElem?_take_of_lt hj', Array.getElem?_toList, Array.getElem?_toList, Array.getElem?_eq_getElem hj] at e
  exact e
theorem heap_sortedK {enc : β → List Value} {k : Nat} {w : World} {g n : Nat} {os : Array Obj} {cur : Array Value} {e : TypeId} {fr : Nat × Nat} (d : Array β) (hb : w.heap[g]? = some (.cells cur e fr)) :
    (sortWorldK enc k w g 0 n d os).heap[g]? = some (.cells (putCells id 0 (flatK enc k d) cur) e fr) := by
  have hg : g < w.heap.size := (Array.getElem?_eq_some_iff.1 hb).1
  unfold sortWorldK putRowK
  rw [heap_grow_old _ _ (by simpa using hg)]
  simp [putRow, mapBlock, Sort.ahead, Array.getElem?_modify, hb, onCells]
theorem grownBy_sortedK {enc : β → List Value} {k : Nat} {w : World} {g n : Nat} {os : Array Obj} (d : Array β) : w.grownBy (sortWorldK enc k w g 0 n d os) (some g) := by
  refine ⟨rfl, rfl, rfl, by simp [sortWorldK, putRowK], fun j hj hne => ?_⟩
  unfold sortWorldK putRowK
  rw [heap_grow_old _ _ (by simpa using hj)]
  have : g ≠ j := fun e => hne (by rw [e])
  simp [putRow, mapBlock, Sort.ahead, Array.getElem?_modify, this]
theorem row_sortedK (hE : E.Ok) {f : β → α} {w : World} {g cap n : Nat} {os : Array Obj} {M M' : List β} (h : ERow E w g cap (M.map f)) (hl : M'.length = M.length) : ERow E (sortWorldK (fun b => E.enc (f b)) E.k w g 0 n M'.toArray os) g cap (M'.map f) := by
  obtain ⟨cur, hb, hs, h1, h2, h3⟩ := h
  rw [List.length_map] at h1 h3
  refine ⟨_, heap_sortedK _ hb, by simp [putCells, hs], by rw [List.length_map]; omega, h2, ?_⟩
  rw [List.length_map, ← flat_encs hE f M']
  have hk : M'.length * E.k ≤ cur.size := by rw [hs, hl]; exact Nat.mul_le_mul_right _ h1
  apply List.ext_getElem?
  intro j
  by_cases hj : j < M'.length * E.k
  · have h9 : j < cur.size := by omega
    rw [List.getElem?_take_of_lt hj, Array.getElem?_toList, Array.getElem?_toList]
    simp [putCells, h9, hj]
  · rw [List.getElem?_take_eq_none (by omega), List.getElem?_eq_none (by simp; omega)]
end
set_option maxHeartbeats 1000000 in
theorem compare_exact (a b : Ed) (w : World) : Calls Tryz.prog 91 #[.agg (elEd.enc a).toArray, .agg (elEd.enc b).toArray] w fun e w' => e = .returned (.int .i64 (wrap64 (a.x - b.x))) ∧ (w.alloc (.cells (elEd.enc a).toArray 126)).alloc (.cells (elEd.enc b).toArray 126) = w' := by
  simp only [elEd]
  go_enter Tryz.func91, Tryz.ntmps91
  go_wp2_with fail
  go_ret
  exact ⟨rfl, rfl⟩
/-- An edge whose x is one of the grid's. -/
abbrev EnS : Type := { e : Ed // 0 ≤ e.x ∧ e.x ≤ 65536 }
instance : Inhabited EnS := ⟨⟨⟨0, 0, 0, 0, 0, 0⟩, by decide⟩⟩
def cfE (a b : EnS) : Int := wrap64 (a.1.x - b.1.x)
theorem cfE_lt (a b : EnS) : ltOf cfE a b = decide (a.1.x < b.1.x) := by
  have h1 := a.2
  have h2 := b.2
  have e : cfE a b = a.1.x - b.1.x := by unfold cfE wrap64; omega
  unfold ltOf
  rw [e, decide_eq_decide]
  omega
theorem cfE_swo : SWO (ltOf cfE) where
  irrefl x := by rw [cfE_lt]; simp
  trans x y z h1 h2 := by rw [cfE_lt] at *; simp at *; omega
  ntrans x y z h1 h2 := by rw [cfE_lt] at *; simp at *; omega
theorem cfE_lays (blk off size : Nat) (w : World) : CmpLays Tryz.prog 91 #[] (fun e : EnS => elEd.enc e.1) 6 cfE blk off size w :=
  fun m os dk _ x y => (compare_exact x.1 y.1 _).mono fun e w' ⟨he, hw⟩ => by
    subst hw
    exact ⟨he, 0, _, by rw [alloc_eq_grow, alloc_eq_grow, grow_grow]; rfl⟩
theorem enS_of : ∀ L : List Ed, (∀ e ∈ L, 0 ≤ e.x ∧ e.x ≤ 65536) → ∃ M : List EnS, M.map (·.1) = L
  | [], _ => ⟨[], rfl⟩
  | e :: L, h => by
    obtain ⟨M, hM⟩ := enS_of L fun d hd => h d (by simp [hd])
    exact ⟨⟨e, h e (by simp)⟩ :: M, by rw [List.map_cons, hM]⟩
theorem sortE_own {w : World} {g cap : Nat} {L : List Ed} (h : ERow elEd w g cap L) (hl : L.length ≤ 1000000) (hx : ∀ e ∈ L, 0 ≤ e.x ∧ e.x ≤ 65536) :
    Calls Tryz.prog 90 #[.slice (some ⟨g, 0, none⟩) L.length cap, .func (.func 91) #[] #[]] w fun e w' => e = .returned (.tuple #[]) ∧ ∃ L', L'.Perm L ∧ L'.Pairwise (fun d e => d.x ≤ e.x) ∧ EOwn elEd w' (.slice (some ⟨g, 0, none⟩) L.length cap) L' ∧ w.grownBy w' (some g) := by
  obtain ⟨M, rfl⟩ := enS_of L hx
  have hlt := h.lt
  have hk : ∀ x : EnS, (elEd.enc x.1).length = 6 := fun _ => rfl
  have h1 : ∀ x : EnS, ∀ v ∈ elEd.enc x.1, v.oneCell' = true := fun x => elEd_ok.one x.1
  have eg : ∀ args w, (callFunc 91 args).run Tryz.prog w = .ok (.enter 91 args) w := enters_of Tryz.func91 (by kernel_rfl) rfl
  have hH := row_holdsK elEd_ok h
  have hcon := AnyQ.slices_SortFunc Tryz.laysSF 6 (fun w => by kernel_rfl) (fun w => by kernel_rfl) (fun e : EnS => elEd.enc e.1) hk h1 cfE cfE_swo 91 #[] g 0 cap M.toArray w eg (cfE_lays _ _ _ _) hH hlt (by simp at hl ⊢; omega)
  have hn : (M.map (·.1)).length = M.toArray.size := by simp
  rw [hn]
  refine (show Calls Tryz.prog 90 _ w _ from hcon).mono ?_
  rintro e w' ⟨rfl, d', n, os, ⟨hp1, hp2, hp3⟩, hs, rfl⟩
  have hsz : d'.size = M.length := by rw [hp1]; simp
  have hd : d'.toList.toArray = d' := by simp
  have hperm : d'.toList.Perm M := by
    have e1 : d'.extract 0 M.toArray.size = d' := by rw [← hp1]; exact Array.extract_size
    have e2 : M.toArray.extract 0 M.toArray.size = M.toArray := Array.extract_size
    rw [e1, e2] at hp3
    exact hp3
  refine ⟨rfl, d'.toList.map (·.1), hperm.map _, ?_, ?_, grownBy_sortedK _⟩
  · rw [List.pairwise_map, List.pairwise_iff_getElem]
    intro i j hi hj hij
    have := hs i j (Nat.zero_le _) hij (by simp at hj ⊢; omega)
    rw [cfE_lt] at this
    simp at hi hj
    rw [getElem!_pos d' i hi, getElem!_pos d' j hj] at this
    simp at this
    simpa using this
  · have hr := row_sortedK (n := n) (os := os) elEd_ok h (M' := d'.toList) (by simp [hsz])
    rw [hd] at hr
    refine .inr ⟨g, cap, ?_, hr⟩
    simp [hsz]
/-- slices.Sort of a row of the call's own. -/
theorem elI_encs (L : List Int) : elI.encs L = L.map (Value.int .i64) := by
  induction L with
  | nil => rfl
  | cons x r ih => rw [List.map_cons, ← ih]; rfl
theorem sort_own {w : World} {g cap : Nat} {L : List Int} (h : ERow elI w g cap L) (hl : L.length ≤ 1000000) :
    Calls Tryz.prog 101 #[.slice (some ⟨g, 0, none⟩) L.length cap] w fun e w' => e = .returned (.tuple #[]) ∧ ERow elI w' g cap (L.mergeSort fun x y => decide (x ≤ y)) ∧ w.grownBy w' (some g) := by
  obtain ⟨cur, hb, hs, h1, h2, h3⟩ := h
  have h4 : cur.toList.take L.length = L.map (Value.int .i64) := by
    have e : elI.k = 1 := rfl
    rw [e, Nat.mul_one, elI_encs] at h3
    exact h3
  refine (Tryz.slices_Sort_int g 0 cap L w (holds_of_blockI hb h4) hb.lt (by omega)).mono ?_
  rintro e w' ⟨rfl, n, os, rfl⟩
  have hk : (L.mergeSort fun x y => decide (x ≤ y)).length = L.length := List.length_mergeSort _
  refine ⟨rfl, ⟨_, heap_sortedI _ hb, ?_, by rw [hk]; exact h1, h2, ?_⟩, grownBy_sortedI _⟩
  · have e : elI.k = 1 := rfl
    rw [e] at hs ⊢
    simp [putCells, hs]
  · have e : elI.k = 1 := rfl
    rw [e, Nat.mul_one, elI_encs]
    exact take_putCellsI cur _ (by have e : elI.k = 1 := rfl; rw [e] at hs; omega)
/-- What Compact leaves of a row that is sorted. -/
theorem compact_sorted (d : Array Int) (hs : ∀ i j, i ≤ j → j < d.size → d[i]! ≤ d[j]!) : ∀ m, m ≤ d.size → (compactUpTo d m).Pairwise (· < ·) ∧ (∀ x ∈ compactUpTo d m, ∃ j, j < m ∧ x = d[j]!) ∧ ∀ j, j < m → d[j]! ∈ compactUpTo d m
  | 0, _ => ⟨by simp [compactUpTo], by simp [compactUpTo], fun j hj => by omega⟩
  | m + 1, hm => by
    obtain ⟨h1, h2, h3⟩ := compact_sorted d hs m (by omega)
    rw [compactUpTo_succ]
    by_cases hk : keeps d m = true
    · rw [if_pos hk]
      refine ⟨?_, fun x hx => ?_, fun j hj => ?_⟩
      · rw [List.pairwise_append]
        refine ⟨h1, by simp, fun x hx y hy => ?_⟩
        simp at hy; subst hy
        obtain ⟨j, hj, rfl⟩ := h2 x hx
        have h4 := hs j (m - 1) (by omega) (by omega)
        have h5 := hs (m - 1) m (by omega) (by omega)
        have h6 : d[m]! ≠ d[m - 1]! := by
          simp only [keeps, decide_eq_true_eq] at hk
          rcases hk with hk | hk
          · omega
          · exact hk
        omega
      · rcases List.mem_append.1 hx with hx | hx
        · obtain ⟨j, hj, e⟩ := h2 x hx; exact ⟨j, by omega, e⟩
        · simp at hx; exact ⟨m, by omega, hx⟩
      · by_cases e : j = m
        · subst e; simp
        · exact List.mem_append_left _ (h3 j (by omega))
    · rw [if_neg hk, List.append_nil]
      have hk2 : 0 < m ∧ d[m]! = d[m - 1]! := by
        simp only [keeps, decide_eq_true_eq] at hk
        refine ⟨?_, ?_⟩
        · rcases Nat.eq_zero_or_pos m with e | e
          · exact absurd (.inl e) hk
          · exact e
        · exact Classical.byContradiction fun h => hk (.inr h)
      refine ⟨h1, fun x hx => ?_, fun j hj => ?_⟩
      · obtain ⟨j, hj, e⟩ := h2 x hx; exact ⟨j, by omega, e⟩
      · by_cases e : j = m
        · subst e; rw [hk2.2]; exact h3 _ (by omega)
        · exact h3 j (by omega)
theorem compact_of_sorted {L : List Int} (h : L.Pairwise (· ≤ ·)) : (Lib.compact L).Pairwise (· < ·) ∧ ∀ x, x ∈ Lib.compact L ↔ x ∈ L := by
  have hs : ∀ i j, i ≤ j → j < L.toArray.size → L.toArray[i]! ≤ L.toArray[j]! := by
    intro i j hij hj
    have hj' : j < L.length := by simpa using hj
    rw [getElem!_pos _ i (by simp; omega), getElem!_pos _ j hj]
    simp only [List.getElem_toArray]
    rcases Nat.lt_or_ge i j with h1 | h1
    · exact List.pairwise_iff_getElem.1 h i j (by omega) hj' h1
    · have : i = j := by omega
      subst this; exact Int.le_refl _
  obtain ⟨h1, h2, h3⟩ := compact_sorted L.toArray hs L.length (by simp)
  refine ⟨h1, fun x => ⟨fun hx => ?_, fun hx => ?_⟩⟩
  · obtain ⟨j, hj, rfl⟩ := h2 x hx
    rw [getElem!_pos _ _ (by simpa using hj)]
    simp
  · obtain ⟨j, hj, rfl⟩ := List.getElem_of_mem hx
    have := h3 j hj
    rw [getElem!_pos _ _ (by simpa using hj)] at this
    show _ ∈ compactUpTo L.toArray L.length
    simpa using this
theorem compact_le (L : List Int) : (Lib.compact L).length ≤ L.length := by
  unfold Lib.compact compactUpTo
  rw [List.length_map]
  have := List.length_filter_le (keeps L.toArray) (List.range L.length)
  simpa using this
theorem compact_own {w : World} {g cap : Nat} {L : List Int} (h : ERow elI w g cap L) (hl : L.length ≤ 1000000) :
    Calls Tryz.prog 102 #[.slice (some ⟨g, 0, none⟩) L.length cap] w fun e w' => e = .returned (.slice (some ⟨g, 0, none⟩) (Lib.compact L).length cap) ∧ ERow elI w' g cap (Lib.compact L) ∧ w.grownBy w' (some g) := by
  obtain ⟨cur, hb, hs, h1, h2, h3⟩ := h
  have h4 : cur.toList.take L.length = L.map (Value.int .i64) := by
    have e : elI.k = 1 := rfl
    rw [e, Nat.mul_one, elI_encs] at h3
    exact h3
  refine (Tryz.slices_Compact_int g 0 cap L w (holds_of_blockI hb h4) (by omega) h1).mono ?_
  rintro e w' ⟨rfl, q, rfl⟩
  have hc := compact_le L
  have hg : ∀ d : Array Int, putRow (Value.int .i64) (Sort.ahead w q) g 0 d = grow (putRow (Value.int .i64) (Sort.ahead w q) g 0 d) #[] := fun d => (grow_empty _).symm
  rw [hg]
  refine ⟨rfl, ⟨_, heap_sortedI _ hb, ?_, by omega, h2, ?_⟩, grownBy_sortedI _⟩
  · have e : elI.k = 1 := rfl
    rw [e] at hs ⊢
    simp [putCells, hs]
  · have e : elI.k = 1 := rfl
    rw [e] at hs
    rw [e, Nat.mul_one, elI_encs]
    have h5 := take_putCellsI cur (Lib.compact L ++ List.replicate (L.length - (Lib.compact L).length) 0) (by simp; omega)
    have h6 := congrArg (List.take (Lib.compact L).length) h5
    rw [List.take_take] at h6
    have h7 : min (Lib.compact L).length (Lib.compact L ++ List.replicate (L.length - (Lib.compact L).length) 0).length = (Lib.compact L).length := by simp
    rw [h7] at h6
    rw [h6, List.map_append, List.take_append_of_le_length (by simp)]
    exact List.take_of_length_le (by simp)
end
section
set_option linter.unusedVariables false
set_option linter.unusedSimpArgs false
open Go.RowKit
theorem FE.nil2 {α : Type} {E : El α} (w wr : World) (h : Below w.heap.size w wr) : FE E w (.slice none 0 0) [] wr := ⟨EOwn.nil_ _, h, fun i hi => by simp [Value.ownBlock] at hi⟩
theorem FE.up {α : Type} {E : El α} {w w1 wr : World} {v : Value} {L : List α} (h : FE E w1 v L wr) (hb : Below w.heap.size w w1) : FE E w v L wr := ⟨h.own, below_trans hb h.bel, fun i hi => Nat.le_trans hb.size (h.far i hi)⟩
theorem FE.app {α : Type} {E : El α} {w wr w' : World} {v v' : Value} {L M : List α} (h : FE E w v L wr) (ha : EApp E v M wr v' w') : FE E w v' M w' := by
  obtain ⟨h1, h2, h3⟩ := ha
  refine ⟨h1, h.bel.grown h2 h.bel.size h.far, fun i hi => ?_⟩
  rcases h3 i hi with h4 | h4
  · exact h.far i h4
  · have := h.bel.size; omega
theorem ERd.shape6 {α : Type} {E : El α} {w : World} {v : Value} {L : List α} (h : ERd E w v L) : ∃ A c, v = .slice A L.length c ∧ L.length ≤ c ∧ c ≤ maxLen := by
  obtain ⟨A, c, rfl, h1, h2, _⟩ := h
  exact ⟨A, c, rfl, h1, h2⟩
theorem ERd.endE {w : World} {A : Option Addr} {n c : Nat} {L : List Ed} (h : ERd elEd w (.slice A n c) L) {i : Nat} {x : Ed} (hi : L[i]? = some x) : ∃ g o, A = some ⟨g, o, none⟩ ∧ g < w.heap.size ∧
    w.cell? ⟨g, o + i * 6, none⟩ = some (.int .i64 x.x) ∧ w.cell? ⟨g, o + i * 6 + 1, none⟩ = some (.int .i64 x.f) ∧ w.cell? ⟨g, o + i * 6 + 2, none⟩ = some (.int .i64 x.t) ∧ w.cell? ⟨g, o + i * 6 + 3, none⟩ = some (.int .i64 x.k) ∧ w.cell? ⟨g, o + i * 6 + 4, none⟩ = some (.int .i64 x.z) ∧ w.cell? ⟨g, o + i * 6 + 5, none⟩ = some (.int .i64 x.s) := by
  obtain ⟨g, o, rfl, hc⟩ := h.cell hi
  have h0 := hc 0 _ rfl
  exact ⟨g, o, rfl, World.block_lt_of_cell? w _ h0, h0, hc 1 _ rfl, hc 2 _ rfl, hc 3 _ rfl, hc 4 _ rfl, hc 5 _ rfl⟩
set_option maxHeartbeats 1000000 in
theorem insI_nil (w : World) : Calls Tryz.prog 121 #[.slice none 0 0, .int .i64 0, .int .i64 0] w fun e w' => e = .returned (.tuple #[]) ∧ w = w' := by
  go_enter Tryz.func121, Tryz.ntmps121
  go_wp2_with fail
  refine wp_loop_rounds 1 ?_
  rw [rounds_succ]
  go_wp2_with fail
  go_end0
  exact ⟨rfl, rfl⟩
set_option maxHeartbeats 1000000 in
theorem pdqI_nil (l : Int) (w : World) : Calls Tryz.prog 109 #[.slice none 0 0, .int .i64 0, .int .i64 0, .int .i64 l] w fun e w' => e = .returned (.tuple #[]) ∧ w = w' := by
  go_enter Tryz.func109, Tryz.ntmps109
  go_wp2_with fail
  refine wp_loop_rounds 1 ?_
  rw [rounds_succ]
  go_wp2_with fail
  refine (insI_nil _).mono ?_
  rintro e w1 ⟨rfl, hw⟩
  subst hw
  go_wp2_with fail
  refine bodyPost_ret (v := .tuple #[]) ?_ rfl ⟨rfl, rfl⟩
  simp [results, Tryz.results109, go_sem]
set_option maxHeartbeats 1000000 in
theorem sortI_nil (w : World) : Calls Tryz.prog 101 #[.slice none 0 0] w fun e w' => e = .returned (.tuple #[]) ∧ w = w' := by
  go_enter Tryz.func101, Tryz.ntmps101
  go_wp2_with fail
  refine (Tryz.bits_Len 0 w (by omega) (by omega)).mono ?_
  rintro e w1 ⟨rfl, hw⟩
  subst hw
  go_wp2_with fail
  refine (pdqI_nil _ _).mono ?_
  rintro e w1 ⟨rfl, hw⟩
  subst hw
  go_wp2_with fail
  go_end0
  exact ⟨rfl, rfl⟩
set_option maxHeartbeats 1000000 in
theorem insE_nil (F : Value) (w : World) : Calls Tryz.prog 111 #[.slice none 0 0, .int .i64 0, .int .i64 0, F] w fun e w' => e = .returned (.tuple #[]) ∧ w = w' := by
  go_enter Tryz.func111, Tryz.ntmps111
  go_wp2_with fail
  refine wp_loop_rounds 1 ?_
  rw [rounds_succ]
  go_wp2_with fail
  go_end0
  exact ⟨rfl, rfl⟩
set_option maxHeartbeats 1000000 in
theorem pdqE_nil (l : Int) (F : Value) (w : World) : Calls Tryz.prog 107 #[.slice none 0 0, .int .i64 0, .int .i64 0, .int .i64 l, F] w fun e w' => e = .returned (.tuple #[]) ∧ w = w' := by
  go_enter Tryz.func107, Tryz.ntmps107
  go_wp2_with fail
  refine wp_loop_rounds 1 ?_
  rw [rounds_succ]
  go_wp2_with fail
  refine (insE_nil _ _).mono ?_
  rintro e w1 ⟨rfl, hw⟩
  subst hw
  go_wp2_with fail
  refine bodyPost_ret (v := .tuple #[]) ?_ rfl ⟨rfl, rfl⟩
  simp [results, Tryz.results107, go_sem]
set_option maxHeartbeats 1000000 in
theorem sortE_nil (F : Value) (w : World) : Calls Tryz.prog 90 #[.slice none 0 0, F] w fun e w' => e = .returned (.tuple #[]) ∧ w = w' := by
  go_enter Tryz.func90, Tryz.ntmps90
  go_wp2_with fail
  refine (Tryz.bits_Len 0 w (by omega) (by omega)).mono ?_
  rintro e w1 ⟨rfl, hw⟩
  subst hw
  go_wp2_with fail
  refine (pdqE_nil _ _ _).mono ?_
  rintro e w1 ⟨rfl, hw⟩
  subst hw
  go_wp2_with fail
  go_end0
  exact ⟨rfl, rfl⟩
/-- The rows of edges. -/
def rowsB (e : Ed) : List Int := [e.f, e.t + 1]
def rowsM (E : List Ed) : List Int := E.flatMap rowsB
theorem rowsM_len (E : List Ed) : (rowsM E).length = 2 * E.length := by
  induction E with
  | nil => rfl
  | cons e E ih =>
    have h : rowsM (e :: E) = rowsB e ++ rowsM E := rfl
    rw [h, List.length_append, ih]; simp [rowsB]; omega
theorem rowsM_mem (E : List Ed) (u : Int) : u ∈ rowsM E ↔ ∃ e ∈ E, u = e.f ∨ u = e.t + 1 := by
  unfold rowsM
  rw [List.mem_flatMap]
  exact ⟨fun ⟨e, he, h⟩ => ⟨e, he, by simpa [rowsB] using h⟩, fun ⟨e, he, h⟩ => ⟨e, he, by simpa [rowsB] using h⟩⟩
/-- Rows, rising, each once. -/
structure RowsIs (E : List Ed) (ys : List Int) : Prop where
  lt : ys.Pairwise (· < ·)
  mem : ∀ u, u ∈ ys ↔ ∃ e ∈ E, u = e.f ∨ u = e.t + 1
  len : ys.length ≤ 2 * E.length
theorem rowsIs_of (E : List Ed) : RowsIs E (Lib.compact ((rowsM E).mergeSort fun x y => decide (x ≤ y))) := by
  have hp := List.mergeSort_perm (rowsM E) fun x y => decide (x ≤ y)
  have h1 : ((rowsM E).mergeSort fun x y => decide (x ≤ y)).Pairwise (· ≤ ·) := (List.pairwise_mergeSort (le := fun x y : Int => decide (x ≤ y)) (fun a b c h1 h2 => by simp at h1 h2 ⊢; omega) (fun a b => by simp; omega) (rowsM E)).imp fun h => by simpa using h
  obtain ⟨h2, h3⟩ := compact_of_sorted h1
  refine ⟨h2, fun u => by rw [h3, hp.mem_iff, rowsM_mem], ?_⟩
  have := compact_le ((rowsM E).mergeSort fun x y => decide (x ≤ y))
  rw [List.length_mergeSort, rowsM_len] at this
  exact this
set_option maxRecDepth 100000 in
set_option maxHeartbeats 4000000 in
theorem turns_any (w : World) (v : Value) (E : List Ed) (h : ERd elEd w v E) (hl : E.length ≤ 100000) (hr : ∀ e ∈ E, 0 ≤ e.f ∧ e.t ≤ 65535 ∧ e.f ≤ e.t) :
    Calls Tryz.prog 87 #[v] w fun e w' => ∃ v' ys, e = .returned v' ∧ FE elI w v' ys w' ∧ RowsIs E ys := by
  obtain ⟨A1, c1, rfl, -, -⟩ := h.shape6
  have HL := Lib.hid h
  have HR := Lib.hid hr
  clear h hr
  have HTY := Lib.hid (show Tryz.prog.underlying 60 = some (.slice elI.T) from Tryz.underlying60)
  obtain ⟨n, hn⟩ : ∃ n, n = E.length := ⟨_, rfl⟩
  rw [← hn] at HL hl ⊢
  have HN := Lib.hid hn; clear hn
  go_enter Tryz.func87, Tryz.ntmps87
  go_wp2_with fail
  go_loopw [3, 8] (fun v i wr => ∃ (j : Nat) (v0 : Value), j ≤ n ∧ v = v0 ∧ i = .int .i64 j ∧ Hid (FE elI w v0 (rowsM (E.take j)) wr)) (fun _ i _ => n - (intOf i).toNat)
  case atStart => exact ⟨0, _, Nat.zero_le _, rfl, rfl, by simpa [Hid, rowsM] using FE.nil_ (E := elI) w⟩
  case round =>
    rename World => wr
    obtain ⟨j, v0, hj, hv, rfl, HF⟩ := hrel
    have hv' := hv.symm
    clear hv
    subst hv'
    by_cases hlt : j < n
    · have hji : (j : Int) < (n : Int) := by omega
      have hkl : j < E.length := by rw [← HN.out]; exact hlt
      have hx : E[j]? = some E[j] := List.getElem?_eq_getElem hkl
      have hrx := HR.out _ (List.getElem_mem hkl)
      have HTK := Lib.hid (show rowsM (E.take (j + 1)) = rowsM (E.take j) ++ rowsB E[j] by rw [List.take_succ_eq_append_getElem hkl]; unfold rowsM; rw [List.flatMap_append, List.flatMap_singleton])
      have HLE := Lib.hid (show (rowsM (E.take j)).length + 2 ≤ 300000 by rw [rowsM_len, List.length_take]; omega)
      obtain ⟨g, o, rfl, hg, a0, a1, a2, a3, a4, a5⟩ := (HL.out.below HF.out.bel).endE hx
      generalize E[j] = x at *
      clear hx hg
      obtain ⟨x0, x1, x2, x3, x4, x5⟩ := x
      simp only at a0 a1 a2 a3 a4 a5 hrx HTK
      have hw1 : wrap64 (x2 + 1) = x2 + 1 := by unfold wrap64; omega
      clear hrx
      generalize hEL : rowsM (E.take j) = EL at *
      clear hEL
      have hB1 : Below wr.heap.size wr (wr.alloc (.cells #[.int .i64 x0, .int .i64 x1, .int .i64 x2, .int .i64 x3, .int .i64 x4, .int .i64 x5] 126)) := (Below.refl _ _).alloc (Nat.le_refl _) _
      have HF1 := Lib.hid (HF.out.below hB1)
      have HZ1 := Lib.hid (show (wr.alloc (.cells #[.int .i64 x0, .int .i64 x1, .int .i64 x2, .int .i64 x3, .int .i64 x4, .int .i64 x5] 126)).heap.size = wr.heap.size + 1 by simp)
      clear hB1 HF
      obtain ⟨A5, c5, rfl, -, -⟩ := HF1.out.own.slice
      have HRE := Lib.hid (show Reads ((wr.alloc (.cells #[.int .i64 x0, .int .i64 x1, .int .i64 x2, .int .i64 x3, .int .i64 x4, .int .i64 x5] 126)).alloc (.cells #[.int .i64 x1, .int .i64 (x2 + 1)] 3)) ((wr.alloc (.cells #[.int .i64 x0, .int .i64 x1, .int .i64 x2, .int .i64 x3, .int .i64 x4, .int .i64 x5] 126)).alloc (.cells #[.int .i64 x1, .int .i64 (x2 + 1)] 3)).heap.size elI.k (some ⟨wr.heap.size + 1, 0, none⟩) (rowsB ⟨x0, x1, x2, x3, x4, x5⟩).length (elI.encs (rowsB ⟨x0, x1, x2, x3, x4, x5⟩)) from
        (EOwn.block (M := rowsB ⟨x0, x1, x2, x3, x4, x5⟩) elI_ok (Blk.newAt HZ1.out) rfl (by simp [rowsB])).reads elI_ok)
      have HAL := Lib.hid (fun (o : Obj) => HF1.out.below ((Below.refl _ _).alloc (Nat.le_refl _) o))
      go_wp2_with ((at_builtin; refine wpList_eappr2 (e2 := 3) elI_ok rfl (.tmp 12) (.tmp 18) 60 60 rfl HTY.out HTY.out _ EL (rowsB ⟨x0, x1, x2, x3, x4, x5⟩) (some ⟨wr.heap.size + 1, 0, none⟩) 2 rfl rfl (HAL.out _).own HRE.out (by have := HLE.out; simp only [maxLen, rowsB, List.length_cons, List.length_nil]; omega) (by have := HLE.out; simp only [elI, rowsB, List.length_cons, List.length_nil]; omega) ?_; intro v2 w3 hA2; have HP2 := Lib.hid ((HAL.out _).app hA2); clear hA2))
      go_roundw
      case rel => exact ⟨j + 1, _, by omega, rfl, by go_num, by have h9 := HP2.out; rw [← HTK.out] at h9; exact h9⟩
      case measure => simp [intOf]; omega
    · obtain rfl : j = n := by omega
      have HZ := Lib.hid (show FE elI w v0 (rowsM E) wr by have h9 := HF.out; rw [List.take_of_length_le (by rw [← HN.out]; omega)] at h9; exact h9)
      have HLE := Lib.hid (show (rowsM E).length ≤ 1000000 by rw [rowsM_len, ← HN.out]; omega)
      have HIS := Lib.hid (rowsIs_of E)
      clear HF
      rcases HZ.out.own with ⟨hv, h0⟩ | ⟨g, cap, hv, hrow⟩
      · have hv' := hv
        subst hv'
        clear hv
        have HIS2 := Lib.hid (show RowsIs E [] by have h9 := HIS.out; rw [h0] at h9; simpa [Lib.compact, Lib.compactUpTo] using h9)
        have HFN := Lib.hid (FE.nil2 (E := elI) w wr HZ.out.bel)
        clear h0 HIS HZ
        go_wp2_with fail
        refine (sortI_nil _).mono ?_
        rintro e w2 ⟨rfl, hw⟩
        subst hw
        go_wp2_with fail
        refine (Tryz.slices_Compact_int_empty _ _ _).mono ?_
        rintro e w2 ⟨rfl, hw⟩
        subst hw
        go_wp2
        go_ret
        exact ⟨_, _, rfl, HFN.out, HIS2.out⟩
      · have hv' := hv
        subst hv'
        clear hv
        have HSO := Lib.hid (sort_own hrow HLE.out)
        have HFG := Lib.hid (HZ.out.far g rfl)
        have HBE := Lib.hid HZ.out.bel
        have HLM := Lib.hid (show ((rowsM E).mergeSort fun x y => decide (x ≤ y)).length = (rowsM E).length from List.length_mergeSort _)
        have HCO := Lib.hid (fun W hr => compact_own (w := W) (g := g) (cap := cap) (L := (rowsM E).mergeSort fun x y => decide (x ≤ y)) hr (by rw [HLM.out]; exact HLE.out))
        rw [HLM.out] at HCO
        clear hrow HZ
        generalize ((rowsM E).mergeSort fun x y => decide (x ≤ y)) = SL at *
        generalize (rowsM E).length = m at *
        go_wp2_with fail
        refine HSO.out.mono ?_
        rintro e w2 ⟨rfl, hr2, hg2⟩
        have HB2 := Lib.hid (HBE.out.grown hg2 HBE.out.size (fun i hi => by cases hi; exact HFG.out))
        have HC2 := Lib.hid (HCO.out w2 hr2)
        clear hr2 hg2
        go_wp2_with fail
        refine HC2.out.mono ?_
        rintro e w3 ⟨rfl, hr3, hg3⟩
        have HFIN := Lib.hid (show FE elI w (.slice (some ⟨g, 0, none⟩) (Lib.compact SL).length cap) (Lib.compact SL) w3 from ⟨.inr ⟨g, cap, rfl, hr3⟩, HB2.out.grown hg3 HB2.out.size (fun i hi => by cases hi; exact HFG.out), fun i hi => (by have e : g = i := (by simpa [Value.ownBlock] using hi); exact e ▸ HFG.out)⟩)
        clear hr3 hg3
        go_wp2
        go_ret
        exact ⟨_, _, rfl, HFIN.out, HIS.out⟩
end
section
set_option linter.unusedVariables false
set_option linter.unusedSimpArgs false
open Go.RowKit
def edB (k z : Int) (x : Bx) : List Ed := [⟨x.x0, x.y0, x.y1, k, z, 1⟩, ⟨x.x1 + 1, x.y0, x.y1, k, z, -1⟩]
def edL (k z : Int) (L : List Bx) : List Ed := L.flatMap (edB k z)
def edM (R : List Rc) : List Ed := R.flatMap fun r => edL r.k r.zoom r.bx
theorem edL_snoc (k z : Int) (L : List Bx) (x : Bx) : edL k z (L ++ [x]) = edL k z L ++ edB k z x := by unfold edL; rw [List.flatMap_append, List.flatMap_singleton]
theorem edL_len (k z : Int) (L : List Bx) : (edL k z L).length = 2 * L.length := by
  induction L with
  | nil => rfl
  | cons x L ih =>
    have h : edL k z (x :: L) = edB k z x ++ edL k z L := rfl
    rw [h, List.length_append, ih]; simp [edB]; omega
theorem edM_snoc (R : List Rc) (r : Rc) : edM (R ++ [r]) = edM R ++ edL r.k r.zoom r.bx := by unfold edM; rw [List.flatMap_append, List.flatMap_singleton]
theorem edM_take (R : List Rc) (j : Nat) : (edM (R.take j)).length ≤ (edM R).length := by
  conv => rhs; rw [← List.take_append_drop j R]
  unfold edM
  rw [List.flatMap_append, List.length_append]
  omega
/-- Rows of edges under way, beside a rule's block. -/
structure EdW (w : World) (tr : Nat) (cs : Array Value) (v : Value) (L : List Ed) (wr : World) : Prop where
  fe : FE elEd w v L wr
  ru : Blk wr tr 59 cs
  ne : v.ownBlock ≠ some tr
section
variable {w wr X : World} {tr : Nat} {cs : Array Value} {v : Value} {L : List Ed}
theorem EdW.below (h : EdW w tr cs v L wr) (hb : Below wr.heap.size wr X) : EdW w tr cs v L X := ⟨h.fe.below hb, h.ru.thru0 hb, h.ne⟩
theorem EdW.app {M : List Ed} {v' : Value} (h : EdW w tr cs v L wr) (ha : EApp elEd v M wr v' X) : EdW w tr cs v' M X := by
  refine ⟨h.fe.app ha, h.ru.grown ha.2.1 (fun e => h.ne e.symm), fun e => ?_⟩
  rcases ha.2.2 tr e with h1 | h1
  · exact h.ne h1
  · have := h.ru.lt; omega
end
theorem bx_right {b : Bx} (h : bxR b = true) : 0 ≤ b.x0 ∧ b.x0 ≤ b.x1 ∧ b.x1 ≤ 65535 ∧ 0 ≤ b.y0 ∧ b.y0 ≤ b.y1 ∧ b.y1 ≤ 65535 := by
  have := (rightB_iff _ _ _ _).1 h
  omega
theorem edM_x {R : List Rc} (h : ∀ r ∈ R, ∀ b ∈ r.bx, bxR b = true) : ∀ e ∈ edM R, 0 ≤ e.x ∧ e.x ≤ 65536 := by
  intro e he
  unfold edM edL at he
  obtain ⟨r, hr, he⟩ := List.mem_flatMap.1 he
  obtain ⟨b, hb, he⟩ := List.mem_flatMap.1 he
  have := bx_right (h r hr b hb)
  simp only [edB, List.mem_cons, List.not_mem_nil, or_false] at he
  rcases he with rfl | rfl <;> simp only <;> omega
set_option maxRecDepth 100000 in
set_option maxHeartbeats 8000000 in
theorem edges_any (w : World) (v : Value) (acc : List (Rc × RV)) (h : RRd w v acc) (hl : acc.length ≤ 1000) (hr : ∀ x ∈ acc, ∀ b ∈ x.1.bx, bxR b = true) (he : (edM (acc.map (·.1))).length ≤ 100000) :
    Calls Tryz.prog 76 #[v] w fun e w' => ∃ v' E, e = .returned v' ∧ FE elEd w v' E w' ∧ E.Perm (edM (acc.map (·.1))) ∧ E.Pairwise (fun a b => a.x ≤ b.x) := by
  obtain ⟨A1, c1, rfl, -, -⟩ := h.1.shape6
  have HL := Lib.hid h
  have HR := Lib.hid hr
  have HE := Lib.hid he
  clear h hr he
  have HTY := Lib.hid (show Tryz.prog.underlying 107 = some (.slice elEd.T) from Tryz.underlying107)
  obtain ⟨n, hn⟩ : ∃ n, n = acc.length := ⟨_, rfl⟩
  rw [← hn] at HL hl ⊢
  have HN := Lib.hid hn; clear hn
  go_enter Tryz.func76, Tryz.ntmps76
  go_wp2_with fail
  go_loopw [3, 12] (fun v i wr => ∃ (j : Nat) (v0 : Value), j ≤ n ∧ v = v0 ∧ i = .int .i64 j ∧ Hid (FE elEd w v0 (edM ((acc.take j).map (·.1))) wr)) (fun _ i _ => n - (intOf i).toNat)
  case atStart => exact ⟨0, _, Nat.zero_le _, rfl, rfl, Lib.hid (FE.nil_ (E := elEd) w)⟩
  case round =>
    rename World => wr
    obtain ⟨j, v0, hj, hv, rfl, HF⟩ := hrel
    have hv' := hv.symm
    clear hv
    subst hv'
    by_cases hlt : j < n
    · have hji : (j : Int) < (n : Int) := by omega
      have hkl : j < acc.length := by rw [← HN.out]; exact hlt
      have hx : acc[j]? = some acc[j] := List.getElem?_eq_getElem hkl
      have HTK := Lib.hid (show edM ((acc.take (j + 1)).map (·.1)) = edM ((acc.take j).map (·.1)) ++ edL (acc[j]).1.k (acc[j]).1.zoom (acc[j]).1.bx by rw [List.take_succ_eq_append_getElem hkl, List.map_append, List.map_singleton, edM_snoc])
      have HLE := Lib.hid (show (edM ((acc.take j).map (·.1))).length + 2 * (acc[j]).1.bx.length ≤ 100000 by
        have h1 := edM_take (acc.map (·.1)) (j + 1)
        rw [← List.map_take, HTK.out, List.length_append, edL_len] at h1
        have := HE.out
        omega)
      have HRX := Lib.hid (HR.out _ (List.getElem_mem hkl))
      have HXB := Lib.hid (HL.out.2 _ (List.getElem_mem hkl))
      obtain ⟨g, o, rfl, hc1⟩ := (HL.out.1.below HF.out.bel).cell hx
      generalize acc[j] = a at *
      obtain ⟨r, xA, xn, xc⟩ := a
      simp only [RV.v] at HXB hc1 HTK HLE HRX
      have a0 : wr.cell? ⟨g, o + j * 7, none⟩ = some (.int .i64 r.k) := hc1 0 _ rfl
      have a1 : wr.cell? ⟨g, o + j * 7 + 1, none⟩ = some (.int .i64 r.roles) := hc1 1 _ rfl
      have a2 : wr.cell? ⟨g, o + j * 7 + 2, none⟩ = some (.int .i64 r.lo) := hc1 2 _ rfl
      have a3 : wr.cell? ⟨g, o + j * 7 + 3, none⟩ = some (.int .i64 r.hi) := hc1 3 _ rfl
      have a4 : wr.cell? ⟨g, o + j * 7 + 4, none⟩ = some (.int .i64 r.labels) := hc1 4 _ rfl
      have a5 : wr.cell? ⟨g, o + j * 7 + 5, none⟩ = some (.slice xA xn xc) := hc1 5 _ rfl
      have a6 : wr.cell? ⟨g, o + j * 7 + 6, none⟩ = some (.int .i64 r.zoom) := hc1 6 _ rfl
      clear hc1 hx
      obtain ⟨A9, c9, hq, -, -⟩ := HXB.out.shape6
      simp only [Value.slice.injEq] at hq
      obtain ⟨rfl, rfl, rfl⟩ := hq
      obtain ⟨rk, rro, rlo, rhi, rla, bx, rz⟩ := r
      simp only at *
      have hal : Below wr.heap.size wr (wr.alloc (.cells #[.int .i64 rk, .int .i64 rro, .int .i64 rlo, .int .i64 rhi, .int .i64 rla, .slice xA bx.length xc, .int .i64 rz] 59)) := (Below.refl _ _).alloc (Nat.le_refl _) _
      have HS0 := Lib.hid (show EdW w wr.heap.size #[.int .i64 rk, .int .i64 rro, .int .i64 rlo, .int .i64 rhi, .int .i64 rla, .slice xA bx.length xc, .int .i64 rz] v0 (edM ((acc.take j).map (·.1)) ++ edL rk rz (bx.take 0)) (wr.alloc (.cells #[.int .i64 rk, .int .i64 rro, .int .i64 rlo, .int .i64 rhi, .int .i64 rla, .slice xA bx.length xc, .int .i64 rz] 59)) from
        ⟨by have h9 := HF.out.below hal; simpa [edL] using h9, Blk.new _ _ _, fun e => by have := HF.out.own.lt e; omega⟩)
      clear hal HF
      go_upto_region 5 with fail
      generalize (wr.alloc (.cells #[.int .i64 rk, .int .i64 rro, .int .i64 rlo, .int .i64 rhi, .int .i64 rla, .slice xA bx.length xc, .int .i64 rz] 59)) = W3 at *
      generalize wr.heap.size = tr at *
      clear a0 a1 a2 a3 a4 a5 a6
      obtain ⟨m, hm⟩ : ∃ m, m = bx.length := ⟨_, rfl⟩
      rw [← hm] at HS0 HLE HXB
      have HM := Lib.hid hm
      (try rw [← hm])
      clear hm
      generalize edM ((acc.take j).map (·.1)) = EL at *
      have q5 := HS0.out.ru.cell 5
      simp only [List.getElem?_toArray, List.getElem?_cons_zero, List.getElem?_cons_succ] at q5
      go_upto_region 6 with fail
      clear q5
      go_loopw [3, 19] (fun v i wx => ∃ (k : Nat) (v1 : Value), k ≤ m ∧ v = v1 ∧ i = .int .i64 k ∧ Hid (EdW w tr #[.int .i64 rk, .int .i64 rro, .int .i64 rlo, .int .i64 rhi, .int .i64 rla, .slice xA m xc, .int .i64 rz] v1 (EL ++ edL rk rz (bx.take k)) wx)) (fun _ i _ => m - (intOf i).toNat)
      case atStart => exact ⟨0, _, Nat.zero_le _, rfl, rfl, HS0⟩
      case round =>
        rename World => wx
        clear HS0
        obtain ⟨k, v1, hk, hv, rfl, HS⟩ := hrel
        have hv' := hv.symm
        clear hv
        subst hv'
        by_cases hklt : k < m
        · have hki : (k : Int) < (m : Int) := by omega
          have hkb : (m : Int) ≤ 100000 := by have := HLE.out; omega
          have hkm : k < bx.length := by rw [← HM.out]; exact hklt
          have hx : bx[k]? = some bx[k] := List.getElem?_eq_getElem hkm
          have hrx := bx_right (HRX.out _ (List.getElem_mem hkm))
          have HTX := Lib.hid (show EL ++ edL rk rz (bx.take (k + 1)) = (EL ++ edL rk rz (bx.take k)) ++ edB rk rz bx[k] by rw [List.take_succ_eq_append_getElem hkm, edL_snoc, List.append_assoc])
          have HLX := Lib.hid (show (EL ++ edL rk rz (bx.take k)).length + 2 ≤ 100000 by have := HLE.out; rw [List.length_append, edL_len, List.length_take]; omega)
          obtain ⟨gx, ox, rfl, hcx⟩ := (HXB.out.below HS.out.fe.bel).cell hx
          generalize bx[k] = x at *
          obtain ⟨x0, y0, x1, y1⟩ := x
          simp only at hrx
          have b0 : wx.cell? ⟨gx, ox + k * 4, none⟩ = some (.int .i64 x0) := hcx 0 _ rfl
          have b1 : wx.cell? ⟨gx, ox + k * 4 + 1, none⟩ = some (.int .i64 y0) := hcx 1 _ rfl
          have b2 : wx.cell? ⟨gx, ox + k * 4 + 2, none⟩ = some (.int .i64 x1) := hcx 2 _ rfl
          have b3 : wx.cell? ⟨gx, ox + k * 4 + 3, none⟩ = some (.int .i64 y1) := hcx 3 _ rfl
          clear hcx hx
          have hw1 : wrap64 (x1 + 1) = x1 + 1 := by unfold wrap64; omega
          clear hrx
          generalize edL rk rz (bx.take k) = EK at *
          go_upto_region 8 with fail
          have HS1 := Lib.hid (HS.out.below (show Below wx.heap.size wx (wx.alloc (.cells #[.int .i64 x0, .int .i64 y0, .int .i64 x1, .int .i64 y1] 46)) from (Below.refl _ _).alloc (Nat.le_refl _) _))
          have HX1 := Lib.hid (Blk.new wx 46 #[.int .i64 x0, .int .i64 y0, .int .i64 x1, .int .i64 y1])
          clear HS b0 b1 b2 b3
          generalize (wx.alloc (.cells #[.int .i64 x0, .int .i64 y0, .int .i64 x1, .int .i64 y1] 46)) = Wa at *
          generalize wx.heap.size = ra at *
          have r0 := HS1.out.ru.cell 0
          have r6 := HS1.out.ru.cell 6
          have z0 := HX1.out.cell 0
          have z1 := HX1.out.cell 1
          have z3 := HX1.out.cell 3
          simp only [List.getElem?_toArray, List.getElem?_cons_zero, List.getElem?_cons_succ] at r0 r6 z0 z1 z3
          go_upto_region 9 with fail
          have HAL := Lib.hid (show Below Wa.heap.size Wa (Wa.alloc (.cells #[.int .i64 x0, .int .i64 y0, .int .i64 y1, .int .i64 rk, .int .i64 rz, .int .i64 1] 126)) from (Below.refl _ _).alloc (Nat.le_refl _) _)
          have HS2 := Lib.hid (HS1.out.below HAL.out)
          have HX2 := Lib.hid (HX1.out.thru0 HAL.out)
          have HB2 := Lib.hid (Blk.new Wa 126 #[.int .i64 x0, .int .i64 y0, .int .i64 y1, .int .i64 rk, .int .i64 rz, .int .i64 1])
          clear HS1 HX1 HAL r0 r6 z0 z1 z3
          generalize (Wa.alloc (.cells #[.int .i64 x0, .int .i64 y0, .int .i64 y1, .int .i64 rk, .int .i64 rz, .int .i64 1] 126)) = Wb at *
          generalize Wa.heap.size = rb at *
          have r0 := HB2.out.cell 0
          have r1 := HB2.out.cell 1
          have r2 := HB2.out.cell 2
          have r3 := HB2.out.cell 3
          have r4 := HB2.out.cell 4
          have r5 := HB2.out.cell 5
          simp only [List.getElem?_toArray, List.getElem?_cons_zero, List.getElem?_cons_succ] at r0 r1 r2 r3 r4 r5
          go_upto_region 10 with fail
          have HAL := Lib.hid (show Below Wb.heap.size Wb (Wb.alloc (.cells #[.int .i64 x0, .int .i64 y0, .int .i64 y1, .int .i64 rk, .int .i64 rz, .int .i64 1] 126)) from (Below.refl _ _).alloc (Nat.le_refl _) _)
          have hz2 := HS2.out.fe.bel.size
          have HB3 := Lib.hid (HB2.out.thru0 HAL.out)
          have HX3 := Lib.hid (HX2.out.thru0 HAL.out)
          have HC3 := Lib.hid (Blk.new Wb 126 #[.int .i64 x0, .int .i64 y0, .int .i64 y1, .int .i64 rk, .int .i64 rz, .int .i64 1])
          have HBC := Lib.hid (show rb ≠ Wb.heap.size from by have := HB2.out.lt; omega)
          have HAW := Lib.hid (show Below Wb.heap.size Wb (((Wb.alloc (.cells #[.int .i64 x0, .int .i64 y0, .int .i64 y1, .int .i64 rk, .int .i64 rz, .int .i64 1] 126)).setCell ⟨Wb.heap.size, 0, none⟩ (.int .i64 (x1 + 1))).setCell ⟨Wb.heap.size, 5, none⟩ (.int .i64 (-1))) from (HAL.out.setCell (p := ⟨Wb.heap.size, 0, none⟩) (Nat.le_refl _) _).setCell (p := ⟨Wb.heap.size, 5, none⟩) (Nat.le_refl _) _)
          have HS4 := Lib.hid (HS2.out.below HAW.out)
          clear HS2 HX2 HB2 HAL HAW r0 r1 r2 r3 r4 r5 hz2
          generalize hWc : (Wb.alloc (.cells #[.int .i64 x0, .int .i64 y0, .int .i64 y1, .int .i64 rk, .int .i64 rz, .int .i64 1] 126)) = Wc at *
          generalize Wb.heap.size = rc at *
          clear hWc
          have z2 := HX3.out.cell 2
          have r0 := HC3.out.cell 0
          have r5 := HC3.out.cell 5
          simp only [List.getElem?_toArray, List.getElem?_cons_zero, List.getElem?_cons_succ] at z2 r0 r5
          have f0 := HC3.out.frozen 0
          have f5 := HC3.out.frozen 5
          have HC4 := Lib.hid (show Blk ((Wc.setCell ⟨rc, 0, none⟩ (.int .i64 (x1 + 1))).setCell ⟨rc, 5, none⟩ (.int .i64 (-1))) rc 126 #[.int .i64 (x1 + 1), .int .i64 y0, .int .i64 y1, .int .i64 rk, .int .i64 rz, .int .i64 (-1)] from (HC3.out.set_ 0 _).set_ 5 _)
          have HB4 := Lib.hid (show Blk ((Wc.setCell ⟨rc, 0, none⟩ (.int .i64 (x1 + 1))).setCell ⟨rc, 5, none⟩ (.int .i64 (-1))) rb 126 _ from ((HB3.out.far (p := ⟨rc, 0, none⟩) HBC.out _).far (p := ⟨rc, 5, none⟩) HBC.out _))
          go_upto_region 11 with fail
          clear HC3 HB3 HX3 HBC z2 r0 r5 f0 f5
          generalize ((Wc.setCell ⟨rc, 0, none⟩ (.int .i64 (x1 + 1))).setCell ⟨rc, 5, none⟩ (.int .i64 (-1))) = Wd at *
          have p0 := HB4.out.cell 0
          have p1 := HB4.out.cell 1
          have p2 := HB4.out.cell 2
          have p3 := HB4.out.cell 3
          have p4 := HB4.out.cell 4
          have p5 := HB4.out.cell 5
          have s0 := HC4.out.cell 0
          have s1 := HC4.out.cell 1
          have s2 := HC4.out.cell 2
          have s3 := HC4.out.cell 3
          have s4 := HC4.out.cell 4
          have s5 := HC4.out.cell 5
          simp only [List.getElem?_toArray, List.getElem?_cons_zero, List.getElem?_cons_succ] at p0 p1 p2 p3 p4 p5 s0 s1 s2 s3 s4 s5
          clear HB4 HC4
          have HAL := Lib.hid (fun (ob : Obj) => HS4.out.below ((Below.refl _ _).alloc (Nat.le_refl _) ob))
          have HRE := Lib.hid (show Reads (Wd.alloc (.cells #[.int .i64 x0, .int .i64 y0, .int .i64 y1, .int .i64 rk, .int .i64 rz, .int .i64 1, .int .i64 (x1 + 1), .int .i64 y0, .int .i64 y1, .int .i64 rk, .int .i64 rz, .int .i64 (-1)] 126)) (Wd.alloc (.cells #[.int .i64 x0, .int .i64 y0, .int .i64 y1, .int .i64 rk, .int .i64 rz, .int .i64 1, .int .i64 (x1 + 1), .int .i64 y0, .int .i64 y1, .int .i64 rk, .int .i64 rz, .int .i64 (-1)] 126)).heap.size elEd.k (some ⟨Wd.heap.size, 0, none⟩) (edB rk rz ⟨x0, y0, x1, y1⟩).length (elEd.encs (edB rk rz ⟨x0, y0, x1, y1⟩)) from
            (EOwn.block (M := edB rk rz ⟨x0, y0, x1, y1⟩) elEd_ok (Blk.new _ _ _) rfl (by simp [edB])).reads elEd_ok)
          obtain ⟨A5, c5, rfl, -, -⟩ := HS4.out.fe.own.slice
          go_wp2_with ((at_builtin; refine wpList_eappr2 (e2 := 126) elEd_ok rfl (.tmp 40) (.tmp 43) 107 107 rfl HTY.out HTY.out _ (EL ++ EK) (edB rk rz ⟨x0, y0, x1, y1⟩) (some ⟨Wd.heap.size, 0, none⟩) 2 rfl rfl (HAL.out _).fe.own HRE.out (by have := HLX.out; simp only [maxLen, edB, List.length_cons, List.length_nil]; omega) (by have := HLX.out; simp only [elEd, edB, List.length_cons, List.length_nil]; omega) ?_; intro v2 w3 hA2; have HP2 := Lib.hid ((HAL.out _).app hA2); clear hA2))
          go_roundw
          case rel => exact ⟨k + 1, _, by omega, rfl, by go_num, by have h9 := HP2.out; rw [← HTX.out] at h9; exact Lib.hid h9⟩
          case measure => simp [intOf]; omega
        · obtain rfl : k = m := by omega
          have HZ := Lib.hid (show FE elEd w v1 (edM ((acc.take (j + 1)).map (·.1))) wx by have h9 := HS.out.fe; rw [List.take_of_length_le (by rw [← HM.out]; exact Nat.le_refl _), ← HTK.out] at h9; exact h9)
          clear HS
          go_wp2_with fail
          go_roundw
          case rel => exact ⟨j + 1, _, by omega, rfl, by go_num, HZ⟩
          case measure => simp [intOf]; omega
    · obtain rfl : j = n := by omega
      have HZ := Lib.hid (show FE elEd w v0 (edM (acc.map (·.1))) wr by have h9 := HF.out; rw [List.take_of_length_le (by rw [← HN.out]; exact Nat.le_refl _)] at h9; exact h9)
      have HXX := Lib.hid (edM_x (R := acc.map (·.1)) fun r hr => by
        obtain ⟨x, hx, rfl⟩ := List.mem_map.1 hr
        exact HR.out x hx)
      have HEE := Lib.hid HE.out
      clear HF HR HE
      obtain ⟨EM, hEM⟩ : ∃ EM, edM (acc.map (·.1)) = EM := ⟨_, rfl⟩
      rw [hEM] at HZ HXX HEE
      have HEM := Lib.hid hEM
      clear hEM
      rcases HZ.out.own with ⟨hv, h0⟩ | ⟨g, cap, hv, hrow⟩
      · have hv' := hv
        subst hv'
        clear hv
        subst h0
        have HFN := Lib.hid HZ.out
        clear HZ
        go_wp2_with fail
        refine (sortE_nil _ _).mono ?_
        rintro e w2 ⟨rfl, hw⟩
        subst hw
        go_wp2_with fail
        go_ret
        exact ⟨_, _, rfl, HFN.out, by rw [HEM.out], List.Pairwise.nil⟩
      · have hv' := hv
        subst hv'
        clear hv
        have HSO := Lib.hid (sortE_own hrow (by have := HEE.out; omega) HXX.out)
        have HFG := Lib.hid (HZ.out.far g rfl)
        have HBE := Lib.hid HZ.out.bel
        clear hrow HZ
        go_wp2_with fail
        refine HSO.out.mono ?_
        rintro e w2 ⟨rfl, E2, hp, hs, ho, hg2⟩
        have hln := hp.length_eq
        rw [← hln] at ho
        have HB2 := Lib.hid (show FE elEd w (.slice (some ⟨g, 0, none⟩) E2.length cap) E2 w2 from ⟨ho, HBE.out.grown hg2 HBE.out.size (fun i hi => by cases hi; exact HFG.out), fun i hi => (by have e : g = i := (by simpa [Value.ownBlock] using hi); exact e ▸ HFG.out)⟩)
        have HPS := Lib.hid (And.intro hp hs)
        rw [hln] at HB2
        clear ho hg2 hp hs hln HSO
        go_wp2_with fail
        go_ret
        exact ⟨_, E2, rfl, HB2.out, by rw [HEM.out]; exact HPS.out.1, HPS.out.2⟩
end
end Go.Proofs.YtmgamlpjgghieaaGreatDoor
