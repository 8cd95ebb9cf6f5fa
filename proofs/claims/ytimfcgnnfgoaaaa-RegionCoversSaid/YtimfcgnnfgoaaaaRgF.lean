/- region: rows of nothing, sorted; the rows with which strips begin, by contract. -/
import Derived.Test.YtimfcgnnfgoaaaaRgD
import Derived.Test.YtimfcgnnfgoaaaaRgE
namespace Go.Proofs.Ytimfcgnnfgoaaaa
set_option linter.unusedVariables false
set_option linter.unusedSimpArgs false
open Go.RowKit
set_option maxHeartbeats 1000000 in
theorem insI_nil (w : World) : Calls Try.prog 80 #[.slice none 0 0, .int .i64 0, .int .i64 0] w fun e w' => e = .returned (.tuple #[]) ∧ w = w' := by
  go_enter Try.func80, Try.ntmps80
  go_wp2_with fail
  refine wp_loop_rounds 1 ?_
  rw [rounds_succ]
  go_wp2_with fail
  go_end0
  exact ⟨rfl, rfl⟩
set_option maxHeartbeats 1000000 in
theorem pdqI_nil (l : Int) (w : World) : Calls Try.prog 74 #[.slice none 0 0, .int .i64 0, .int .i64 0, .int .i64 l] w fun e w' => e = .returned (.tuple #[]) ∧ w = w' := by
  go_enter Try.func74, Try.ntmps74
  go_wp2_with fail
  refine wp_loop_rounds 1 ?_
  rw [rounds_succ]
  go_wp2_with fail
  refine (insI_nil _).mono ?_
  rintro e w1 ⟨rfl, hw⟩
  subst hw
  go_wp2_with fail
  refine bodyPost_ret (v := .tuple #[]) ?_ rfl ⟨rfl, rfl⟩
  simp [results, Try.results74, go_sem]
set_option maxHeartbeats 1000000 in
theorem sortI_nil (w : World) : Calls Try.prog 61 #[.slice none 0 0] w fun e w' => e = .returned (.tuple #[]) ∧ w = w' := by
  go_enter Try.func61, Try.ntmps61
  go_wp2_with fail
  refine (Try.bits_Len 0 w (by omega) (by omega)).mono ?_
  rintro e w1 ⟨rfl, hw⟩
  subst hw
  go_wp2_with fail
  refine (pdqI_nil _ _).mono ?_
  rintro e w1 ⟨rfl, hw⟩
  subst hw
  go_wp2_with fail
  go_end0
  exact ⟨rfl, rfl⟩
set_option maxHeartbeats 1000000 in
theorem insE_nil (F : Value) (w : World) : Calls Try.prog 64 #[.slice none 0 0, .int .i64 0, .int .i64 0, F] w fun e w' => e = .returned (.tuple #[]) ∧ w = w' := by
  go_enter Try.func64, Try.ntmps64
  go_wp2_with fail
  refine wp_loop_rounds 1 ?_
  rw [rounds_succ]
  go_wp2_with fail
  go_end0
  exact ⟨rfl, rfl⟩
set_option maxHeartbeats 1000000 in
theorem pdqE_nil (l : Int) (F : Value) (w : World) : Calls Try.prog 59 #[.slice none 0 0, .int .i64 0, .int .i64 0, .int .i64 l, F] w fun e w' => e = .returned (.tuple #[]) ∧ w = w' := by
  go_enter Try.func59, Try.ntmps59
  go_wp2_with fail
  refine wp_loop_rounds 1 ?_
  rw [rounds_succ]
  go_wp2_with fail
  refine (insE_nil _ _).mono ?_
  rintro e w1 ⟨rfl, hw⟩
  subst hw
  go_wp2_with fail
  refine bodyPost_ret (v := .tuple #[]) ?_ rfl ⟨rfl, rfl⟩
  simp [results, Try.results59, go_sem]
set_option maxHeartbeats 1000000 in
theorem sortE_nil (F : Value) (w : World) : Calls Try.prog 54 #[.slice none 0 0, F] w fun e w' => e = .returned (.tuple #[]) ∧ w = w' := by
  go_enter Try.func54, Try.ntmps54
  go_wp2_with fail
  refine (Try.bits_Len 0 w (by omega) (by omega)).mono ?_
  rintro e w1 ⟨rfl, hw⟩
  subst hw
  go_wp2_with fail
  refine (pdqE_nil _ _ _).mono ?_
  rintro e w1 ⟨rfl, hw⟩
  subst hw
  go_wp2_with fail
  go_end0
  exact ⟨rfl, rfl⟩
/-- The rows of ends. -/
def rowsB (e : En) : List Int := [e.f, e.t + 1]
def rowsM (E : List En) : List Int := E.flatMap rowsB
theorem rowsM_len (E : List En) : (rowsM E).length = 2 * E.length := by
  induction E with
  | nil => rfl
  | cons e E ih =>
    have h : rowsM (e :: E) = rowsB e ++ rowsM E := rfl
    rw [h, List.length_append, ih]; simp [rowsB]; omega
theorem rowsM_mem (E : List En) (u : Int) : u ∈ rowsM E ↔ ∃ e ∈ E, u = e.f ∨ u = e.t + 1 := by
  unfold rowsM
  rw [List.mem_flatMap]
  exact ⟨fun ⟨e, he, h⟩ => ⟨e, he, by simpa [rowsB] using h⟩, fun ⟨e, he, h⟩ => ⟨e, he, by simpa [rowsB] using h⟩⟩
/-- Rows, rising, each once. -/
structure RowsIs (E : List En) (ys : List Int) : Prop where
  lt : ys.Pairwise (· < ·)
  mem : ∀ u, u ∈ ys ↔ ∃ e ∈ E, u = e.f ∨ u = e.t + 1
  len : ys.length ≤ 2 * E.length
theorem rowsIs_of (E : List En) : RowsIs E (Lib.compact ((rowsM E).mergeSort fun x y => decide (x ≤ y))) := by
  have hp := List.mergeSort_perm (rowsM E) fun x y => decide (x ≤ y)
  have h1 : ((rowsM E).mergeSort fun x y => decide (x ≤ y)).Pairwise (· ≤ ·) := (List.pairwise_mergeSort (le := fun x y : Int => decide (x ≤ y)) (fun a b c h1 h2 => by simp at h1 h2 ⊢; omega) (fun a b => by simp; omega) (rowsM E)).imp fun h => by simpa using h
  obtain ⟨h2, h3⟩ := compact_of_sorted h1
  refine ⟨h2, fun u => by rw [h3, hp.mem_iff, rowsM_mem], ?_⟩
  have := compact_le ((rowsM E).mergeSort fun x y => decide (x ≤ y))
  rw [List.length_mergeSort, rowsM_len] at this
  exact this
set_option maxRecDepth 100000 in
set_option maxHeartbeats 4000000 in
theorem firstRows_any (w : World) (v : Value) (E : List En) (h : ERd elEd w v E) (hl : E.length ≤ 100000) (hr : ∀ e ∈ E, 0 ≤ e.f ∧ e.t ≤ 65535 ∧ e.f ≤ e.t) :
    Calls Try.prog 56 #[v] w fun e w' => ∃ v' ys, e = .returned v' ∧ FE elI w v' ys w' ∧ RowsIs E ys := by
  obtain ⟨A1, c1, rfl, -, -⟩ := h.shape
  have HL := Lib.hid h
  have HR := Lib.hid hr
  clear h hr
  have HTY := Lib.hid (show Try.prog.underlying 50 = some (.slice elI.T) from Try.underlying50)
  obtain ⟨n, hn⟩ : ∃ n, n = E.length := ⟨_, rfl⟩
  rw [← hn] at HL hl ⊢
  have HN := Lib.hid hn; clear hn
  go_enter Try.func56, Try.ntmps56
  go_wp2_with fail
  go_loopw [3, 8] (fun v i wr => ∃ (j : Nat) (v0 : Value), j ≤ n ∧ v = v0 ∧ i = .int .i64 j ∧ Hid (FE elI w v0 (rowsM (E.take j)) wr)) (fun _ i _ => n - (intOf i).toNat)
  case atStart => exact ⟨0, _, Nat.zero_le _, rfl, rfl, by simpa [Hid, rowsM] using FE.nil_ (E := elI) w w (Below.refl _ _)⟩
  case round =>
    rename World => wr
    obtain ⟨j, v0, hj, hv, rfl, HF⟩ := hrel
    have hv' := hv.symm
    clear hv
    subst hv'
    by_cases hlt : j < n
    · have hji : (j : Int) < (n : Int) := by omega
      have hkl : j < E.length := by rw [← HN.out]; exact hlt
      have hx : E[j]? = some E[j] := List.getElem?_eq_getElem hkl
      have hrx := HR.out _ (List.getElem_mem hkl)
      have HTK := Lib.hid (show rowsM (E.take (j + 1)) = rowsM (E.take j) ++ rowsB E[j] by rw [List.take_succ_eq_append_getElem hkl]; unfold rowsM; rw [List.flatMap_append, List.flatMap_singleton])
      have HLE := Lib.hid (show (rowsM (E.take j)).length + 2 ≤ 300000 by rw [rowsM_len, List.length_take]; omega)
      obtain ⟨g, o, rfl, hg, a0, a1, a2, a3, a4⟩ := (HL.out.below HF.out.bel).endE hx
      generalize E[j] = x at *
      clear hx hg
      obtain ⟨x0, x1, x2, x3, x4⟩ := x
      simp only at a0 a1 a2 a3 a4 hrx HTK
      have hw1 : wrap64 (x2 + 1) = x2 + 1 := by unfold wrap64; omega
      clear hrx
      generalize hEL : rowsM (E.take j) = EL at *
      clear hEL
      have hB1 : Below wr.heap.size wr (wr.alloc (.cells #[.int .i64 x0, .int .i64 x1, .int .i64 x2, .int .i64 x3, .int .i64 x4] 80)) := (Below.refl _ _).alloc (Nat.le_refl _) _
      have HF1 := Lib.hid (HF.out.below hB1)
      have HZ1 := Lib.hid (show (wr.alloc (.cells #[.int .i64 x0, .int .i64 x1, .int .i64 x2, .int .i64 x3, .int .i64 x4] 80)).heap.size = wr.heap.size + 1 by simp)
      clear hB1 HF
      obtain ⟨A5, c5, rfl, -, -⟩ := HF1.out.own.slice
      have HRE := Lib.hid (show Reads ((wr.alloc (.cells #[.int .i64 x0, .int .i64 x1, .int .i64 x2, .int .i64 x3, .int .i64 x4] 80)).alloc (.cells #[.int .i64 x1, .int .i64 (x2 + 1)] 3)) ((wr.alloc (.cells #[.int .i64 x0, .int .i64 x1, .int .i64 x2, .int .i64 x3, .int .i64 x4] 80)).alloc (.cells #[.int .i64 x1, .int .i64 (x2 + 1)] 3)).heap.size elI.k (some ⟨wr.heap.size + 1, 0, none⟩) (rowsB ⟨x0, x1, x2, x3, x4⟩).length (elI.encs (rowsB ⟨x0, x1, x2, x3, x4⟩)) from
        (EOwn.block (M := rowsB ⟨x0, x1, x2, x3, x4⟩) elI_ok (Blk.newAt HZ1.out) rfl (by simp [rowsB])).reads elI_ok)
      have HAL := Lib.hid (fun (o : Obj) => HF1.out.below ((Below.refl _ _).alloc (Nat.le_refl _) o))
      go_wp2_with ((at_builtin; refine wpList_eappr2 (e2 := 3) elI_ok rfl (.tmp 12) (.tmp 18) 50 50 rfl HTY.out HTY.out _ EL (rowsB ⟨x0, x1, x2, x3, x4⟩) (some ⟨wr.heap.size + 1, 0, none⟩) 2 rfl rfl (HAL.out _).own HRE.out (by have := HLE.out; simp only [maxLen, rowsB, List.length_cons, List.length_nil]; omega) (by have := HLE.out; simp only [elI, rowsB, List.length_cons, List.length_nil]; omega) ?_; intro v2 w3 hA2; have HP2 := Lib.hid ((HAL.out _).app hA2); clear hA2))
      go_roundw
      case rel => exact ⟨j + 1, _, by omega, rfl, by go_num, by have h9 := HP2.out; rw [← HTK.out] at h9; exact h9⟩
      case measure => simp [intOf]; omega
    · obtain rfl : j = n := by omega
      have HZ := Lib.hid (show FE elI w v0 (rowsM E) wr by have h9 := HF.out; rw [List.take_of_length_le (by rw [← HN.out]; omega)] at h9; exact h9)
      have HLE := Lib.hid (show (rowsM E).length ≤ 1000000 by rw [rowsM_len, ← HN.out]; omega)
      have HIS := Lib.hid (rowsIs_of E)
      clear HF
      rcases HZ.out.own with ⟨hv, h0⟩ | ⟨g, cap, hv, hrow⟩
      · have hv' := hv
        subst hv'
        clear hv
        have HIS2 := Lib.hid (show RowsIs E [] by have h9 := HIS.out; rw [h0] at h9; simpa [Lib.compact, Lib.compactUpTo] using h9)
        have HFN := Lib.hid (FE.nil_ (E := elI) w wr HZ.out.bel)
        clear h0 HIS HZ
        go_wp2_with fail
        refine (sortI_nil _).mono ?_
        rintro e w2 ⟨rfl, hw⟩
        subst hw
        go_wp2_with fail
        refine (Try.slices_Compact_int_empty _ _ _).mono ?_
        rintro e w2 ⟨rfl, hw⟩
        subst hw
        go_wp2
        go_ret
        exact ⟨_, _, rfl, HFN.out, HIS2.out⟩
      · have hv' := hv
        subst hv'
        clear hv
        have HSO := Lib.hid (sort_own hrow HLE.out)
        have HFG := Lib.hid (HZ.out.far g rfl)
        have HBE := Lib.hid HZ.out.bel
        have HLM := Lib.hid (show ((rowsM E).mergeSort fun x y => decide (x ≤ y)).length = (rowsM E).length from List.length_mergeSort _)
        have HCO := Lib.hid (fun W hr => compact_own (w := W) (g := g) (cap := cap) (L := (rowsM E).mergeSort fun x y => decide (x ≤ y)) hr (by rw [HLM.out]; exact HLE.out))
        rw [HLM.out] at HCO
        clear hrow HZ
        generalize ((rowsM E).mergeSort fun x y => decide (x ≤ y)) = SL at *
        generalize (rowsM E).length = m at *
        go_wp2_with fail
        refine HSO.out.mono ?_
        rintro e w2 ⟨rfl, hr2, hg2⟩
        have HB2 := Lib.hid (HBE.out.grown hg2 HBE.out.size (fun i hi => by cases hi; exact HFG.out))
        have HC2 := Lib.hid (HCO.out w2 hr2)
        clear hr2 hg2
        go_wp2_with fail
        refine HC2.out.mono ?_
        rintro e w3 ⟨rfl, hr3, hg3⟩
        have HFIN := Lib.hid (show FE elI w (.slice (some ⟨g, 0, none⟩) (Lib.compact SL).length cap) (Lib.compact SL) w3 from ⟨.inr ⟨g, cap, rfl, hr3⟩, HB2.out.grown hg3 HB2.out.size (fun i hi => by cases hi; exact HFG.out), fun i hi => (by have e : g = i := (by simpa [Value.ownBlock] using hi); exact e ▸ HFG.out)⟩)
        clear hr3 hg3
        go_wp2
        go_ret
        exact ⟨_, _, rfl, HFIN.out, HIS.out⟩
end Go.Proofs.Ytimfcgnnfgoaaaa
