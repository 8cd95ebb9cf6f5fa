/- wire: the document's There, and widths, by contract. -/
import Derived.Test.YthlmldbgohnpnaaWrM
import Derived.Test.YthlmldbgohnpnaaSe4
namespace Go.Proofs.Ythlmldbgohnpnaa
set_option linter.unusedVariables false
set_option linter.unusedSimpArgs false
open Go.RowKit
def sumL (L : List Nat) : Nat := L.sum
theorem widL_sum (k : Nat) : (widL k).sum = fieldsN k := by
  match k with
  | 0 | 1 | 2 | 3 | 4 | 5 | 6 | 7 | 8 | 9 | 10 | 11 | 12 | 13 | 14 | 15 | 16 | 17 | 18 | 19 => rfl
  | k + 20 => rfl
theorem widL_le (k : Nat) : (widL k).length ≤ 7 ∧ ∀ x ∈ widL k, 1 ≤ x ∧ x ≤ 8 := by
  match k with
  | 0 | 1 | 2 | 3 | 4 | 5 | 6 | 7 | 8 | 9 | 10 | 11 | 12 | 13 | 14 | 15 | 16 | 17 | 18 | 19 => decide
  | k + 20 => exact ⟨by show (0 : Nat) ≤ 7; omega, fun x hx => by cases hx⟩
set_option maxHeartbeats 2000000 in
theorem there19_any (op : Int) (w : World) : Calls Try.prog 14 #[.int .i64 op] w fun e w' => e = .returned (.bool (decide (1 ≤ op ∧ op ≤ 19))) ∧ w = w' := by
  by_cases h1 : 1 ≤ op
  · by_cases h2 : op ≤ 19
    · rw [decide_eq_true ⟨h1, h2⟩]
      go_enter Try.func14, Try.ntmps14
      go_wp2
      go_ret
      exact ⟨rfl, rfl⟩
    · rw [decide_eq_false (fun h => h2 h.2)]
      have h3 : 19 < op := by omega
      go_enter Try.func14, Try.ntmps14
      go_wp2
      go_ret
      exact ⟨ret_bool (by simp), rfl⟩
  · rw [decide_eq_false (fun h => h1 h.1)]
    go_enter Try.func14, Try.ntmps14
    go_wp2
    go_ret
    exact ⟨rfl, rfl⟩
theorem sum_take_snoc (L : List Nat) (j : Nat) (h : j < L.length) : (L.take (j + 1)).sum = (L.take j).sum + L[j] := by
  rw [List.take_succ_eq_append_getElem h, List.sum_append]; simp
theorem sum_le {L : List Nat} (h : ∀ x ∈ L, x ≤ 8) : L.sum ≤ 8 * L.length := by
  induction L with
  | nil => simp
  | cons x r ih =>
    have h1 := h x List.mem_cons_self
    have h2 := ih fun y hy => h y (List.mem_cons_of_mem _ hy)
    rw [List.sum_cons, List.length_cons]; omega
theorem sum_take_le {L : List Nat} (j : Nat) : (L.take j).sum ≤ L.sum := by
  have := List.take_append_drop j L
  have h2 : L.sum = (L.take j).sum + (L.drop j).sum := by rw [← List.sum_append, this]
  omega
theorem EOwn.wcell {w : World} {g n c : Nat} {L : List Nat} (h : EOwn elW w (.slice (some ⟨g, 0, none⟩) n c) L) {j x : Nat} (hj : L[j]? = some x) : w.cell? ⟨g, j, none⟩ = some (.int .i64 (x : Int)) := by
  obtain ⟨_, g', e, hc⟩ := EOwn.cell elW_ok h hj
  obtain rfl : g = g' := by simpa using e
  have := hc 0 (.int .i64 (x : Int)) rfl
  simpa [elW] using this
set_option maxRecDepth 100000 in
set_option maxHeartbeats 4000000 in
theorem rneeds_any (op : Int) (w : World) : Calls Try.prog 17 #[.int .i64 op] w fun e w' => e = .returned (.int .i64 (needN op)) ∧ Below w.heap.size w w' := by
  have HTH := Lib.hid (there19_any op w)
  by_cases h : 1 ≤ op ∧ op ≤ 19
  · obtain ⟨k, rfl⟩ : ∃ k : Nat, op = (k : Int) := ⟨op.toNat, by omega⟩
    rw [decide_eq_true h] at HTH
    have HN := Lib.hid (show needN k = ((widL k).sum : Int) by unfold needN; rw [if_pos h, Int.toNat_natCast, widL_sum])
    have HF := Lib.hid (fld_any k (by omega) (by omega) w)
    obtain ⟨hl7, hle⟩ := widL_le k
    have HLE := Lib.hid hle
    clear h hle
    generalize widL k = L at *
    have HS := Lib.hid (sum_le (fun x hx => (HLE.out x hx).2))
    go_enter Try.func17, Try.ntmps17
    go_wp2_with fail
    refine HTH.out.mono ?_
    rintro e w1 ⟨rfl, hw1⟩
    subst hw1
    go_wp2_with fail
    refine HF.out.mono ?_
    rintro e w2 ⟨g, rfl, ho, hg, hb⟩
    have HO := Lib.hid ho
    have HB := Lib.hid hb
    obtain ⟨n, hn⟩ : ∃ n, n = L.length := ⟨_, rfl⟩
    rw [← hn] at HO hl7 ⊢
    have HNN := Lib.hid hn
    clear ho hg hb HF HTH hn
    go_wp2_with fail
    go_loop [3, 5] (fun s i => ∃ j t : Nat, j ≤ n ∧ i = .int .i64 j ∧ s = .int .i64 t ∧ Hid (t = (L.take j).sum)) (fun _ i => n - (intOf i).toNat)
    case atStart => exact ⟨0, 0, Nat.zero_le _, rfl, rfl, Lib.hid rfl⟩
    case round =>
      obtain ⟨j, t, hj, rfl, rfl, HT⟩ := hrel
      by_cases hlt : j < n
      · have hjl : j < L.length := by rw [← HNN.out]; exact hlt
        have kc := HO.out.wcell (List.getElem?_eq_getElem hjl)
        have HT2 := Lib.hid (sum_take_snoc L j hjl)
        have hx8 := (HLE.out _ (List.getElem_mem hjl)).2
        generalize L[j] = x at *
        have ht : t ≤ 56 := by
          have h1 := HT.out
          have h2 := sum_take_le (L := L) j
          have h3 := HS.out
          rw [← HNN.out] at h3
          omega
        clear hjl
        go_wp2
        go_round
        case rel => exact ⟨j + 1, t + x, by omega, by go_num, by go_num, Lib.hid (by rw [HT2.out, HT.out])⟩
        case measure => simp [intOf]; omega
      · obtain rfl : j = n := by omega
        have HT2 : Hid (t = L.sum) := Lib.hid (by rw [HT.out, HNN.out, List.take_length])
        go_wp2
        go_ret
        exact ⟨by rw [HN.out, ← HT2.out]; rfl, HB.out⟩
  · rw [decide_eq_false h] at HTH
    have HN := Lib.hid (show needN op = -1 by unfold needN; rw [if_neg h])
    clear h
    go_enter Try.func17, Try.ntmps17
    go_wp2_with fail
    refine HTH.out.mono ?_
    rintro e w1 ⟨rfl, hw1⟩
    subst hw1
    go_wp2_with fail
    go_ret
    exact ⟨by rw [HN.out]; rfl, Below.refl _ _⟩
end Go.Proofs.Ythlmldbgohnpnaa
