/- queue: the document's rows of entries: what they hold, wherever they begin; Put, Same by contract. -/
import Derived.Test.YtdmmglnpeoeicaaQRLess
import Derived.Laws.StructEq
namespace Go.Proofs.Ytdmmglnpeoeicaa
set_option linter.unusedVariables false
set_option linter.unusedSimpArgs false
open Go.RowKit
/-- The slice (A, n, cap) holds the entries S, wherever it begins in its block. -/
def Hv (w : World) (A : Option Addr) (n cap : Nat) (S : List En) : Prop :=
  S.length = n ∧ n ≤ cap ∧ cap ≤ maxLen ∧ ((A = none ∧ cap = 0) ∨ ∃ g off cur, A = some ⟨g, off, none⟩ ∧ Blk w g 29 cur ∧ off + cap * 3 ≤ cur.size ∧ ∀ i j, i < n → j < 3 → cur[off + (i * 3 + j)]? = (encE (at_ S i))[j]?)
theorem Hv.nil_ (w : World) : Hv w none 0 0 [] := ⟨rfl, Nat.le_refl _, by decide, .inl ⟨rfl, rfl⟩⟩
theorem Hv.cell {w : World} {A : Option Addr} {n cap : Nat} {S : List En} (h : Hv w A n cap S) {i : Nat} (hi : i < n) : ∃ g off, A = some ⟨g, off, none⟩ ∧ w.cell? ⟨g, off + i * 3, none⟩ = some (.int .u64 (at_ S i).1) ∧ w.cell? ⟨g, off + i * 3 + 1, none⟩ = some (.int .u64 (at_ S i).2.1) ∧ w.cell? ⟨g, off + i * 3 + 2, none⟩ = some (.int .i64 (at_ S i).2.2) := by
  obtain ⟨_, h2, _, h3⟩ := h
  rcases h3 with ⟨_, h4⟩ | ⟨g, off, cur, rfl, hb, _, hc⟩
  · omega
  · refine ⟨g, off, rfl, ?_, ?_, ?_⟩ <;> rw [hb.cell]
    · simpa [encE] using hc i 0 hi (by omega)
    · simpa [encE, Nat.add_assoc] using hc i 1 hi (by omega)
    · simpa [encE, Nat.add_assoc] using hc i 2 hi (by omega)
theorem Hv.keep {w w' : World} {A : Option Addr} {n cap : Nat} {S : List En} (h : Hv w A n cap S) (hk : ∀ g, A.map (·.block) = some g → g < w.heap.size → w'.heap[g]? = w.heap[g]?) : Hv w' A n cap S := by
  obtain ⟨h1, h2, h3, h4⟩ := h
  refine ⟨h1, h2, h3, ?_⟩
  rcases h4 with h4 | ⟨g, off, cur, rfl, hb, hs, hc⟩
  · exact .inl h4
  · exact .inr ⟨g, off, cur, rfl, (hk g rfl hb.lt).trans hb, hs, hc⟩
theorem Hv.below {w w' : World} {A : Option Addr} {n cap : Nat} {S : List En} (h : Hv w A n cap S) (hb : Below w.heap.size w w') : Hv w' A n cap S := h.keep fun g _ hg => hb.block g hg
theorem Hv.drew {w : World} {A : Option Addr} {n cap : Nat} {S : List En} (h : Hv w A n cap S) : Hv w.drew A n cap S := h
theorem Hv.lt {w : World} {A : Option Addr} {n cap : Nat} {S : List En} (h : Hv w A n cap S) {g : Nat} (hg : A.map (·.block) = some g) : g < w.heap.size := by
  rcases h.2.2.2 with ⟨rfl, _⟩ | ⟨g', off, cur, rfl, hb, _⟩
  · simp at hg
  · simp at hg; subst hg; exact hb.lt
theorem addr_add (g off j : Nat) : (⟨g, off, none⟩ : Addr).add j = ⟨g, off + j, none⟩ := by unfold Addr.add; split <;> simp_all
theorem at_drop {S : List En} {k i : Nat} : at_ (S.drop k) i = at_ S (k + i) := by simp [at_, List.getD_eq_getElem?_getD, List.getElem?_drop]
theorem Hv.cut {w : World} {A : Option Addr} {n cap : Nat} {S : List En} (h : Hv w A n cap S) {k : Nat} (hk : k ≤ n) : Hv w (if cap = k then A else A.map (·.add (k * 3))) (n - k) (cap - k) (S.drop k) := by
  obtain ⟨h1, h2, h3, h4⟩ := h
  refine ⟨by rw [List.length_drop, h1], by omega, by omega, ?_⟩
  rcases h4 with ⟨rfl, h4⟩ | ⟨g, off, cur, rfl, hb, hs, hc⟩
  · left; simp; omega
  · right
    by_cases e : cap = k
    · rw [if_pos e]
      exact ⟨g, off, cur, rfl, hb, by omega, fun i j hi hj => by omega⟩
    · rw [if_neg e]
      refine ⟨g, off + k * 3, cur, by simp [addr_add], hb, by rw [Nat.sub_mul]; omega, fun i j hi hj => ?_⟩
      rw [at_drop, ← hc (k + i) j (by omega) hj]
      congr 1
      rw [Nat.add_mul]; omega
theorem Hv.pre {w : World} {A : Option Addr} {n cap : Nat} {S : List En} (h : Hv w A n cap S) {k : Nat} (hk : k ≤ n) : Hv w A k cap (S.take k) := by
  obtain ⟨h1, h2, h3, h4⟩ := h
  refine ⟨by rw [List.length_take]; omega, by omega, h3, ?_⟩
  rcases h4 with h4 | ⟨g, off, cur, rfl, hb, hs, hc⟩
  · exact .inl h4
  · exact .inr ⟨g, off, cur, rfl, hb, hs, fun i j hi hj => by rw [at_take hi]; exact hc i j (by omega) hj⟩
theorem QOwn.hv {w : World} {A : Option Addr} {n c : Nat} {S : List En} (h : QOwn w (.slice A n c) S) : Hv w A n c S := by
  rcases h with ⟨h, rfl⟩ | ⟨g, cap, h, cur, h1, h2, h3, h4, h5⟩
  · injection h with a b c; subst a; subst b; subst c; exact Hv.nil_ w
  · injection h with a b c
    subst a; subst b; subst c
    exact ⟨rfl, h3, h4, .inr ⟨g, 0, cur, rfl, h1, by omega, fun i j hi hj => by rw [Nat.zero_add]; exact h5 i j hi hj⟩⟩
theorem eq_entry (a b c a' b' c' : Int) (w : World) : (Op.equalIn 10000 29 (.agg #[.int .u64 a, .int .u64 b, .int .i64 c]) (.agg #[.int .u64 a', .int .u64 b', .int .i64 c'])).run Try.prog w = .ok (a == a' && (b == b' && c == c')) w := by
  have u1 := Try.underlying27
  have a1 := Try.isAgg27
  have z1 := Try.sizeOf27
  have u3 := Try.underlying3
  have a3 := Try.isAgg3
  have z3 := Try.sizeOf3
  have hS : Try.prog.underlying 29 = some (.struct (Try.prog.fieldsOf 29)) := by kernel_rfl
  have hp : Try.prog.stoodInHeld 29 = false := by kernel_rfl
  rw [show (10000 : Nat) = 9999 + 1 from rfl, run_equalIn_agg w 9999 29 _ _ hS hp]
  simp only [Program.fieldsOf, Try.underlying29]
  go_simp
  by_cases h1 : a = a' <;> by_cases h2 : b = b' <;> by_cases h3 : c = c' <;> simp [h1, h2, h3]
theorem same_more (S T : List En) (k : Nat) (hx : k < S.length) (hy : k < T.length) (hs : S.take k = T.take k) (h : at_ S k = at_ T k) : S.take (k + 1) = T.take (k + 1) := by
  rw [at_get hx, at_get hy] at h
  rw [List.take_succ_eq_append_getElem hx, List.take_succ_eq_append_getElem hy, hs, h]
attribute [local go_sem] eq_entry
set_option maxHeartbeats 4000000 in
theorem rsame_any (A B : Option Addr) (n m c d : Nat) (S T : List En) (w : World) (ha : Hv w A n c S) (hb : Hv w B m d T) :
    Calls Try.prog 15 #[.slice A n c, .slice B m d] w fun e w' => e = .returned (.bool (decide (S = T))) ∧ ∃ q, w' = w.drewN q := by
  have hc1 := ha.2.1
  have hc2 := ha.2.2.1
  have hd1 := hb.2.1
  have hd2 := hb.2.2.1
  unfold maxLen at hc2 hd2
  have HX := Lib.hid ha.1
  have HY := Lib.hid hb.1
  have HA := Lib.hid ha; have HB := Lib.hid hb
  clear ha hb
  by_cases hl : n = m
  · have HL := Lib.hid hl
    have hl1 : ((n : Int) != (m : Int)) = false := by simp [hl]
    have hle : n ≤ m := by omega
    clear hl
    go_enter Try.func15, Try.ntmps15
    go_wp2
    go_loopw [5] (fun i wr => ∃ k q : Nat, k ≤ n ∧ i = .int .i64 k ∧ wr = w.drewN q ∧ Hid (S.take k = T.take k)) (fun i _ => n - (intOf i).toNat)
    case atStart => exact ⟨0, 0, Nat.zero_le _, rfl, rfl, rfl⟩
    case round =>
      obtain ⟨k, q, hk, rfl, rfl, HS⟩ := hrel
      by_cases hlt : k < n
      · have hki : (k : Int) < (n : Int) := by omega
        have hkm : (k : Int) < (m : Int) := by omega
        obtain ⟨g, off, rfl, a0, a1, a2⟩ := HA.out.cell hlt
        obtain ⟨g', off', rfl, b0, b1, b2⟩ := HB.out.cell (show k < m by omega)
        have HMORE := Lib.hid (same_more S T k (by rw [HX.out]; exact hlt) (by rw [HY.out]; omega) HS.out)
        have HNE := Lib.hid (show at_ S k ≠ at_ T k → S ≠ T from fun h e => h (by rw [e]))
        generalize at_ S k = x at *
        generalize at_ T k = y at *
        by_cases hq : x = y
        · subst hq
          have HQ := Lib.hid (HMORE.out rfl)
          go_wp2
          go_quiet (fail)
          go_wp2
          go_roundw
          case rel => exact ⟨k + 1, _, by omega, by go_num, rfl, HQ.out⟩
          case measure => simp [intOf]; omega
        · have HQ := Lib.hid (HNE.out hq)
          have hbb : (x.1 == y.1 && (x.2.1 == y.2.1 && x.2.2 == y.2.2)) = false := by
            by_cases h1 : x.1 = y.1
            · by_cases h2 : x.2.1 = y.2.1
              · by_cases h3 : x.2.2 = y.2.2
                · exact absurd (en_ext h1 h2 h3) hq
                · simp [h3]
              · simp [h2]
            · simp [h1]
          generalize hb1 : (x.1 == y.1) = e1 at *
          generalize hb2 : (x.2.1 == y.2.1) = e2 at *
          generalize hb3 : (x.2.2 == y.2.2) = e3 at *
          clear hq HMORE HNE
          cases e1 <;> cases e2 <;> cases e3
          all_goals first
            | (exfalso; simp at hbb; done)
            | (clear hbb
               go_wp2
               go_quiet (fail)
               go_wp2
               go_ret
               exact ⟨by simp [HQ.out], _, World.drewN_drewN _ _ _⟩)
      · have HQ : Hid (S = T) := by
          have h := HS.out
          rwa [List.take_of_length_le (by rw [HX.out]; omega), List.take_of_length_le (by rw [HY.out, ← HL.out]; omega)] at h
        go_wp2
        go_ret
        exact ⟨by simp [HQ.out], _, rfl⟩
  · have HQ := Lib.hid (show S ≠ T from fun e => hl (by rw [← HX.out, ← HY.out, e]))
    have hl1 : ((n : Int) != (m : Int)) = true := by simp; omega
    clear hl
    go_enter Try.func15, Try.ntmps15
    go_wp2
    go_ret
    exact ⟨by simp [HQ.out], 0, rfl⟩
end Go.Proofs.Ytdmmglnpeoeicaa
