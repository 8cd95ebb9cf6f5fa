/- queue: rows of entries that are read only, wherever they are; Same of them by contract. -/
import Derived.Test.YtdmmglnpeoeicaaQHv
import Derived.Test.YtdmmglnpeoeicaaSl
namespace Go.Proofs.Ytdmmglnpeoeicaa
set_option linter.unusedVariables false
set_option linter.unusedSimpArgs false
open Go.RowKit
/-- The slice (A, n, c) reads as the entries S. -/
def Rd (w : World) (A : Option Addr) (n c : Nat) (S : List En) : Prop :=
  S.length = n ∧ n ≤ c ∧ c ≤ maxLen ∧ (A = none → n = 0) ∧ ∀ i, i < n → ∃ g off, A = some ⟨g, off, none⟩ ∧ w.cell? ⟨g, off + i * 3, none⟩ = some (.int .u64 (at_ S i).1) ∧ w.cell? ⟨g, off + i * 3 + 1, none⟩ = some (.int .u64 (at_ S i).2.1) ∧ w.cell? ⟨g, off + i * 3 + 2, none⟩ = some (.int .i64 (at_ S i).2.2)
theorem Rd.cell {w : World} {A : Option Addr} {n c : Nat} {S : List En} (h : Rd w A n c S) {i : Nat} (hi : i < n) : ∃ g off, A = some ⟨g, off, none⟩ ∧ w.cell? ⟨g, off + i * 3, none⟩ = some (.int .u64 (at_ S i).1) ∧ w.cell? ⟨g, off + i * 3 + 1, none⟩ = some (.int .u64 (at_ S i).2.1) ∧ w.cell? ⟨g, off + i * 3 + 2, none⟩ = some (.int .i64 (at_ S i).2.2) := h.2.2.2.2 i hi
theorem Hv.rd {w : World} {A : Option Addr} {n c : Nat} {S : List En} (h : Hv w A n c S) : Rd w A n c S :=
  ⟨h.1, h.2.1, h.2.2.1, (fun e => by
    rcases h.2.2.2 with ⟨_, hc⟩ | ⟨g, off, cur, he, _⟩
    · have := h.2.1; omega
    · rw [e] at he; cases he), fun i hi => h.cell hi⟩
theorem Rd.below {w w' : World} {A : Option Addr} {n c : Nat} {S : List En} (h : Rd w A n c S) (hb : Below w.heap.size w w') : Rd w' A n c S :=
  ⟨h.1, h.2.1, h.2.2.1, h.2.2.2.1, fun i hi => by
    obtain ⟨g, off, e, h1, h2, h3⟩ := h.cell hi
    exact ⟨g, off, e, cell_later hb h1, cell_later hb h2, cell_later hb h3⟩⟩
theorem Rd.drew {w : World} {A : Option Addr} {n c : Nat} {S : List En} (h : Rd w A n c S) : Rd w.drew A n c S := h
def EntOk (w : World) (cs : List Value) : Prop := ∃ (k t i : Int), cs = [.int .u64 k, .int .u64 t, .int .i64 i]
theorem entOk_of {H : Type} {enc : TypeId × Value → H} {w : World} {sp : Nat → Bool} {hd : Bool} : ∀ fuel cs (y : DataW H × List MemPlace), DataW.trod enc Try.prog w 0 sp hd fuel 29 cs = some y → (∀ m ∈ y.1.weights Try.prog 29, m ≤ reachBytes) → EntOk w cs := by
  intro fuel cs y h hsz
  obtain ⟨_, _, _, _, hl, _, _⟩ := DataW.trod_struct Try.underlying29 h
  have hC : Try.prog.cellsOf 29 = 3 := by kernel_rfl
  rw [hC] at hl
  obtain ⟨a0, h0, _⟩ := leaf_int (o := 0) (u := 27) (by kernel_rfl) Try.underlying27 h
  obtain ⟨a1, h1, _⟩ := leaf_int (o := 1) (u := 27) (by kernel_rfl) Try.underlying27 h
  obtain ⟨a2, h2, _⟩ := leaf_int (o := 2) (u := 3) (by kernel_rfl) Try.underlying3 h
  match cs, hl with
  | [b0, b1, b2], _ =>
    simp at h0 h1 h2
    subst h0; subst h1; subst h2
    exact ⟨a0, a1, a2, rfl⟩
theorem rd_of {w : World} {a : Option Addr} {len cap : Nat} (h : IsSl w 3 (EntOk w) a len cap) : ∃ S, Rd w a len cap S := by
  have hx : ∀ i, ∃ e : En, i < len → ∃ g off, a = some ⟨g, off, none⟩ ∧ w.cell? ⟨g, off + i * 3, none⟩ = some (.int .u64 e.1) ∧ w.cell? ⟨g, off + i * 3 + 1, none⟩ = some (.int .u64 e.2.1) ∧ w.cell? ⟨g, off + i * 3 + 2, none⟩ = some (.int .i64 e.2.2) := fun i => by
    by_cases hi : i < len
    · obtain ⟨xb, xo, cs, rfl, hcl, hcell, k, t, m, rfl⟩ := h.at2 i hi (by omega)
      exact ⟨(k, t, m), fun _ => ⟨xb, xo, rfl, hcell 0 _ rfl, hcell 1 _ rfl, hcell 2 _ rfl⟩⟩
    · exact ⟨(0, 0, 0), fun hj => absurd hj hi⟩
  refine ⟨(List.range len).map (fun i => Classical.choose (hx i)), by simp, h.le.1, h.le.2, fun e => ?_, fun i hi => ?_⟩
  · rcases Nat.eq_zero_or_pos len with h0 | h0
    · exact h0
    · obtain ⟨xb, xo, cs, he, _⟩ := h.at2 0 h0 (by omega)
      rw [e] at he; cases he
  · have := Classical.choose_spec (hx i) hi
    have ha : at_ ((List.range len).map (fun i => Classical.choose (hx i))) i = Classical.choose (hx i) := by
      rw [at_get (by simpa using hi)]; simp
    rw [ha]; exact this
attribute [local go_sem] eq_entry
set_option maxHeartbeats 4000000 in
theorem rsame_rd (A B : Option Addr) (n m c d : Nat) (S T : List En) (w : World) (ha : Rd w A n c S) (hb : Rd w B m d T) :
    Calls Try.prog 15 #[.slice A n c, .slice B m d] w fun e w' => e = .returned (.bool (decide (S = T))) ∧ ∃ q, w' = w.drewN q := by
  have hc1 := ha.2.1
  have hc2 := ha.2.2.1
  have hd1 := hb.2.1
  have hd2 := hb.2.2.1
  unfold maxLen at hc2 hd2
  have HX := Lib.hid ha.1
  have HY := Lib.hid hb.1
  have HA := Lib.hid ha; have HB := Lib.hid hb
  clear ha hb
  by_cases hl : n = m
  · have HL := Lib.hid hl
    have hl1 : ((n : Int) != (m : Int)) = false := by simp [hl]
    have hle : n ≤ m := by omega
    clear hl
    go_enter Try.func15, Try.ntmps15
    go_wp2
    go_loopw [5] (fun i wr => ∃ k q : Nat, k ≤ n ∧ i = .int .i64 k ∧ wr = w.drewN q ∧ Hid (S.take k = T.take k)) (fun i _ => n - (intOf i).toNat)
    case atStart => exact ⟨0, 0, Nat.zero_le _, rfl, rfl, rfl⟩
    case round =>
      obtain ⟨k, q, hk, rfl, rfl, HS⟩ := hrel
      by_cases hlt : k < n
      · have hki : (k : Int) < (n : Int) := by omega
        have hkm : (k : Int) < (m : Int) := by omega
        obtain ⟨g, off, rfl, a0, a1, a2⟩ := HA.out.cell hlt
        obtain ⟨g', off', rfl, b0, b1, b2⟩ := HB.out.cell (show k < m by omega)
        have HMORE := Lib.hid (same_more S T k (by rw [HX.out]; exact hlt) (by rw [HY.out]; omega) HS.out)
        have HNE := Lib.hid (show at_ S k ≠ at_ T k → S ≠ T from fun h e => h (by rw [e]))
        generalize at_ S k = x at *
        generalize at_ T k = y at *
        by_cases hq : x = y
        · subst hq
          have HQ := Lib.hid (HMORE.out rfl)
          go_wp2
          go_quiet (fail)
          go_wp2
          go_roundw
          case rel => exact ⟨k + 1, _, by omega, by go_num, rfl, HQ.out⟩
          case measure => simp [intOf]; omega
        · have HQ := Lib.hid (HNE.out hq)
          have hbb : (x.1 == y.1 && (x.2.1 == y.2.1 && x.2.2 == y.2.2)) = false := by
            by_cases h1 : x.1 = y.1
            · by_cases h2 : x.2.1 = y.2.1
              · by_cases h3 : x.2.2 = y.2.2
                · exact absurd (en_ext h1 h2 h3) hq
                · simp [h3]
              · simp [h2]
            · simp [h1]
          generalize hb1 : (x.1 == y.1) = e1 at *
          generalize hb2 : (x.2.1 == y.2.1) = e2 at *
          generalize hb3 : (x.2.2 == y.2.2) = e3 at *
          clear hq HMORE HNE
          cases e1 <;> cases e2 <;> cases e3
          all_goals first
            | (exfalso; simp at hbb; done)
            | (clear hbb
               go_wp2
               go_quiet (fail)
               go_wp2
               go_ret
               exact ⟨by simp [HQ.out], _, World.drewN_drewN _ _ _⟩)
      · have HQ : Hid (S = T) := by
          have h := HS.out
          rwa [List.take_of_length_le (by rw [HX.out]; omega), List.take_of_length_le (by rw [HY.out, ← HL.out]; omega)] at h
        go_wp2
        go_ret
        exact ⟨by simp [HQ.out], _, rfl⟩
  · have HQ := Lib.hid (show S ≠ T from fun e => hl (by rw [← HX.out, ← HY.out, e]))
    have hl1 : ((n : Int) != (m : Int)) = true := by simp; omega
    clear hl
    go_enter Try.func15, Try.ntmps15
    go_wp2
    go_ret
    exact ⟨by simp [HQ.out], 0, rfl⟩
end Go.Proofs.Ytdmmglnpeoeicaa
