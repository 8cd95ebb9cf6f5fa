/- The document's Find and Same of tickets, by contract. -/
import Derived.Test.YtmlmndaflgfdkaaRow2
import Derived.Test.YtmlmndaflgfdkaaTo5
import Derived.Deep.DeepCutAuto
namespace Go.Proofs.Ytmlmndaflgfdkaa
set_option linter.unusedVariables false
set_option linter.unusedSimpArgs false
open Go.RowKit
theorem ERd.ten {w : World} {A : Option Addr} {n c : Nat} {L : List Tk} (h : ERd elT w (.slice A n c) L) {i : Nat} {x : Tk} (hi : L[i]? = some x) : ∃ g o, A = some ⟨g, o, none⟩ ∧ g < w.heap.size ∧
    w.cell? ⟨g, o + i * 10, none⟩ = some (.int .u64 x.sec) ∧ w.cell? ⟨g, o + i * 10 + 1, none⟩ = some (.int .u64 x.par) ∧ w.cell? ⟨g, o + i * 10 + 2, none⟩ = some (.int .i64 x.g.ops) ∧ w.cell? ⟨g, o + i * 10 + 3, none⟩ = some (.int .i64 x.g.zoom) ∧
    w.cell? ⟨g, o + i * 10 + 4, none⟩ = some (.int .i64 x.g.x0) ∧ w.cell? ⟨g, o + i * 10 + 5, none⟩ = some (.int .i64 x.g.y0) ∧ w.cell? ⟨g, o + i * 10 + 6, none⟩ = some (.int .i64 x.g.x1) ∧ w.cell? ⟨g, o + i * 10 + 7, none⟩ = some (.int .i64 x.g.y1) ∧
    w.cell? ⟨g, o + i * 10 + 8, none⟩ = some (.bool x.g.void) ∧ w.cell? ⟨g, o + i * 10 + 9, none⟩ = some (.int .i64 x.g.til) := by
  obtain ⟨A', c', e, h1, h2, h3⟩ := h
  injection e with e1 e2 e3
  subst e1
  obtain ⟨g, o, rfl, hc⟩ := h3 i x hi
  exact ⟨g, o, rfl, World.block_lt_of_cell? w _ (hc 0 _ rfl), hc 0 _ rfl, hc 1 _ rfl, hc 2 _ rfl, hc 3 _ rfl, hc 4 _ rfl, hc 5 _ rfl, hc 6 _ rfl, hc 7 _ rfl, hc 8 _ rfl, hc 9 _ rfl⟩
theorem ERd.shape {α : Type} {E : El α} {w : World} {v : Value} {L : List α} (h : ERd E w v L) : ∃ A c, v = .slice A L.length c ∧ L.length ≤ c ∧ c ≤ maxLen := by
  obtain ⟨A, c, rfl, h1, h2, _⟩ := h
  exact ⟨A, c, rfl, h1, h2⟩
/-- What finding a ticket tells. -/
def rfG (L : List Tk) (s : Nat) : Tk := if fnd (secs L) s < 0 then Tk.zero else L.getD (fnd (secs L) s).toNat Tk.zero
def rfB (L : List Tk) (s : Nat) : Bool := decide (0 ≤ fnd (secs L) s)
theorem fnd_first (l : List Nat) (s k : Nat) (hk : k < l.length) (h1 : fnd (l.take k) s = -1) (h0 : s ≠ 0) (h : l[k] = s) : fnd l s = k := by
  have h2 : fnd (l.take (k + 1)) s = k := by
    rw [take_u l k hk, fnd_snoc, if_pos ⟨by omega, h, h0⟩, List.length_take]; omega
  have h3 : 0 ≤ fnd (l.take (k + 1)) s := by omega
  have h4 := fnd_mem (l.take (k + 1)) s
  have e := List.take_append_drop (k + 1) l
  have h5 : s ∈ l.take (k + 1) := (h4.1 h3).2
  have h6 : s ∈ l := List.mem_of_mem_take h5
  rw [← h2, fnd, fnd, if_pos ⟨h0, h6⟩, if_pos ⟨h0, h5⟩]
  conv => lhs; rw [← e]
  rw [List.idxOf_append, if_pos h5]
theorem fnd_next (l : List Nat) (s k : Nat) (hk : k < l.length) (h1 : fnd (l.take k) s = -1) (h : l[k] ≠ s) : fnd (l.take (k + 1)) s = -1 := by
  rw [take_u l k hk, fnd_snoc, if_neg (fun h2 => h h2.2.1)]; exact h1
set_option maxRecDepth 100000 in
set_option maxHeartbeats 8000000 in
theorem rfindT_any (w : World) (v : Value) (L : List Tk) (s : Nat) (h : ERd elT w v L) (hl : L.length ≤ 1000000) (hs : s ≤ 18446744073709551615) :
    Calls Try.prog 12 #[v, .int .u64 s] w fun e w' => e = .returned (.tuple #[(rfG L s).V, .bool (rfB L s)]) ∧ Below w.heap.size w w' := by
  obtain ⟨A1, c1, rfl, -, -⟩ := h.shape
  have hal : Below w.heap.size w (w.alloc (.cells #[.int .u64 0, .int .u64 0, .int .i64 0, .int .i64 0, .int .i64 0, .int .i64 0, .int .i64 0, .int .i64 0, .bool false, .int .i64 0] 35)) := (Below.refl _ _).alloc (Nat.le_refl _) _
  have HO := Lib.hid (h.below hal)
  have HR := Lib.hid (Blk.new w 35 #[.int .u64 0, .int .u64 0, .int .i64 0, .int .i64 0, .int .i64 0, .int .i64 0, .int .i64 0, .int .i64 0, .bool false, .int .i64 0])
  have HA := Lib.hid hal
  clear h hal
  obtain ⟨n, hn⟩ : ∃ n, n = L.length := ⟨_, rfl⟩
  rw [← hn] at HO hl ⊢
  have HN := Lib.hid hn; clear hn
  go_enter Try.func12, Try.ntmps12
  go_upto_region 2 with fail
  generalize (w.alloc (.cells #[.int .u64 0, .int .u64 0, .int .i64 0, .int .i64 0, .int .i64 0, .int .i64 0, .int .i64 0, .int .i64 0, .bool false, .int .i64 0] 35)) = W at *
  go_loop [6] (fun i => ∃ k : Nat, k ≤ n ∧ i = .int .i64 k ∧ Hid (fnd ((secs L).take k) s = -1)) (fun i => n - (intOf i).toNat)
  case atStart => exact ⟨0, Nat.zero_le _, rfl, by simp [Hid, fnd_nil]⟩
  case round =>
    obtain ⟨k, hk, rfl, HQ⟩ := hrel
    by_cases hlt : k < n
    · have hlt2 : decide ((k : Int) < (n : Int)) = true := by simp; exact hlt
      by_cases h0 : s = 0
      · have hd : decide (0 < s) = false := by simp; exact h0
        have HS := Lib.hid (show rfG L s = Tk.zero by rw [rfG, h0, fnd_zero]; rfl)
        have HS2 := Lib.hid (show rfB L s = false by rw [rfB, h0, fnd_zero]; rfl)
        clear h0
        have q0 := HR.out.cell 0
        have q1 := HR.out.cell 1
        have q2 := HR.out.cell 2
        have q3 := HR.out.cell 3
        have q4 := HR.out.cell 4
        have q5 := HR.out.cell 5
        have q6 := HR.out.cell 6
        have q7 := HR.out.cell 7
        have q8 := HR.out.cell 8
        have q9 := HR.out.cell 9
        simp only [List.getElem?_toArray, List.getElem?_cons_zero, List.getElem?_cons_succ] at q0 q1 q2 q3 q4 q5 q6 q7 q8 q9
        have fq0 := HR.out.frozen 0
        have fq1 := HR.out.frozen 1
        have fq2 := HR.out.frozen 2
        have fq3 := HR.out.frozen 3
        have fq4 := HR.out.frozen 4
        have fq5 := HR.out.frozen 5
        have fq6 := HR.out.frozen 6
        have fq7 := HR.out.frozen 7
        have fq8 := HR.out.frozen 8
        have fq9 := HR.out.frozen 9
        have hqz := HR.out.lt
        go_wp2
        refine bodyPost_ret (v := .tuple #[Tk.zero.V, .bool false]) ?_ rfl ⟨by rw [HS.out, HS2.out], ?_⟩
        · simp [results, Try.results12, go_sem, Tk.zero, Gt.zero, *]
        · have hb := HA.out
          go_grown
      · have hd : decide (0 < s) = true := by simp; omega
        have hkl : k < L.length := by rw [← HN.out]; exact hlt
        have hks : k < (secs L).length := by rw [secs_length]; exact hkl
        have hx : L[k]? = some L[k] := List.getElem?_eq_getElem hkl
        have hsk : (secs L)[k] = L[k].sec := by simp [secs]
        have HF := Lib.hid (fun h => fnd_first (secs L) s k hks HQ.out h0 (by rw [hsk]; exact h))
        have HX := Lib.hid (fun h => fnd_next (secs L) s k hks HQ.out (by rw [hsk]; exact h))
        have HGD := Lib.hid (show L.getD k Tk.zero = L[k] by rw [List.getD_eq_getElem?_getD, hx]; rfl)
        obtain ⟨g, o, rfl, hgz, a0, a1, a2, a3, a4, a5, a6, a7, a8, a9⟩ := HO.out.ten hx
        generalize L[k] = x at *
        clear hx hsk hks
        obtain ⟨xs, xp, ⟨g0, g1, g2, g3, g4, g5, g6, g7⟩⟩ := x
        simp only at a0 a1 a2 a3 a4 a5 a6 a7 a8 a9 HF HX
        by_cases hxs : xs = s
        · have hxe : ((xs : Int) == (s : Int)) = true := by simp; omega
          have HFE := Lib.hid (HF.out hxs)
          have HS := Lib.hid (show rfG L s = ⟨xs, xp, ⟨g0, g1, g2, g3, g4, g5, g6, g7⟩⟩ by rw [rfG, HFE.out, if_neg (by omega), Int.toNat_natCast]; exact HGD.out)
          have HS2 := Lib.hid (show rfB L s = true by rw [rfB, HFE.out]; simp)
          clear hxs h0
          go_upto_region 5 with fail
          have q0 := HR.out.cell 0
          have q1 := HR.out.cell 1
          have q2 := HR.out.cell 2
          have q3 := HR.out.cell 3
          have q4 := HR.out.cell 4
          have q5 := HR.out.cell 5
          have q6 := HR.out.cell 6
          have q7 := HR.out.cell 7
          have q8 := HR.out.cell 8
          have q9 := HR.out.cell 9
          simp only [List.getElem?_toArray, List.getElem?_cons_zero, List.getElem?_cons_succ] at q0 q1 q2 q3 q4 q5 q6 q7 q8 q9
          have fq0 := HR.out.frozen 0
          have fq1 := HR.out.frozen 1
          have fq2 := HR.out.frozen 2
          have fq3 := HR.out.frozen 3
          have fq4 := HR.out.frozen 4
          have fq5 := HR.out.frozen 5
          have fq6 := HR.out.frozen 6
          have fq7 := HR.out.frozen 7
          have fq8 := HR.out.frozen 8
          have fq9 := HR.out.frozen 9
          have hqz := HR.out.lt
          go_wp2
          refine bodyPost_ret (v := .tuple #[.agg #[.int .u64 xs, .int .u64 xp, .int .i64 g0, .int .i64 g1, .int .i64 g2, .int .i64 g3, .int .i64 g4, .int .i64 g5, .bool g6, .int .i64 g7], .bool true]) ?_ rfl ⟨by rw [HS.out, HS2.out], ?_⟩
          · simp [results, Try.results12, go_sem, *]
          · have hb := HA.out
            go_grown
        · have hxe : ((xs : Int) == (s : Int)) = false := by simp; omega
          have HE := Lib.hid (HX.out hxs)
          clear hxs h0
          go_wp2
          go_round
          case rel => exact ⟨k + 1, by omega, by go_num, HE⟩
          case measure => simp [intOf]; omega
    · obtain rfl : k = n := by omega
      have HZ := Lib.hid (show fnd (secs L) s = -1 by have h9 := HQ.out; rw [List.take_of_length_le (by rw [secs_length, ← HN.out]; omega)] at h9; exact h9)
      have HS := Lib.hid (show rfG L s = Tk.zero by rw [rfG, HZ.out]; rfl)
      have HS2 := Lib.hid (show rfB L s = false by rw [rfB, HZ.out]; rfl)
      have q0 := HR.out.cell 0
      have q1 := HR.out.cell 1
      have q2 := HR.out.cell 2
      have q3 := HR.out.cell 3
      have q4 := HR.out.cell 4
      have q5 := HR.out.cell 5
      have q6 := HR.out.cell 6
      have q7 := HR.out.cell 7
      have q8 := HR.out.cell 8
      have q9 := HR.out.cell 9
      simp only [List.getElem?_toArray, List.getElem?_cons_zero, List.getElem?_cons_succ] at q0 q1 q2 q3 q4 q5 q6 q7 q8 q9
      have fq0 := HR.out.frozen 0
      have fq1 := HR.out.frozen 1
      have fq2 := HR.out.frozen 2
      have fq3 := HR.out.frozen 3
      have fq4 := HR.out.frozen 4
      have fq5 := HR.out.frozen 5
      have fq6 := HR.out.frozen 6
      have fq7 := HR.out.frozen 7
      have fq8 := HR.out.frozen 8
      have fq9 := HR.out.frozen 9
      have hqz := HR.out.lt
      go_wp2
      refine bodyPost_ret (v := .tuple #[Tk.zero.V, .bool false]) ?_ rfl ⟨by rw [HS.out, HS2.out], ?_⟩
      · simp [results, Try.results12, go_sem, Tk.zero, Gt.zero, *]
      · have hb := HA.out
        go_grown
end Go.Proofs.Ytmlmndaflgfdkaa
