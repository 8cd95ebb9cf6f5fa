/- audit: a user's own events, yielded one by one. -/
import Derived.RangeFuncNested
import Derived.RangeFuncBound
import Derived.RangeFuncCalls
import Derived.RangeFuncLeaves
import Derived.Shelf.Abstract
import Derived.Shelf.RegionOpen
import Derived.OwnWalkIn
import Derived.TacticsInMore
import Derived.LoopNIn
import Derived.LoopIn
import Derived.Test.YtjkkhefdpcpjiaaAu4
namespace Go.Proofs.Ytjkkhefdpcpjiaa
set_option linter.unusedVariables false
set_option linter.unusedSimpArgs false
open Go.RowKit Go.Shelf
attribute [local go_sem] Oper.semAt_some
/-- A user's own events. -/
def owns (u : Int) (L : List Ev) : List Ev := L.filter fun e => e.user == u
theorem owns_hit {u : Int} {L : List Ev} {k : Nat} (hk : k < L.length) (h : L[k].user = u) : owns u (L.take (k + 1)) = owns u (L.take k) ++ [L[k]] := by
  unfold owns; rw [List.take_succ_eq_append_getElem hk, List.filter_append]; simp [List.filter_cons, h]
theorem owns_miss {u : Int} {L : List Ev} {k : Nat} (hk : k < L.length) (h : L[k].user ≠ u) : owns u (L.take (k + 1)) = owns u (L.take k) := by
  unfold owns; rw [List.take_succ_eq_append_getElem hk, List.filter_append]; simp [List.filter_cons, h]
theorem owns_pre (u : Int) (L : List Ev) (k : Nat) : owns u (L.take k) <+: owns u L := (List.take_prefix k L).filter _
theorem owns_pre_len {u : Int} {L : List Ev} {k : Nat} (hk : k < L.length) (h : L[k].user = u) : (owns u (L.take k)).length < (owns u L).length := by
  have h1 := (owns_pre u L (k + 1)).length_le
  rw [owns_hit hk h] at h1
  simp at h1; omega
theorem owns_len (u : Int) (L : List Ev) : (owns u L).length ≤ L.length := List.length_filter_le _ _
/-- What a round keeps. -/
structure KpO (n0 bt bu : Nat) (A B : World) : Prop where
  bel : Below n0 A B
  t : bt < A.heap.size → B.heap[bt]? = A.heap[bt]?
  u : bu < A.heap.size → B.heap[bu]? = A.heap[bu]?
theorem KpO.refl (n0 bt bu : Nat) (A : World) : KpO n0 bt bu A A := ⟨Below.refl _ _, fun _ => rfl, fun _ => rfl⟩
theorem KpO.trans {n0 bt bu : Nat} {A B C : World} (h : KpO n0 bt bu A B) (k : KpO n0 bt bu B C) : KpO n0 bt bu A C :=
  ⟨h.bel.trans k.bel, fun hi => (k.t (Nat.lt_of_lt_of_le hi h.bel.size)).trans (h.t hi), fun hi => (k.u (Nat.lt_of_lt_of_le hi h.bel.size)).trans (h.u hi)⟩
theorem KpO.put {n0 bt bu : Nat} {w : World} (hn : n0 ≤ w.heap.size) (ht : bt < w.heap.size) (hu : bu < w.heap.size) (W : World) (l : Nat) (o o' : Obj) (hl : w.heap.size ≤ l) (h : W.heap[l]? = some o) (h1 : o.isCells = false) (h2 : o.isWalk = false) : KpO n0 bt bu W (W.putObj l o') :=
  ⟨belowK_b hn W l o o' hl h h1 h2, fun hi => (grownBy_putObj' W l o').block bt hi (by simp; omega), fun hi => (grownBy_putObj' W l o').block bu hi (by simp; omega)⟩
/-- Events that are read below n0. -/
def Rd4 (n0 : Nat) (w : World) (A : Option Addr) (m : Nat) (R : List Ev) : Prop := m = R.length ∧ ∀ i x, R[i]? = some x → ∃ g o, A = some ⟨g, o, none⟩ ∧ g < n0 ∧
    w.cell? ⟨g, o + i * 4, none⟩ = some (.int .i64 x.user) ∧ w.cell? ⟨g, o + i * 4 + 1, none⟩ = some (.int .i64 x.op) ∧ w.cell? ⟨g, o + i * 4 + 2, none⟩ = some (.int .i64 x.st) ∧ w.cell? ⟨g, o + i * 4 + 3, none⟩ = some (.int .i64 x.tick)
theorem Rd4.keep {n0 : Nat} {w w' : World} {A : Option Addr} {m : Nat} {R : List Ev} (h : Rd4 n0 w A m R) (hb : Below n0 w w') : Rd4 n0 w' A m R :=
  ⟨h.1, fun i x hx => by
    obtain ⟨g, o, e, hg, h0, h1, h2, h3⟩ := h.2 i x hx
    exact ⟨g, o, e, hg, cell_block h0 fun _ => hb.block g hg, cell_block h1 fun _ => hb.block g hg, cell_block h2 fun _ => hb.block g hg, cell_block h3 fun _ => hb.block g hg⟩⟩
theorem TR.rd4 {w : World} {y n0 : Nat} {v : Value} {H : List Ev} {n p : Nat} (h : TR w y v H n p) (hv : ∀ i, v.ownBlock = some i → i < n0) : ∃ A c, cutV v n = .slice A (H.drop n).length c ∧ (H.drop n).length ≤ maxLen ∧ Rd4 n0 w A (H.drop n).length (H.drop n) := by
  have hr := (ERd.of_own elE_ok h.own).cut h.gone
  obtain ⟨A, c, e, h1, h2⟩ := hr.shape
  refine ⟨A, c, e, by omega, rfl, fun i x hx => ?_⟩
  rw [e] at hr
  obtain ⟨g, o, rfl, hc⟩ := hr.four hx
  refine ⟨g, o, rfl, ?_, hc⟩
  rcases h.own with ⟨rfl, rfl⟩ | ⟨g1, c1, rfl, _⟩
  · simp at hx
  · have h9 := hv g1 rfl
    simp only [cutV] at e
    injection e with e1 e2 e3
    split at e1
    · simp only [Option.some.injEq, Addr.mk.injEq] at e1; omega
    · simp only [Option.map_some, Option.some.injEq] at e1
      have e4 := congrArg Addr.block e1
      rw [block_of_add] at e4
      simp only at e4; omega
theorem grown_drew (W : World) (q : Nat) (row : Option Nat) : W.grownBy (W.drewN q) row := ⟨rfl, rfl, rfl, Nat.le_refl _, fun _ _ _ => rfl⟩
set_option maxRecDepth 100000 in
set_option maxHeartbeats 4000000 in
theorem own1_in (m : Nat) (hm : 1 ≤ m) (l bt bu y n0 : Nat) (v : Value) (H : List Ev) (n p : Nat) (u : Int) (J Jx : List Ev → World → Prop) (W : World)
    (hT : TR W y v H n p) (hv : ∀ i, v.ownBlock = some i → i < n0) (hn : n0 ≤ W.heap.size) (ct : W.cell? ⟨bt, 0, none⟩ = some (ptrA y)) (cu : W.cell? ⟨bu, 0, none⟩ = some (.int .i64 u)) (hJ : AbidesFrom W.heap.size J)
    (hY : ∀ pre x W1, J pre W1 → pre.length < (owns u (H.drop n)).length → YieldAt Fence.wide (m - 1) Try.prog l #[Ev.V x] W1 fun e W' => (e = .returned (.bool true) ∧ J (pre ++ [x]) W' ∧ KpO n0 bt bu W1 W') ∨ (e = .returned (.bool false) ∧ Jx (pre ++ [x]) W'))
    (h0 : J [] W) :
    CallsIn Fence.wide m Try.prog 28 #[.func (.yield l) #[] #[], .pointer (some ⟨bt, 0, none⟩), .pointer (some ⟨bu, 0, none⟩)] W fun e W' => (∃ v, e = .returned v) ∧
      ((∃ xs, xs = owns u (H.drop n) ∧ J xs W') ∨ (∃ pre, pre <+: owns u (H.drop n) ∧ Jx pre W')) := by
  obtain ⟨A, c, hA, hml, hR⟩ := hT.rd4 hv
  have HLF := Lib.hid (left_any W y v H n p hT)
  rw [hA] at HLF
  clear hA
  have HR := Lib.hid hR
  have HJ := Lib.hid hJ
  have HY := Lib.hid hY
  have H0 := Lib.hid h0
  have hbt := World.block_lt_of_cell? W _ ct
  have hbu := World.block_lt_of_cell? W _ cu
  simp only at hbt hbu
  clear hT hR hJ hY h0 hv
  generalize H.drop n = R at *
  obtain ⟨r, hr⟩ : ∃ r, r = R.length := ⟨_, rfl⟩
  rw [← hr] at HLF HR hml
  have HN := Lib.hid hr
  clear hr
  unfold maxLen at hml
  refine callsIn_of_wp Try.func28 rfl trivial ?_ rfl
  simp only [Try.ntmps28, List.size_toArray, List.length_cons, List.length_nil, Nat.reduceAdd, Nat.reduceSub, Array.replicate_succ, Array.replicate_zero, List.push_toArray, List.append_toArray, List.nil_append, List.cons_append]
  gi_wp2_with (refine ⟨trivial, ?_⟩; gi_at_call 24; refine (callsIn_wide.2 HLF.out).mono ?_; rintro e w1 ⟨rfl, q, rfl⟩)
  have hz1 : (W.drewN q).heap.size = W.heap.size := rfl
  have HJ1 := Lib.hid (HJ.out [] _ _ none H0.out (grown_drew W q none) (fun r e => by cases e))
  have HR1 := Lib.hid (HR.out.keep (show Below n0 W (W.drewN q) from below_drawn (Below.refl _ _) q))
  have cu1 : (W.drewN q).cell? ⟨bu, 0, none⟩ = some (.int .i64 u) := cu
  have HCU := Lib.hid cu1
  have HZ1 := Lib.hid hz1
  clear cu ct cu1 hz1 HR H0 HLF
  generalize W.drewN q = W1 at *
  gi_loopw [9] (fun i wr => ∃ k : Nat, k ≤ r ∧ i = .int .i64 k ∧ Hid (J (owns u (R.take k)) wr) ∧ Hid (Rd4 n0 wr A r R) ∧ Hid (wr.cell? ⟨bu, 0, none⟩ = some (.int .i64 u)) ∧ Hid (W.heap.size ≤ wr.heap.size))
    (fun i _ => r - (intOf i).toNat)
  case atStart => exact ⟨0, Nat.zero_le _, rfl, HJ1.out, HR1.out, HCU.out, Nat.le_of_eq HZ1.out.symm⟩
  case round =>
    obtain ⟨k, hk, rfl, HJk, HRk, HCk, HZk⟩ := hrel
    clear HJ1 HR1 HCU HZ1
    by_cases hlt : k < r
    · have hkl : k < R.length := by rw [← HN.out]; exact hlt
      have hx : R[k]? = some R[k] := List.getElem?_eq_getElem hkl
      obtain ⟨g, o, rfl, hg, a0, a1, a2, a3⟩ := HRk.out.2 k _ hx
      have HHIT := Lib.hid (fun h => owns_hit (u := u) hkl h)
      have HMISS := Lib.hid (fun h => owns_miss (u := u) hkl h)
      have HPL := Lib.hid (fun h => owns_pre_len (u := u) hkl h)
      generalize R[k] = x at *
      clear hx
      have HYk := Lib.hid (fun W1 h1 h2 => HY.out (owns u (R.take k)) x W1 h1 h2)
      obtain ⟨x0, x1, x2, x3⟩ := x
      simp only at a0 a1 a2 a3 HHIT HMISS HPL
      have hbk : bu < wr.heap.size := World.block_lt_of_cell? wr _ HCk.out
      have cu := HCk.out
      have HJ9 := Lib.hid (HJ.out _ _ _ none HJk.out (World.grownBy_alloc wr (.cells #[.int .i64 x0, .int .i64 x1, .int .i64 x2, .int .i64 x3] 27) none) (fun r e => by cases e))
      have HR9 := Lib.hid (HRk.out.keep (show Below n0 wr (wr.alloc (.cells #[.int .i64 x0, .int .i64 x1, .int .i64 x2, .int .i64 x3] 27)) from (Below.refl _ _).alloc (Nat.le_trans hn HZk.out) _))
      by_cases hu : x0 = u
      · subst hu
        have he : (x0 == x0) = true := by simp
        obtain ⟨fn, tmps, assign, body, hy, hR⟩ := HYk.out _ HJ9.out (HPL.out rfl)
        dsimp only [Ev.V] at hy
        have HHI := Lib.hid (HHIT.out rfl)
        clear HHIT HMISS HPL HYk HJ9 HJk HRk HCk
        gi_wp2
        refine hR.mono ?_
        rintro e W3 (⟨rfl, hJ3, hk3⟩ | ⟨rfl, hJx3⟩)
        · have HB3 := Lib.hid hk3.bel
          have hz3 := HZk.out
          have HU3 := Lib.hid (show W3.cell? ⟨bu, 0, none⟩ = some (.int .i64 x0) from by
            rw [World.cell?_of_block (a := ⟨bu, 0, none⟩) (hk3.u (by simp; omega))]
            exact (World.cell?_alloc_lt wr _ ⟨bu, 0, none⟩ hbk).trans cu)
          have HR3 := Lib.hid (HR9.out.keep HB3.out)
          have HJ3 := Lib.hid hJ3
          have HZ3 := Lib.hid (show W.heap.size ≤ W3.heap.size by have := HB3.out.size; simp at this; omega)
          clear hJ3 hk3 hR hy a0 a1 a2 a3 cu
          gi_wp2
          go_roundw
          case rel => exact ⟨k + 1, by omega, by go_num, by have h9 := HJ3.out; rw [← HHI.out] at h9; exact h9, HR3, HU3, HZ3⟩
          case measure => simp [intOf]; omega
        · gi_wp2
          refine bodyPost_ret (results_none rfl _ _ _) rfl ?_
          exact ⟨⟨_, rfl⟩, .inr ⟨owns x0 (R.take (k + 1)), owns_pre _ _ _, by rw [HHI.out]; exact hJx3⟩⟩
      · have he : (x0 == u) = false := by simpa using hu
        have HMI := Lib.hid (HMISS.out hu)
        have HC9 := Lib.hid ((World.cell?_alloc_lt wr (.cells #[.int .i64 x0, .int .i64 x1, .int .i64 x2, .int .i64 x3] 27) ⟨bu, 0, none⟩ hbk).trans cu)
        have HZ9 := Lib.hid (show W.heap.size ≤ (wr.alloc (.cells #[.int .i64 x0, .int .i64 x1, .int .i64 x2, .int .i64 x3] 27)).heap.size by have := HZk.out; simp; omega)
        clear HHIT HMISS HPL HYk HJk HRk HCk hu
        gi_wp2
        refine ⟨fun _ h => (by cases h), ?_⟩
        gi_wp2
        go_roundw
        case rel => exact ⟨k + 1, by omega, by go_num, by have h9 := HJ9.out; rw [← HMI.out] at h9; exact h9, HR9, HC9, HZ9⟩
        case measure => simp [intOf]; omega
    · obtain rfl : k = r := by omega
      gi_wp2
      go_end0
      exact ⟨⟨_, rfl⟩, .inl ⟨_, rfl, by have h9 := HJk.out; rw [List.take_of_length_le (Nat.le_of_eq HN.out.symm)] at h9; exact h9⟩⟩
end Go.Proofs.Ytjkkhefdpcpjiaa
