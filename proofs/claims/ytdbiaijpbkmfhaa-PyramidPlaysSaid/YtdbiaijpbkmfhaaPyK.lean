/- pyramid: the keys of a map, collected and put in order. -/
import Derived.RangeFuncNested
import Derived.RangeFuncBound
import Derived.RangeFuncCalls
import Derived.RangeFuncLeaves
import Derived.RangeFuncBox
import Derived.Shelf.Abstract
import Derived.Shelf.RegionOpen
import Derived.OwnWalkIn
import Derived.TacticsInMore
import Derived.LoopNIn
import Derived.LoopIn
import Derived.Maps.RangeWalk
import Derived.Sort.MapsRangeIn
import Derived.Test.YtdbiaijpbkmfhaaPyM
import Derived.Test.YtdbiaijpbkmfhaaRowG
import Derived.Test.YtdbiaijpbkmfhaaUsB
namespace Go.Proofs.Ytdbiaijpbkmfhaa
set_option linter.unusedVariables false
set_option linter.unusedSimpArgs false
open Go.RowKit Go.Shelf Go.Maps Go.Sort
attribute [local go_sem] Oper.semAt_some
def uOk (x : Int) : Prop := 0 ≤ x ∧ x < 18446744073709551616
theorem same_keyU (a b : Int) : (keyL a).sameKey (keyL b) = decide (a = b) := by
  by_cases h : a = b
  · subst h; simp [keyL, Lit.sameKey]
  · rw [Maps.sameKey_ne (keyL_ne h)]; simp [h]
/-- The keys that have come up, and those that are still to come. -/
structure KU (H : Int → Option Int) (left : Lit → Bool) (Ks : List Int) : Prop where
  all : ∀ u, (H u).isSome = (left (keyL u) || decide (u ∈ Ks))
  off : ∀ u ∈ Ks, left (keyL u) = false
  nodup : Ks.Nodup
  ok : ∀ u ∈ Ks, uOk u
theorem KU.start {H : Int → Option Int} {D : DataW Unit} (h : ∀ id, Maps.has D (keyL id) = (H id).isSome) : KU H (Maps.has D) [] := ⟨fun u => by rw [h u]; simp, fun u hu => by simp at hu, List.nodup_nil, fun u hu => by simp at hu⟩
theorem KU.step {H : Int → Option Int} {left : Lit → Bool} {Ks : List Int} (h : KU H left Ks) {x : Int} (hx : left (keyL x) = true) (ho : uOk x) : KU H (fun z => left z && !z.sameKey (keyL x)) (Ks ++ [x]) := by
  have hn : x ∉ Ks := fun hm => by rw [h.off x hm] at hx; cases hx
  refine ⟨fun u => ?_, fun u hu => ?_, ?_, fun u hu => ?_⟩
  · rw [h.all u, same_keyU]
    by_cases e : u = x
    · subst e; simp [hx]
    · simp [e]
  · rcases List.mem_append.1 hu with h1 | h1
    · simp [h.off u h1]
    · rw [List.mem_singleton.1 h1, same_keyU]; simp
  · rw [List.nodup_append]
    exact ⟨h.nodup, by simp, fun a ha b hb e => hn (by rw [List.mem_singleton.1 hb] at e; exact e ▸ ha)⟩
  · rcases List.mem_append.1 hu with h1 | h1
    · exact h.ok u h1
    · rw [List.mem_singleton.1 h1]; exact ho
/-- All keys, in some order. -/
def KeyR (H : Int → Option Int) (Ks : List Int) : Prop := Ks.Nodup ∧ (∀ u ∈ Ks, uOk u) ∧ ∀ u, u ∈ Ks ↔ (H u).isSome = true
theorem KU.done {H : Int → Option Int} {left : Lit → Bool} {Ks : List Int} (h : KU H left Ks) (hl : ∀ kl, left kl = false) : KeyR H Ks := ⟨h.nodup, h.ok, fun u => by rw [h.all u, hl]; simp⟩
theorem wf_uOk {x : Int} (h : (Lit.int .u64 x).wf = true) : uOk x := by
  have h1 : IntKind.u64.min = 0 := by decide
  have h2 : IntKind.u64.max = 18446744073709551615 := by decide
  simp only [Lit.wf, h1, h2, Bool.and_eq_true, decide_eq_true_eq] at h
  unfold uOk
  omega
theorem key_of_u64 {key : Value} {kl : Lit} (h : keyOf Try.prog 60 key = some kl) : ∃ x, key = .int .u64 x ∧ kl = keyL x ∧ uOk x := by
  obtain ⟨x, rfl, rfl, hw⟩ := Maps.keyOf_int_inv Try.underlying60 h
  exact ⟨x, rfl, rfl, wf_uOk hw⟩
set_option maxRecDepth 100000 in
set_option maxHeartbeats 4000000 in
theorem keys1_in (m : Nat) (hm : 1 ≤ m) (l bm b n c : Nat) (H : Int → Option Int) (J Jx : List Int → World → Prop) (W : World) (hM : MapP W b n H c) (cb : W.cell? ⟨bm, 0, none⟩ = some (.map (some b))) (hJ : AbidesFrom W.heap.size J)
    (hY : ∀ pre x W1, J pre W1 → pre.length < c → YieldAt Fence.wide (m - 1) Try.prog l #[.int .u64 x] W1 fun e W' => (e = .returned (.bool true) ∧ J (pre ++ [x]) W' ∧ KeepsWalks W1 W') ∨ (e = .returned (.bool false) ∧ Jx (pre ++ [x]) W'))
    (h0 : J [] W) :
    CallsIn Fence.wide m Try.prog 51 #[.func (.yield l) #[] #[], .pointer (some ⟨bm, 0, none⟩)] W fun e W' => (∃ v, e = .returned v) ∧
      ((∃ xs, KeyR H xs ∧ J xs W') ∨ (∃ pre, True ∧ Jx pre W')) := by
  obtain ⟨D, hown, -, -, hhas, -, hsz⟩ := hM
  have HHAS := Lib.hid hhas
  have HSZ := Lib.hid hsz
  have HJ := Lib.hid hJ
  have HY := Lib.hid hY
  have H0 := Lib.hid h0
  clear hhas hsz hJ hY h0
  refine callsIn_of_wp Try.func51 rfl trivial ?_ rfl
  simp only [Try.ntmps51, List.size_toArray, List.length_cons, List.length_nil, Nat.reduceAdd, Nat.reduceSub, Array.replicate_succ, Array.replicate_zero, List.push_toArray, List.append_toArray, List.nil_append, List.cons_append]
  gi_wp2_with (first
    | (gi_at_range; refine wpListIn_range_own _ rfl _ 55 rfl 60 3 (int_keyed Try.underlying60) Try.underlying55 recR b n D rfl hown ?_; intro w0 hrg0 hg0 hs0)
    | gi_in)
  go_frame
  gi_loopw [3] (fun _ wr => ∃ (left : Lit → Bool) (cnt : Nat) (ss : List Int), wr.ranges Try.prog 60 recR b W.heap.size n D left cnt ∧ ss.length + cnt ≤ c ∧ Hid (KU H left ss) ∧ Hid (J ss wr))
    (fun _ wr => wr.rangeLeft b W.heap.size)
  case atStart =>
    exact ⟨_, _, [], hrg0, by rw [HSZ.out]; simp, Lib.hid (KU.start HHAS.out), Lib.hid (HJ.out [] W w0 none H0.out hg0 (fun r e => by cases e))⟩
  case round =>
    obtain ⟨left, cnt, ss, hrg, hcs, hC, hJs⟩ := hrel
    gi_wp2_with (first
      | (gi_at_next; refine wpListIn_next_ranges _ rfl _ rfl 60 (int_keyed Try.underlying60) recR (Value.int .u64) (fun v : Value => v) (fun key kl hk => by obtain ⟨x, hx, _⟩ := key_of_u64 hk; exact ⟨x, hx⟩) (fun v _ _ => ⟨v, rfl⟩) b W.heap.size n D left cnt rfl hrg ?_ ?_)
      | gi_in)
    · intro hc0 hl0
      gi_wp2
      go_end0
      exact ⟨⟨_, rfl⟩, .inl ⟨ss, hC.out.done hl0, hJs.out⟩⟩
    · intro x cv kl yd yp w2 cnt2 hkey hlk hv hat hrg2 hlt hg2 hs2 hen
      obtain ⟨x', ex, rfl, hok⟩ := key_of_u64 hkey
      obtain rfl : x = x' := by simpa using ex
      have hJ2 : J ss w2 := HJ.out ss wr w2 (some W.heap.size) hJs.out hg2 (fun r e => by cases e; exact ⟨Nat.le_refl _, hrg.iter_walk⟩)
      obtain ⟨fn, tmps, assign, body, hy, hR⟩ := HY.out ss x w2 hJ2 (by omega)
      have HC2 := Lib.hid (hC.out.step hlk hok)
      clear hs2
      gi_wp2
      refine hR.mono ?_
      rintro e W3 (⟨rfl, hJ3, hk3⟩ | ⟨rfl, hJx3⟩)
      · gi_wp2
        have hrg3 := hrg2.of_walks hk3
        go_roundw
        case rel => exact ⟨_, cnt2, ss ++ [x], hrg3, by simp; omega, HC2, Lib.hid hJ3⟩
        case measure => rw [hrg3.left_eq, hrg.left_eq]; exact hlt
      · gi_wp2
        refine bodyPost_ret (results_none rfl _ _ _) rfl ?_
        exact ⟨⟨_, rfl⟩, .inr ⟨ss ++ [x], trivial, hJx3⟩⟩
end Go.Proofs.Ytdbiaijpbkmfhaa
