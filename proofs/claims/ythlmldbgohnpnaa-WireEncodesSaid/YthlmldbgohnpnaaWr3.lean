/- wire: numbers, by contract. -/
import Derived.Test.YthlmldbgohnpnaaWr2
import Derived.IntWalk
namespace Go.Proofs.Ythlmldbgohnpnaa
set_option linter.unusedVariables false
set_option linter.unusedSimpArgs false
open Go.RowKit
theorem wrapU (x : Int) : IntKind.u64.wrap x = (toU x : Int) := by unfold toU IntKind.wrap; simp [IntKind.bits, IntKind.signed]; omega
theorem wrapI {n : Nat} (h : n ≤ 18446744073709551615) : IntKind.i64.wrap (n : Int) = toI n := by unfold toI IntKind.wrap; simp [IntKind.bits, IntKind.signed]; split <;> split <;> omega
/-- Behind whole with a number of one's own: the request's block is as it was. -/
theorem WDone.boxed {B : Nat} {w0 w wr w2 : World} {y q g : Nat} {s s' : Wk} {tq : TypeId} {cq cm : Array Value} {o : Obj} (h : WDone B w0 y q tq s cq w wr) (hg : g = wr.heap.size) (k : WDone B w0 y g 23 s' cm (wr.alloc o) w2) (ht : tq ≠ 48) (ht2 : tq ≠ 5) : WDone B w0 y q tq s' cq w w2 := by
  have hne := h.ws.ne h.bq ht
  have hb : Below wr.heap.size wr (wr.alloc o) := (Below.refl _ _).alloc (Nat.le_refl _) _
  have hql := h.bq.lt
  refine ⟨k.ws, k.fr.blk q tq cq (h.bq.thru0 hb) ht2 hne (by omega), ⟨?_, fun i t cs hi hit h1 h2 => ?_⟩⟩
  · have h1 := h.fr.size; have h2 := k.fr.size; have := hb.size; omega
  · have h3 := h.fr.blk i t cs hi hit h1 h2
    have h4 := h3.lt
    exact k.fr.blk i t cs (h3.thru0 hb) hit h1 (by omega)
set_option maxHeartbeats 4000000 in
theorem numbers_any {B : Nat} {w0 : World} {y q g c : Nat} {s : Wk} {tq : TypeId} {cq : Array Value} (w : World) (k : Nat) (l : List Nat) (h : WS B w0 y s w) (hq : Blk w q tq cq) (hqB : B ≤ q) (ht : tq ≠ 48) (ht2 : tq ≠ 5) (ht3 : tq ≠ 65) (hp : Ptrs w g q l) (hi : Ints cq l) (hr : Room s (l.length * k)) (hk1 : 1 ≤ k) (hk8 : k ≤ 8) (hl : l.length ≤ 100) :
    Calls Try.prog 30 #[ptrW y, .int .i64 (k : Int), .slice (some ⟨g, 0, none⟩) l.length c] w fun e w' => WEnd B w0 y q tq (Wk.nums k l s cq).1 (Wk.nums k l s cq).2 w e w' := by
  have HPT := Lib.hid hp
  have HI := Lib.hid hi
  have HR := Lib.hid hr
  have HT := Lib.hid ht
  have HT2 := Lib.hid ht2
  have HT3 := Lib.hid ht3
  have HK1 := Lib.hid hk1
  have HK8 := Lib.hid hk8
  have HQB := Lib.hid hqB
  have HGQ : Hid (g ≠ q) := Lib.hid (Blk.ne_ hp hq (Ne.symm ht3))
  have HGY : Hid (g ≠ y) := Lib.hid (by obtain ⟨v, h1, _⟩ := h.st; exact Blk.ne_ hp h1 (by decide))
  have HB : Hid (B ≤ w.heap.size) := Lib.hid (Nat.le_trans h.h0 h.bel.size)
  have HD0 : Hid (WDone B w0 y q tq (Wk.nums k (l.take 0) s cq).1 (Wk.nums k (l.take 0) s cq).2 w w) := Lib.hid (WDone.refl h hq)
  clear h hq hqB ht ht2 ht3 hp hi hr hk1 hk8
  go_enter Try.func30, Try.ntmps30
  go_wp2_with fail
  go_loopw [11] (fun i wr => ∃ j : Nat, j ≤ l.length ∧ i = .int .i64 j ∧ Hid (WDone B w0 y q tq (Wk.nums k (l.take j) s cq).1 (Wk.nums k (l.take j) s cq).2 w wr)) (fun i _ => l.length - (intOf i).toNat)
  case atStart => exact ⟨0, Nat.zero_le _, rfl, HD0⟩
  case round =>
    rename_i wr
    obtain ⟨j, hj, rfl, HD⟩ := hrel
    by_cases hlt : j < l.length
    · have HT1 : Hid (l.take (j + 1) = l.take j ++ [l[j]]) := Lib.hid (List.take_succ_eq_append_getElem hlt)
      have HN := Lib.hid (nums_split k (l.take j) [l[j]] s cq)
      have HII := Lib.hid (nums_ints k HK8.out (l.take j) s cq l HI.out)
      have HRM : Hid (Room (Wk.nums k (l.take j) s cq).1 k) := Lib.hid (nums_room k _ s cq k (HR.out.less (by
        rw [List.length_take, Nat.min_eq_left hj]
        have : (j + 1) * k ≤ l.length * k := Nat.mul_le_mul_right _ hlt
        rw [Nat.add_mul, Nat.one_mul] at this; omega)))
      have kp := (HD.out.fr.blk g _ _ HPT.out (by decide) HGY.out HGQ.out).cell j
      simp only [List.getElem?_toArray, List.getElem?_map, List.getElem?_eq_getElem hlt, Option.map_some] at kp
      generalize Wk.nums k (l.take j) s cq = S at *
      have HM : l[j] ∈ l := List.getElem_mem hlt
      generalize l[j] = o at *
      obtain ⟨s1, c1⟩ := S
      obtain ⟨x, hx, hxo⟩ := HII.out o HM
      simp only at hx
      have HS2 : Hid (Wk.nums k (l.take (j + 1)) s cq = (s1.whole k (toU x), c1.setIfInBounds o (.int .i64 (toI (s1.num k (toU x)))))) := Lib.hid (by
        rw [HT1.out, HN.out]
        simp only [Wk.nums, Array.getD_eq_getD_getElem?, hx, Option.getD_some, intOf])
      have kx := HD.out.bq.cell o
      simp only [hx] at kx
      have fx := HD.out.bq.frozen o
      have wu := wrapU x
      have HBX := Lib.hid (show Blk (wr.alloc (.cells #[.int .u64 (toU x : Int)] 23)) wr.heap.size 23 #[.int .u64 (toU x : Int)] from Blk.new _ _ _)
      have HWA := Lib.hid (show WS B w0 y s1 (wr.alloc (.cells #[.int .u64 (toU x : Int)] 23)) from HD.out.ws.below ((Below.refl _ _).alloc (Nat.le_refl _) _))
      have HBr : Hid (B ≤ wr.heap.size) := Lib.hid (by have := HB.out; have := HD.out.fr.size; omega)
      have HX := Lib.hid hx
      clear hx hxo HM HII HN HT1
      go_wp2_with fail
      refine (whole_any _ k (toU x) 0 HWA.out HBX.out HBr.out (by decide) (by decide) rfl (toU_le x) HRM.out HK1.out HK8.out).mono ?_
      rintro e w2 ⟨rfl, hdn⟩
      have HD2 := Lib.hid (HD.out.boxed rfl hdn HT.out HT2.out)
      have km := hdn.bq.cell 0
      have kx2 := HD2.out.bq.cell o
      rw [HX.out] at kx2
      have fx2 := HD2.out.bq.frozen o
      have hnl : s1.num k (toU x) ≤ 18446744073709551615 := Wk.num_le HK8.out (toU_le x)
      have wi := wrapI hnl
      have HE := Lib.hid (HD2.out.setQ HQB.out HT.out HT2.out o (.int .i64 (toI (s1.num k (toU x)))))
      simp only [List.setIfInBounds_toArray, List.set_cons_zero, List.getElem?_toArray, List.getElem?_cons_zero] at km
      clear hdn kx fx kp wu hnl
      generalize s1.num k (toU x) = m at *
      go_wp2_with fail
      go_roundw
      case rel => exact ⟨j + 1, by omega, by go_num, Lib.hid (by rw [HS2.out]; exact HE.out)⟩
      case measure => simp [intOf]; omega
    · obtain rfl : j = l.length := by omega
      have HE := Lib.hid HD.out
      rw [List.take_length] at HE
      go_wp2_with fail
      go_end0
      exact ⟨rfl, HE.out⟩
end Go.Proofs.Ythlmldbgohnpnaa
