/- sort.Sort over the entries of a row: what its functions keep; insertionSort, siftDown. -/
import Derived.Test.YtdmmglnpeoeicaaQLess
import Derived.Deep.RegionLaw
import Derived.Deep.DeepCutAuto
import Derived.Deep.LoopGhost
import Derived.Sort.AssemblyPlain
namespace Go.Proofs.Ytdmmglnpeoeicaa
set_option linter.unusedVariables false
set_option linter.unusedSimpArgs false
open Go.RowKit
theorem at_arr (d : Array En) (i : Nat) : at_ d.toList i = d[i]! := by
  simp [at_, List.getD_eq_getElem?_getD, getElem!_def]
  rfl
theorem sw_swp (d : Array En) (i j : Nat) : sw d.toList i j = (Sort.swp d i j).toList := by
  unfold sw Sort.swp
  rw [at_arr, at_arr]
  simp
theorem swo_ltE : Sort.SWO ltE where
  irrefl := fun x => ltE_false.2 (LtE.irrefl x)
  trans := fun x y z h k => ltE_true.2 ((ltE_true.1 h).trans (ltE_true.1 k))
  ntrans := fun x y z h k => ltE_false.2 (by have := ltE_false.1 h; have := ltE_false.1 k; exact LtE.le_trans (a := z) (b := y) (c := x) (by assumption) (by assumption))
/-- Since w0 nothing that was there is changed but the row in g, which holds the entries d. -/
def SA (w0 : World) (g cap : Nat) (d : Array En) (w : World) : Prop := g < w0.heap.size ∧ QRow w g cap d.toList ∧ w0.grownBy w (some g)
theorem grown_below {a b c : World} {r : Option Nat} (h : a.grownBy b r) (k : Below b.heap.size b c) : a.grownBy c r :=
  ⟨k.os.trans h.os, k.tape.trans h.tape, k.output.trans h.output, Nat.le_trans h.size k.size, fun i hi hne => (k.block i (Nat.lt_of_lt_of_le hi h.size)).trans (h.block i hi hne)⟩
theorem SA.below {w0 w w' : World} {g cap : Nat} {d : Array En} (h : SA w0 g cap d w) (hb : Below w.heap.size w w') : SA w0 g cap d w' := ⟨h.1, h.2.1.below hb, grown_below h.2.2 hb⟩
theorem SA.size {w0 w : World} {g cap : Nat} {d : Array En} (h : SA w0 g cap d w) : w0.heap.size ≤ w.heap.size := h.2.2.size
theorem SA.set {w0 w : World} {g cap : Nat} {d : Array En} (h : SA w0 g cap d w) (b o : Nat) (v : Value) (hb : w0.heap.size ≤ b) : SA w0 g cap d (w.setCell ⟨b, o, none⟩ v) := by
  have hne : ∀ i, i < w0.heap.size → (w.setCell ⟨b, o, none⟩ v).heap[i]? = w.heap[i]? := fun i hi => Below.heap_setCell w _ v i (by simp; omega)
  refine ⟨h.1, h.2.1.keep (hne g h.1), ⟨h.2.2.os, h.2.2.tape, h.2.2.output, by simpa using h.2.2.size, fun i hi hg => (hne i hi).trans (h.2.2.block i hi hg)⟩⟩
theorem meth_sless (F : Nat) (v : Value) (w : World) : (method (F + 1) 46 v "Less").run Try.prog w = .ok (65, v) w := by kernel_rfl
theorem meth_sswap (F : Nat) (v : Value) (w : World) : (method (F + 1) 46 v "Swap").run Try.prog w = .ok (66, v) w := by kernel_rfl
theorem meth_slen (F : Nat) (v : Value) (w : World) : (method (F + 1) 46 v "Len").run Try.prog w = .ok (64, v) w := by kernel_rfl
theorem sless {w0 w : World} {g cap n : Nat} {d : Array En} (h : SA w0 g cap d w) (hs : d.size = n) {i j : Nat} {I J : Int} (hi : i < n) (hj : j < n) (hI : (i : Int) = I) (hJ : (j : Int) = J) :
    Calls Try.prog 65 #[.slice (some ⟨g, 0, none⟩) n cap, .int .i64 I, .int .i64 J] w fun e w' => e = .returned (.bool (ltE d[i]! d[j]!)) ∧ Below w.heap.size w w' := by
  subst hs hI hJ
  have := eless_any g cap i j d.toList w h.2.1 (by simpa using hi) (by simpa using hj)
  simp only [at_arr, Array.length_toList] at this
  exact this
theorem sswap {w0 w : World} {g cap n : Nat} {d : Array En} (h : SA w0 g cap d w) (hs : d.size = n) {i j : Nat} {I J : Int} (hi : i < n) (hj : j < n) (hI : (i : Int) = I) (hJ : (j : Int) = J) :
    Calls Try.prog 66 #[.slice (some ⟨g, 0, none⟩) n cap, .int .i64 I, .int .i64 J] w fun e w' => e = .returned (.tuple #[]) ∧ SA w0 g cap (Sort.swp d i j) w' := by
  subst hs hI hJ
  have := eswap_any g cap i j d.toList w h.2.1 (by simpa using hi) (by simpa using hj)
  simp only [Array.length_toList] at this
  exact this.mono fun e w' ⟨he, hq, hg⟩ => ⟨he, h.1, by rw [← sw_swp]; exact hq, grown_trans' h.2.2 hg⟩
/-- The sort's function has ended, the row has d'. -/
def SP (w0 : World) (g cap : Nat) (d' : Array En) (e : Ending) (w' : World) : Prop := e = .returned (.tuple #[]) ∧ SA w0 g cap d' w'
theorem insInner_go1 (a j : Nat) (d : Array En) (h : a < j) (hl : ltE d[j]! d[j - 1]! = true) : Sort.insInner ltE a j d = Sort.insInner ltE a (j - 1) (Sort.swp d j (j - 1)) := by
  obtain ⟨k, rfl⟩ : ∃ k, j = k + 1 := ⟨j - 1, by omega⟩
  simp only [Nat.add_sub_cancel] at hl ⊢
  rw [Sort.insInner, if_pos (by simp [hl]; omega)]
theorem insInner_stop1 (a j : Nat) (d : Array En) (h : j ≤ a ∨ ltE d[j]! d[j - 1]! = false) : Sort.insInner ltE a j d = d := by
  cases j with
  | zero => rfl
  | succ k =>
    rw [Sort.insInner, if_neg]
    simp only [Nat.add_sub_cancel] at h
    rcases h with h | h
    · simp; omega
    · simp [h]
def InsR (w0 : World) (g cap n a b : Nat) (d : Array En) (i : Nat) (w : World) : Prop := ∃ dk : Array En, dk.size = n ∧ SA w0 g cap dk w ∧ Sort.insOuter ltE a b i dk = Sort.insOuter ltE a b (a + 1) d
def InsI (w0 : World) (g cap n a : Nat) (d : Array En) (i j : Nat) (w : World) : Prop := ∃ dk : Array En, dk.size = n ∧ SA w0 g cap dk w ∧ Sort.insInner ltE a j dk = Sort.insInner ltE a i d
set_option maxHeartbeats 2000000 in
theorem sins_any (w0 : World) (g cap n a b : Nat) (d : Array En) (w : World) (h : SA w0 g cap d w) (hs : d.size = n) (hab : a ≤ b) (hbn : b ≤ n) (hn : n ≤ 4611686018427387904) :
    Calls Try.prog 34 #[.iface 46 (.slice (some ⟨g, 0, none⟩) n cap), .int .i64 (a : Int), .int .i64 (b : Int)] w fun e w' => SP w0 g cap (Sort.insertionSort ltE d a b) e w' := by
  have HR := Lib.hid (show InsR w0 g cap n a b d (a + 1) w from ⟨d, hs, h, rfl⟩)
  clear h hs
  have mL := meth_sless; have mS := meth_sswap
  go_enter Try.func34, Try.ntmps34
  go_wp2
  go_loopw [6] (fun vi wr => ∃ i : Nat, vi = .int .i64 i ∧ a < i ∧ i ≤ b + 1 ∧ Hid (InsR w0 g cap n a b d i wr)) (fun vi _ => b + 1 - (intOf vi).toNat)
  case atStart => exact ⟨a + 1, by go_num, by omega, by omega, HR⟩
  case round =>
    clear HR
    obtain ⟨i, rfl, hai, hib, hrel⟩ := hrel
    by_cases hlt : i < b
    · obtain ⟨dk, hsk, hk, hO⟩ := hrel.out
      have HO := Lib.hid hO
      have HI := Lib.hid (show InsI w0 g cap n a dk i i wr from ⟨dk, hsk, hk, rfl⟩)
      clear hO hk hsk hrel
      go_wp2
      go_loopw [7] (fun vj wr2 => ∃ j : Nat, vj = .int .i64 j ∧ a ≤ j ∧ j ≤ i ∧ Hid (InsI w0 g cap n a dk i j wr2)) (fun vj _ => (intOf vj).toNat)
      case atStart => exact ⟨i, rfl, by omega, Nat.le_refl _, HI⟩
      case round =>
        clear HI
        obtain ⟨j, rfl, haj, hji, hrel⟩ := hrel
        obtain ⟨dj, hsj, hj, hI⟩ := hrel.out
        clear hrel
        have HI := Lib.hid hI; have HJ := Lib.hid hj; have HS := Lib.hid hsj
        clear hI hj hsj
        have HOUT := Lib.hid (show ∀ wz, SA w0 g cap dj wz → (j ≤ a ∨ ltE dj[j]! dj[j - 1]! = false) → InsR w0 g cap n a b d (i + 1) wz from fun wz hz hst => ⟨dj, HS.out, hz, by rw [← HO.out, Sort.insOuter.eq_def ltE a b i dk, if_pos hlt, ← HI.out, insInner_stop1 a j dj hst]⟩)
        by_cases hja : a < j
        · have hL := sless HJ.out HS.out (i := j) (j := j - 1) (I := j) (J := (j : Int) - 1) (by omega) (by omega) rfl (by omega)
          cases hlv : ltE dj[j]! dj[j - 1]! with
          | true =>
            rw [hlv] at hL
            have HL := Lib.hid hL; have HV := Lib.hid hlv; clear hL hlv
            go_wp2_with fail
            refine HL.out.mono ?_
            rintro e w2 ⟨rfl, hb⟩
            have HSW := Lib.hid (sswap (HJ.out.below hb) HS.out (i := j) (j := j - 1) (I := j) (J := (j : Int) - 1) (by omega) (by omega) rfl (by omega))
            clear hb
            go_wp2_with fail
            refine HSW.out.mono ?_
            rintro e w3 ⟨rfl, hsa⟩
            have HN := Lib.hid (show InsI w0 g cap n a dk i (j - 1) w3 from ⟨_, by rw [Sort.size_swp]; exact HS.out, hsa, by rw [← HI.out, insInner_go1 a j dj hja HV.out]⟩)
            clear hsa
            go_wp2
            go_roundw
            case rel => exact ⟨j - 1, by congr 1; omega, by omega, by omega, HN⟩
            case measure => simp [intOf]; omega
          | false =>
            rw [hlv] at hL
            have HL := Lib.hid hL; have HV := Lib.hid hlv; clear hL hlv
            go_wp2_with fail
            refine HL.out.mono ?_
            rintro e w2 ⟨rfl, hb⟩
            have HN := Lib.hid (HOUT.out w2 (HJ.out.below hb) (.inr HV.out))
            clear hb
            go_wp2
            go_roundw
            case rel => exact ⟨i + 1, by go_num, by omega, by omega, HN⟩
            case measure => simp [intOf]; omega
        · have HN := Lib.hid (HOUT.out _ HJ.out (.inl (by omega)))
          go_wp2
          go_roundw
          case rel => exact ⟨i + 1, by go_num, by omega, by omega, HN⟩
          case measure => simp [intOf]; omega
    · have HE := Lib.hid (show SP w0 g cap (Sort.insertionSort ltE d a b) (.returned (.tuple #[])) wr from ⟨rfl, by
        obtain ⟨dk, _, hk, hO⟩ := hrel.out
        rw [Sort.insertionSort, ← hO, Sort.insOuter.eq_def, if_neg hlt]; exact hk⟩)
      clear hrel
      go_wp2
      go_end0
      exact HE.out
end Go.Proofs.Ytdmmglnpeoeicaa
