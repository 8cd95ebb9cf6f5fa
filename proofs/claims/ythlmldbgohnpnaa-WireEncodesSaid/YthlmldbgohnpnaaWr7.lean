/- wire: box, by contract. -/
import Derived.Test.YthlmldbgohnpnaaWr6
import Derived.Test.YthlmldbgohnpnaaGeom
import Derived.StillTailTactics
import Derived.Deep.RegionHeld3
namespace Go.Proofs.Ythlmldbgohnpnaa
set_option linter.unusedVariables false
set_option linter.unusedSimpArgs false
open Go.RowKit
def iAt (c : Array Value) (o : Nat) : Int := intOf (c.getD o undef)
theorem Ints.at {c : Array Value} {l : List Nat} (h : Ints c l) {o : Nat} (ho : o ∈ l) : c[o]? = some (.int .i64 (iAt c o)) := by
  obtain ⟨x, hx, _⟩ := h o ho
  simp [iAt, Array.getD_eq_getD_getElem?, hx, intOf]
theorem Ints.ok {c : Array Value} {l : List Nat} (h : Ints c l) {o : Nat} (ho : o ∈ l) : i64ok (iAt c o) := by
  obtain ⟨x, hx, hk⟩ := h o ho
  simpa [iAt, Array.getD_eq_getD_getElem?, hx, intOf] using hk
def boxL (o : Nat) : List Nat := [o, o + 1, o + 2, o + 3]
def Wk.boxs (o : Nat) (s : Wk) (c : Array Value) : Wk × Array Value :=
  ({ (Wk.nums 2 (boxL o) s c).1 with bad := (Wk.nums 2 (boxL o) s c).1.bad || !(rightB (iAt (Wk.nums 2 (boxL o) s c).2 o) (iAt (Wk.nums 2 (boxL o) s c).2 (o + 1)) (iAt (Wk.nums 2 (boxL o) s c).2 (o + 2)) (iAt (Wk.nums 2 (boxL o) s c).2 (o + 3))) }, (Wk.nums 2 (boxL o) s c).2)
set_option maxHeartbeats 4000000 in
theorem box_any {B : Nat} {w0 : World} {y q : Nat} {s : Wk} {tq : TypeId} {cq : Array Value} (w : World) (o : Nat) (h : WS B w0 y s w) (hq : Blk w q tq cq) (hqB : B ≤ q) (ht : tq ≠ 48) (ht2 : tq ≠ 5) (ht3 : tq ≠ 65) (hi : Ints cq (boxL o)) (hr : Room s 8) :
    Calls Try.prog 34 #[ptrW y, .pointer (some ⟨q, o, none⟩)] w fun e w' => WEnd B w0 y q tq (Wk.boxs o s cq).1 (Wk.boxs o s cq).2 w e w' := by
  have HAL : Hid (Below w.heap.size w (w.drew.alloc (.cells #[.pointer (some ⟨q, o, none⟩), .pointer (some ⟨q, o + 1, none⟩), .pointer (some ⟨q, o + 2, none⟩), .pointer (some ⟨q, o + 3, none⟩)] 65))) := Lib.hid ((below_drawn (Below.refl w.heap.size w) 1).alloc (Nat.le_refl _) _)
  have HND : Hid (WDone B w0 y q tq s cq w (w.drew.alloc (.cells #[.pointer (some ⟨q, o, none⟩), .pointer (some ⟨q, o + 1, none⟩), .pointer (some ⟨q, o + 2, none⟩), .pointer (some ⟨q, o + 3, none⟩)] 65))) := Lib.hid ⟨WS.below h (HAL.out), Blk.thru0 hq HAL.out, WF.of_below HAL.out⟩
  have HP : Hid (Ptrs (w.drew.alloc (.cells #[.pointer (some ⟨q, o, none⟩), .pointer (some ⟨q, o + 1, none⟩), .pointer (some ⟨q, o + 2, none⟩), .pointer (some ⟨q, o + 3, none⟩)] 65)) w.drew.heap.size q (boxL o)) := Lib.hid (Blk.new _ _ _)
  have HC := Lib.hid (numbers_any (c := 4) _ 2 (boxL o) HND.out.ws HND.out.bq hqB ht ht2 ht3 HP.out hi hr (by decide) (by decide) (by simp [boxL]))
  have HII := Lib.hid (nums_ints 2 (by decide) (boxL o) s cq _ hi)
  have HT := Lib.hid ht
  have HB0 := Lib.hid h.bel
  clear h hq hqB ht ht2 ht3 hi hr
  unfold Wk.boxs
  generalize Wk.nums 2 (boxL o) s cq = S at *
  obtain ⟨s1, c1⟩ := S
  simp only at HC HII ⊢
  go_enter Try.func34, Try.ntmps34
  go_wp2_with fail
  go_region_held3 (fun w' => Below B w0 w') (first | assumption | exact HB0.out | exact HND.out.ws.bel | exact below_drawn HB0.out 1) ((go_at_call 30; refine HC.out.mono ?_; rintro e w2 ⟨rfl, hdn⟩; have hbel := hdn.ws.bel))
  have HD := Lib.hid (HND.out.more hdn)
  have i0 := HII.out.at (show o ∈ boxL o by simp [boxL])
  have i1 := HII.out.at (show o + 1 ∈ boxL o by simp [boxL])
  have i2 := HII.out.at (show o + 2 ∈ boxL o by simp [boxL])
  have i3 := HII.out.at (show o + 3 ∈ boxL o by simp [boxL])
  have j0 := HD.out.bq.cell o
  have j1 := HD.out.bq.cell (o + 1)
  have j2 := HD.out.bq.cell (o + 2)
  have j3 := HD.out.bq.cell (o + 3)
  rw [i0] at j0
  rw [i1] at j1
  rw [i2] at j2
  rw [i3] at j3
  clear hdn HC HND HAL HP HII i0 i1 i2 i3
  obtain ⟨v, hy, _⟩ := HD.out.ws.st
  have HY := Lib.hid hy
  have ky := hy.cell 3
  have fy := hy.frozen 3
  simp only [List.getElem?_toArray, List.getElem?_cons_zero, List.getElem?_cons_succ] at ky
  have HFL := Lib.hid (fun b => HD.out.flag HT.out b)
  clear hy
  cases hb : s1.bad with
  | true =>
    rw [hb] at ky
    have HBD := Lib.hid hb
    clear hb
    go_wp2_with fail
    go_end0
    exact ⟨rfl, by rw [HBD.out, Bool.true_or]; exact HFL.out true⟩
  | false =>
    rw [hb] at ky
    have HBD := Lib.hid hb
    clear hb
    go_wp2_with fail
    refine (right_any _ _ _ _ w2).mono ?_
    rintro e w3 ⟨rfl, hb3⟩
    have hd3 := (WDone.mk (HD.out.ws.below hb3) (HD.out.bq.thru0 hb3) (HD.out.fr.trans (WF.of_below hb3)) : WDone B w0 y q tq s1 c1 w w3)
    have HF3 := Lib.hid (fun b => hd3.flag HT.out b)
    have fy3 := (HY.out.thru0 hb3).frozen 3
    have ky3 := (HY.out.thru0 hb3).cell 3
    simp only [List.getElem?_toArray, List.getElem?_cons_zero, List.getElem?_cons_succ] at ky3
    clear hb3 hd3 ky fy j0 j1 j2 j3 HD HFL HY
    generalize hB : rightB (iAt c1 o) (iAt c1 (o + 1)) (iAt c1 (o + 2)) (iAt c1 (o + 3)) = b at *
    have HBB := Lib.hid hB
    clear hB
    go_wp2_with fail
    go_end0
    exact ⟨rfl, by rw [HBD.out, Bool.false_or]; first | exact HF3.out (!b) | (rw [HBB.out]; exact HF3.out (!b))⟩
end Go.Proofs.Ythlmldbgohnpnaa
