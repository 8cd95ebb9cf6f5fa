/- lex: skip, by contract. -/
import Derived.Test.YtileecbccmfpdaaGreatDoorLx4
namespace Go.Proofs.YtileecbccmfpdaaGreatDoor
set_option linter.unusedVariables false
set_option linter.unusedSimpArgs false
open Go.RowKit
def leftN (r : Nat) (w : World) : Nat := match w.cell? ⟨r, 0, none⟩ with
  | some (.string s) => s.size
  | _ => 0
theorem leftN_of {w : World} {r : Nat} {l : Bs} {p : Pl} (h : RdS w r l p) : leftN r w = l.length := by
  have k0 : _ = some (Value.string (bs l)) := Blk.cell h 0
  unfold leftN
  rw [k0]
  exact bs_size l
theorem okp_take {f : UInt8 → Bool} {l : Bs} {p : Pl} (h : OkP l p) : OkP (l.dropWhile f) (advs p (l.takeWhile f)) := by
  refine OkP.steps (a := l.takeWhile f) ?_
  rw [List.takeWhile_append_dropWhile]; exact h
def SkipP (r : Nat) (l : Bs) (p : Pl) (w : World) (e : Ending) (w' : World) : Prop :=
  e = .returned (.tuple #[]) ∧ RdS w' r (skp false l p).1 (skp false l p).2 ∧ But r w w' ∧ OkP (skp false l p).1 (skp false l p).2
structure SkSt (w0 : World) (r : Nat) (l0 : Bs) (p0 : Pl) (k : Bs) (q : Pl) (W : World) : Prop where
  rd : RdS W r k q
  but : But r w0 W
  ok : OkP k q
  off : on isBl k = false
  same : skp false k q = skp false l0 p0
set_option maxHeartbeats 4000000 in
theorem skip_any (w : World) (r : Nat) (l : Bs) (p : Pl) (h : RdS w r l p) (hp : OkP l p) :
    Calls Tryz.prog 35 #[.pointer (some ⟨r, 0, none⟩)] w fun e w' => SkipP r l p w e w' := by
  have HT0 := Lib.hid (take_blank w r l p h hp)
  have HP := Lib.hid hp
  clear h hp
  unfold TakeP at HT0
  go_enter Tryz.func35, Tryz.ntmps35
  go_wp2_with fail
  refine HT0.out.mono ?_
  rintro e w1 ⟨rfl, hrd, hbut⟩
  have HS0 := Lib.hid (show SkSt w r l p (l.dropWhile isBl) (advs p (l.takeWhile isBl)) w1 from ⟨hrd, hbut, okp_take HP.out, on_drop _ _, (skp_bl l p).symm⟩)
  clear hrd hbut
  go_wp2_with fail
  go_loopw [] (fun wr => ∃ k q, Hid (SkSt w r l p k q wr)) (fun wr => leftN r wr)
  case atStart => exact ⟨_, _, HS0⟩
  case round =>
    rename_i wr
    obtain ⟨k, q, HS⟩ := hrel
    have HN := Lib.hid (next_any wr r k q HS.out.rd)
    cases hn : (nx k == 35) with
    | false =>
      have HE := Lib.hid (show skp false l p = (k, q) by rw [← HS.out.same]; exact skp_stop q HS.out.off (by simpa using hn))
      go_wp2_with ((go_at_call 72; refine HN.out.mono ?_; rintro e w9 ⟨rfl, hw9⟩; subst hw9))
      go_end0
      unfold SkipP
      rw [HE.out]
      exact ⟨rfl, HS.out.rd, HS.out.but, HS.out.ok⟩
    | true =>
      have HNX := Lib.hid (show nx k = 35 by simpa using hn)
      have HT1 := Lib.hid (take_ofLine wr r k q HS.out.rd HS.out.ok)
      unfold TakeP at HT1
      go_wp2_with fail
      refine HN.out.mono ?_
      rintro e w9 ⟨rfl, hw9⟩
      subst hw9
      go_wp2_with fail
      refine HT1.out.mono ?_
      rintro e w2 ⟨rfl, hrd2, hbut2⟩
      have HO2 := Lib.hid (okp_take (f := ofLn) HS.out.ok)
      have HT2 := Lib.hid (take_blank w2 r _ _ hrd2 HO2.out)
      have HB2 := Lib.hid hbut2
      clear hrd2 hbut2
      unfold TakeP at HT2
      go_wp2_with fail
      refine HT2.out.mono ?_
      rintro e w3 ⟨rfl, hrd3, hbut3⟩
      have HRD3 := Lib.hid hrd3
      have HB3 := Lib.hid hbut3
      clear hrd3 hbut3
      go_wp2_with fail
      go_roundw
      case rel => exact ⟨_, _, Lib.hid ⟨HRD3.out, (HS.out.but.trans HB2.out).trans HB3.out, okp_take HO2.out, on_drop _ _, by rw [← skp_bl, ← skp_rem _ HNX.out]; exact HS.out.same⟩⟩
      case measure =>
        rw [leftN_of HRD3.out, leftN_of HS.out.rd]
        have h1 : on ofLn k = true := by
          have := HNX.out
          cases k with
          | nil => simp [nx] at this
          | cons c k => simp [nx] at this; simp [on, ofLn]; omega
        have h2 := dropWhile_lt h1
        have h3 := (List.dropWhile_suffix isBl (l := k.dropWhile ofLn)).length_le
        omega
end Go.Proofs.YtileecbccmfpdaaGreatDoor
