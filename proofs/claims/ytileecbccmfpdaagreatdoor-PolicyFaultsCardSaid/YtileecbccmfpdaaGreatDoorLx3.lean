/- lex: the reader takes a byte. -/
import Derived.Test.YtileecbccmfpdaaGreatDoorLx2
namespace Go.Proofs.YtileecbccmfpdaaGreatDoor
set_option linter.unusedVariables false
set_option linter.unusedSimpArgs false
open Go.RowKit
theorem head_tail {w : World} {a : Addr} {c : UInt8} {l : Bs} (h : w.cell? a = some (.string (bs (c :: l)))) : ∃ x : ByteArray, w.cell? a = some (.string x) ∧ (∃ h0 : 0 < x.size, x[0] = c) ∧ x.extract 1 x.size = bs l := by
  refine ⟨_, h, ⟨by rw [bs0]; omega, rfl⟩, ?_⟩
  apply ByteArray.ext
  simp [bs, ByteArray.size]
def StepP (r : Nat) (c : UInt8) (l : Bs) (p : Pl) (w : World) (e : Ending) (w' : World) : Prop :=
  e = .returned (.int .u8 c.toNat) ∧ RdS w' r l (adv p c) ∧ But r w w'
set_option maxHeartbeats 2000000 in
theorem step_any (w : World) (r : Nat) (c : UInt8) (l : Bs) (p : Pl) (h : RdS w r (c :: l) p) (hp : OkP (c :: l) p) :
    Calls Tryz.prog 103 #[.pointer (some ⟨r, 0, none⟩)] w fun e w' => StepP r c l p w e w' := by
  have HK := Lib.hid h
  have k0 : _ = some (Value.string (bs (c :: l))) := Blk.cell h 0
  have k1 : _ = some (Value.int .i64 p.1) := Blk.cell h 1
  have k2 : _ = some (Value.int .i64 p.2) := Blk.cell h 2
  have f0 := Blk.frozen h 0
  have f1 := Blk.frozen h 1
  have f2 := Blk.frozen h 2
  clear h
  obtain ⟨x, j0, ⟨hz2, hx0⟩, hxe⟩ := head_tail k0
  clear k0
  have hx1 : (1 : Int) ≤ (x.size : Int) := by omega
  have b1 : (0 : Int) ≤ p.1 ∧ p.1 ≤ 1000 ∧ (0 : Int) ≤ p.2 ∧ p.2 ≤ 1000 := by unfold OkP at hp; simp only [List.length_cons] at hp; omega
  obtain ⟨b10, b11, b20, b21⟩ := b1
  clear hp
  by_cases hc : c.toNat = 10
  · have hcb : ((c.toNat : Int) == 10) = true := beq_iff_eq.2 (by omega)
    have HAd := Lib.hid (show adv p c = (p.1 + 1, 1) by rw [adv, if_pos hc])
    clear hc
    go_enter Tryz.func103, Tryz.ntmps103
    go_wp2
    go_ret
    refine ⟨rfl, ?_, ((((But.set _ _ _).trans (But.set _ _ _)).trans (But.set _ _ _)).trans (But.set _ _ _))⟩
    rw [HAd.out]
    have := ((((HK.out.set_ 0 (.string (bs l))).set_ 2 (.int .i64 (p.2 + 1))).set_ 1 (.int .i64 (p.1 + 1))).set_ 2 (.int .i64 1))
    simpa [RdS] using this
  · have hcb : ((c.toNat : Int) == 10) = false := beq_eq_false_iff_ne.2 (by omega)
    have HAd := Lib.hid (show adv p c = (p.1, p.2 + 1) by rw [adv, if_neg hc])
    clear hc
    go_enter Tryz.func103, Tryz.ntmps103
    go_wp2
    go_ret
    refine ⟨rfl, ?_, ((But.set _ _ _).trans (But.set _ _ _))⟩
    rw [HAd.out]
    have := ((HK.out.set_ 0 (.string (bs l))).set_ 2 (.int .i64 (p.2 + 1)))
    simpa [RdS] using this
end Go.Proofs.YtileecbccmfpdaaGreatDoor
