/- wire: the document's Decode, by contract. -/
import Derived.Test.YthlmldbgohnpnaaWrS
namespace Go.Proofs.Ythlmldbgohnpnaa
set_option linter.unusedVariables false
set_option linter.unusedSimpArgs false
open Go.RowKit
section
attribute [local go_sem ↓] to_ldQ to_stQ
set_option maxRecDepth 100000 in
set_option maxHeartbeats 8000000 in
theorem rdec_short (w : World) (A : Option Addr) (n c : Nat) (L : Bs) (h13 : n < 13) (h : RB w A n L) :
    Calls Try.prog 9 #[.slice A n c] w fun e w' => DecP L w e w' := by
  have hl := h.len
  have HDR := Lib.hid (show decR L = (50, Rq.z) by unfold decR; rw [if_pos (by omega)])
  obtain ⟨W, hW⟩ : ∃ W, W = (w.alloc (.cells #[.int .i64 0, .int .i64 0, .int .i64 0, .int .u64 0, .int .i64 0, .int .i64 0, .int .i64 0, .int .i64 0, .int .i64 0, .string ⟨#[]⟩, .int .i64 0, .int .i64 0, .int .i64 0, .int .i64 0, .int .i64 0, .int .i64 0, .int .i64 0, .int .u64 0, .int .i64 0, .int .u64 0, .int .i64 0, .int .i64 0, .int .i64 0, .int .i64 0] TQ)).alloc (.cells #[.int .i64 0, .int .i64 0, .int .i64 0, .int .u64 0, .int .i64 0, .int .i64 0, .int .i64 0, .int .i64 0, .int .i64 0, .string ⟨#[]⟩, .int .i64 0, .int .i64 0, .int .i64 0, .int .i64 0, .int .i64 0, .int .i64 0, .int .i64 0, .int .u64 0, .int .i64 0, .int .u64 0, .int .i64 0, .int .i64 0, .int .i64 0, .int .i64 0] TQ) := ⟨_, rfl⟩
  have hbl : Below w.heap.size w W := by rw [hW]; exact ((Below.refl _ _).alloc (Nat.le_refl _) _).alloc (by simp) _
  have hb2 := blk_two w TQ TQ #[.int .i64 0, .int .i64 0, .int .i64 0, .int .u64 0, .int .i64 0, .int .i64 0, .int .i64 0, .int .i64 0, .int .i64 0, .string ⟨#[]⟩, .int .i64 0, .int .i64 0, .int .i64 0, .int .i64 0, .int .i64 0, .int .i64 0, .int .i64 0, .int .u64 0, .int .i64 0, .int .u64 0, .int .i64 0, .int .i64 0, .int .i64 0, .int .i64 0] #[.int .i64 0, .int .i64 0, .int .i64 0, .int .u64 0, .int .i64 0, .int .i64 0, .int .i64 0, .int .i64 0, .int .i64 0, .string ⟨#[]⟩, .int .i64 0, .int .i64 0, .int .i64 0, .int .i64 0, .int .i64 0, .int .i64 0, .int .i64 0, .int .u64 0, .int .i64 0, .int .u64 0, .int .i64 0, .int .i64 0, .int .i64 0, .int .i64 0]
  rw [← hW] at hb2
  have HP : Hid (Blk W w.heap.size TQ Rq.z.cs) := Lib.hid hb2.1
  have HQ : Hid (Blk W (w.heap.size + 1) TQ Rq.z.cs) := Lib.hid hb2.2
  obtain ⟨x1, hsx, hpx, hbx⟩ := store_at (w := w) (r := Rq.z) (Nat.le_refl _) HP.out hbl
  have HPX := Lib.hid hpx
  have HBX := Lib.hid hbx
  have hlz := run_ldQ HQ.out
  have hWs := hW.symm
  rw [← hWs] at hlz hsx
  clear hW hbl hb2 hpx hbx h hl hWs HP HQ
  go_enter Try.func9, Try.ntmps9
  go_wp2_with fail
  exact bodyPost_ret (v := .tuple #[.agg Rq.z.cs, .int .i64 50]) (rdec_results _ rfl rfl HPX.out) rfl (DecP.mk HDR.out HBX.out)
end
theorem rdecode_any (w : World) (A : Option Addr) (n c : Nat) (L : Bs) (hn : n ≤ c) (hc : c ≤ maxLen) (h : RB w A n L) :
    Calls Try.prog 9 #[.slice A n c] w fun e w' => DecP L w e w' := by
  by_cases h13 : n < 13
  · exact rdec_short w A n c L h13 h
  · obtain ⟨ad, rfl, _⟩ := h.at 0 (by omega)
    exact rdec_trial w ad n c L hn hc (by omega) h
end Go.Proofs.Ythlmldbgohnpnaa
