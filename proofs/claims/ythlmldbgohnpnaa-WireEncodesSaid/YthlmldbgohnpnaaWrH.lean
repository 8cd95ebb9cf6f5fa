/- wire: what must come of fixed calls. -/
import Derived.Test.YthlmldbgohnpnaaWrG
import Derived.Test.YthlmldbgohnpnaaSame
namespace Go.Proofs.Ythlmldbgohnpnaa
set_option linter.unusedVariables false
set_option linter.unusedSimpArgs false
open Go.RowKit
def rqA : Rq := { Rq.z with op := 12, ten := 1, usr := 258, sec := 5 }
def bsA : Bs := [12, 1, 1, 2, 0, 0, 0, 0, 0, 0, 0, 5, 0]
def bsB : Bs := [14, 0, 0, 1, 0, 0, 0, 0, 0, 0, 0, 9, 3, 0, 7, 1, 0]
def rqB : Rq := { Rq.z with op := 14, usr := 1, sec := 9, m := 3, px := 7, py := 256 }
theorem rqA_ok : rqA.Ok := by constructor <;> first | decide | (unfold i64ok; decide)
theorem enc_A : encR rqA = (0, bsA) := by kernel_rfl
theorem dec_B : decR bsB = (0, rqB) := by kernel_rfl
section
attribute [local go_sem ↓] to_ldQ to_stQ to_ldV eq_req
set_option maxRecDepth 100000 in
set_option maxHeartbeats 8000000 in
theorem wknown_any (w : World) : Calls Try.prog 10 #[] w fun e w' => e = .returned (.bool true) ∧ Below w.heap.size w w' := by
  have HEA := Lib.hid (encode_any rqA rqA_ok w)
  unfold EncP at HEA
  rw [enc_A] at HEA
  go_enter Try.func10, Try.ntmps10
  go_wp2_with fail
  refine HEA.out.mono ?_
  rintro e w1 ⟨v, rfl, ho, hf, hb1⟩
  obtain ⟨A, c, rfl, hlc, hcm⟩ := ho.slice
  have HO1 := Lib.hid ho
  have HB1 := Lib.hid hb1
  clear ho hf hb1 HEA hlc hcm
  have HOB := Lib.hid (EOwn.block (M := bsB) elB_ok (Blk.new w1 5 #[.int .u8 14, .int .u8 0, .int .u8 0, .int .u8 1, .int .u8 0, .int .u8 0, .int .u8 0, .int .u8 0, .int .u8 0, .int .u8 0, .int .u8 0, .int .u8 9, .int .u8 3, .int .u8 0, .int .u8 7, .int .u8 1, .int .u8 0]) rfl (by decide))
  have HB2 : Hid (Below w1.heap.size w1 (w1.alloc (.cells #[.int .u8 14, .int .u8 0, .int .u8 0, .int .u8 1, .int .u8 0, .int .u8 0, .int .u8 0, .int .u8 0, .int .u8 0, .int .u8 0, .int .u8 0, .int .u8 9, .int .u8 3, .int .u8 0, .int .u8 7, .int .u8 1, .int .u8 0] 5))) := Lib.hid ((Below.refl _ _).alloc (Nat.le_refl _) _)
  have HD := Lib.hid (decode_any _ _ _ 17 bsB (by decide) (by decide) HOB.out.rb)
  unfold DecP at HD
  rw [dec_B] at HD
  go_wp2_with fail
  refine HD.out.mono ?_
  rintro e w2 ⟨rfl, hb3⟩
  have HB3 := Lib.hid ((HB1.out.trans (HB2.out.mono HB1.out.size)).trans (hb3.mono (HB1.out.trans (HB2.out.mono HB1.out.size)).size))
  have HO2 := Lib.hid ((HO1.out.below HB2.out).below hb3)
  clear hb3 HD HOB HB2 HO1 HB1
  have hst : (stQ (.pointer (some ⟨w2.heap.size, 0, none⟩)) (.agg rqB.cs)).run Try.prog (w2.alloc (.cells #[.int .i64 0, .int .i64 0, .int .i64 0, .int .u64 0, .int .i64 0, .int .i64 0, .int .i64 0, .int .i64 0, .int .i64 0, .string ⟨#[]⟩, .int .i64 0, .int .i64 0, .int .i64 0, .int .i64 0, .int .i64 0, .int .i64 0, .int .i64 0, .int .u64 0, .int .i64 0, .int .u64 0, .int .i64 0, .int .i64 0, .int .i64 0, .int .i64 0] TQ)) = .ok () (w2.alloc (.cells rqB.cs TQ)) := run_stQ (r := rqB) (r0 := Rq.z)
  have HB4 : Hid (Below w2.heap.size w2 (w2.alloc (.cells rqB.cs TQ))) := Lib.hid ((Below.refl _ _).alloc (Nat.le_refl _) _)
  have HB5 : Hid (Below (w2.alloc (.cells rqB.cs TQ)).heap.size (w2.alloc (.cells rqB.cs TQ)) ((w2.alloc (.cells rqB.cs TQ)).alloc (.cells #[.int .u8 12, .int .u8 1, .int .u8 1, .int .u8 2, .int .u8 0, .int .u8 0, .int .u8 0, .int .u8 0, .int .u8 0, .int .u8 0, .int .u8 0, .int .u8 5, .int .u8 0] 5))) := Lib.hid ((Below.refl _ _).alloc (Nat.le_refl _) _)
  have HOA := Lib.hid (EOwn.block (M := bsA) elB_ok (Blk.newAt (w := w2.alloc (.cells rqB.cs TQ)) (g := w2.heap.size + 1) (t := 5) (cs := #[.int .u8 12, .int .u8 1, .int .u8 1, .int .u8 2, .int .u8 0, .int .u8 0, .int .u8 0, .int .u8 0, .int .u8 0, .int .u8 0, .int .u8 0, .int .u8 5, .int .u8 0]) (by simp)) rfl (by decide))
  have HS := Lib.hid (same_any _ _ _ _ c 13 bsA bsA _ ((HO2.out.below HB4.out).below HB5.out).rb HOA.out.rb (by decide) (by decide))
  rw [decide_eq_true rfl] at HS
  have HQ := Lib.hid ((Blk.new w2 TQ rqB.cs).thru0 HB5.out)
  go_wp2_with fail
  refine HS.out.mono ?_
  rintro e w3 ⟨rfl, q, hw3⟩
  have hb5 : Below (w2.alloc (.cells rqB.cs TQ)).heap.size (w2.alloc (.cells rqB.cs TQ)) w3 := by
    rw [hw3]
    exact below_drawn HB5.out q
  have hq3 : Blk w3 w2.heap.size TQ rqB.cs := (Blk.new w2 TQ rqB.cs).thru0 hb5
  have hb6 : Below w2.heap.size w2 w3 := below_trans HB4.out hb5
  have HQ3 := Lib.hid hq3
  have HB6 := Lib.hid (HB3.out.trans (hb6.mono HB3.out.size))
  clear HB3 HO2 hst HB4 HB5 HOA HS HQ hb5 hb6 hq3 hw3
  have k3 := HQ3.out.cell 3
  have k4 := HQ3.out.cell 4
  have k20 := HQ3.out.cell 20
  have k21 := HQ3.out.cell 21
  rw [show rqB.cs[3]? = some (.int .u64 9) from rfl] at k3
  rw [show rqB.cs[4]? = some (.int .i64 3) from rfl] at k4
  rw [show rqB.cs[20]? = some (.int .i64 7) from rfl] at k20
  rw [show rqB.cs[21]? = some (.int .i64 256) from rfl] at k21
  go_wp2_with fail
  go_ret
  exact ⟨rfl, HB6.out⟩
end
end Go.Proofs.Ythlmldbgohnpnaa
