/- WireBack: (P19.3) for any request and any bytes: what is written is read as it was; what is read may be, and is written as it stood. Conditions: none. -/
import Derived.Test.YtkgkjpeeekpimaaWrJ
namespace Go.Proofs.Ytkgkjpeeekpimaa.wireBack
set_option linter.unusedVariables false
set_option linter.unusedSimpArgs false
open Go.ChangeShapes Go.WideShapes Go.ChangeAt Go.RowKit
open Go.ChangeMaps (open_string shut_string)
attribute [local go_sem ↓] to_ldQ to_stQ to_ldV eq_req eq_reqZ
set_option maxRecDepth 100000 in
set_option maxHeartbeats 16000000 in
theorem walk (r : Rq) (a : Option Addr) (len cap : Nat) (z0 : List Int) (w : World) (hr : r.Ok) (h : IsRow .u8 w a len cap z0) :
    Calls Try.prog 5 #[r.V, .slice a len cap] w fun e w' => e = .returned (.bool true) ∧ Below w.heap.size w w' := by
  have hlc : len ≤ cap ∧ cap ≤ maxLen := by
    rcases h with ⟨rfl, rfl, rfl, rfl⟩ | ⟨x, rfl, hl, hm, _⟩
    · exact ⟨Nat.le_refl _, by decide⟩
    · exact ⟨hl, hm⟩
  have HLC := Lib.hid hlc
  obtain ⟨hlm, L, hrb⟩ := h.rb
  have HRB := Lib.hid hrb
  have HR := Lib.hid hr
  have HW0 := Lib.hid (Blk.new w TQ r.cs)
  have HB0 := Lib.hid (show Below w.heap.size w (w.alloc (.cells r.cs TQ)) from (Below.refl _ _).alloc (Nat.le_refl _) _)
  have hld0 := run_ldQ HW0.out
  have HEN0 := Lib.hid (encode_any r hr (w.alloc (.cells r.cs TQ)))
  unfold EncP at HEN0
  clear hlc hrb hr h hlm
  by_cases he : (encR r).1 = 0
  · obtain ⟨hb1, hb2, _⟩ := enc_back he
    have HB1 := Lib.hid hb1
    rw [he] at HEN0
    have HLN := Lib.hid (show (encR r).2.length ≤ 600 by rw [hb2]; exact wrR_len r)
    clear he hb1 hb2
    generalize (encR r).2 = x at *
    go_enter Try.func5, Try.ntmps5
    go_wp2_with fail
    refine HEN0.out.mono ?_
    rintro e w1 ⟨v1, rfl, ho1, hf1, hb1⟩
    obtain ⟨A1, c1, rfl, hl1, hm1⟩ := ho1.slice
    have HBL1 := Lib.hid (HB0.out.trans (hb1.mono HB0.out.size))
    have HW1 := Lib.hid (HW0.out.thru0 hb1)
    have HD1 := Lib.hid (decode_any w1 A1 _ c1 x hl1 hm1 ho1.rb)
    unfold DecP at HD1
    rw [HB1.out] at HD1
    clear hld0 HEN0 ho1 hf1 hb1 hl1 hm1 HW0 HB0 HB1
    generalize x.length = n1 at *
    go_wp2_with fail
    refine HD1.out.mono ?_
    rintro e w2 ⟨rfl, hb2⟩
    have HBL2 := Lib.hid (HBL1.out.trans (hb2.mono HBL1.out.size))
    have hst2 : (stQ (.pointer (some ⟨w2.heap.size, 0, none⟩)) (.agg r.cs)).run Try.prog (w2.alloc (.cells #[.int .i64 0, .int .i64 0, .int .i64 0, .int .u64 0, .int .i64 0, .int .i64 0, .int .i64 0, .int .i64 0, .int .i64 0, .string ⟨#[]⟩, .int .i64 0, .int .i64 0, .int .i64 0, .int .i64 0, .int .i64 0, .int .i64 0, .int .i64 0, .int .u64 0, .int .i64 0, .int .u64 0, .int .i64 0, .int .i64 0, .int .i64 0, .int .i64 0] TQ)) = .ok () (w2.alloc (.cells r.cs TQ)) := run_stQ (r := r) (r0 := Rq.z)
    have hal : Below w2.heap.size w2 (w2.alloc (.cells r.cs TQ)) := (Below.refl _ _).alloc (Nat.le_refl _) _
    have hl7 := run_ldQ (Blk.new w2 TQ r.cs)
    have hl2 := run_ldQ ((HW1.out.thru0 hb2).thru0 hal)
    have hqr := eqQ_self r
    have HB := Lib.hid (HBL2.out.trans (hal.mono HBL2.out.size))
    clear HBL1 HBL2 hb2 HD1 HW1
    have HDI := Lib.hid (decode_any (w2.alloc (.cells r.cs TQ)) a len cap L HLC.out.1 HLC.out.2 (HRB.out.below HB.out))
    unfold DecP at HDI
    by_cases hz : (decR L).1 = 0
    · obtain ⟨z, hdz⟩ : ∃ z, decR L = (0, z) := ⟨(decR L).2, Prod.ext hz rfl⟩
      have HEZ := Lib.hid (dec_enc hdz)
      have HZK := Lib.hid (dec_ok L z hdz)
      rw [hdz] at HDI
      clear hdz hz
      go_wp2_with fail
      refine HDI.out.mono ?_
      rintro e v1 ⟨rfl, hc1⟩
      have HC1 := Lib.hid (HB.out.trans (hc1.mono HB.out.size))
      have hst : (stQ (.pointer (some ⟨v1.heap.size, 0, none⟩)) (.agg z.cs)).run Try.prog (v1.alloc (.cells #[.int .i64 0, .int .i64 0, .int .i64 0, .int .u64 0, .int .i64 0, .int .i64 0, .int .i64 0, .int .i64 0, .int .i64 0, .string ⟨#[]⟩, .int .i64 0, .int .i64 0, .int .i64 0, .int .i64 0, .int .i64 0, .int .i64 0, .int .i64 0, .int .u64 0, .int .i64 0, .int .u64 0, .int .i64 0, .int .i64 0, .int .i64 0, .int .i64 0] TQ)) = .ok () (v1.alloc (.cells z.cs TQ)) := run_stQ (r := z) (r0 := Rq.z)
      have HC2 := Lib.hid (HC1.out.alloc HC1.out.size (.cells z.cs TQ))
      have HZB := Lib.hid (Blk.new v1 TQ z.cs)
      have hld := run_ldQ HZB.out
      have HEN := Lib.hid (encode_any z HZK.out)
      have HRI := Lib.hid (wright_any z HZK.out)
      unfold EncP at HEN
      rw [HEZ.out] at HEN HRI
      clear hc1 HC1 HDI
      go_wp2_with fail
      refine (HEN.out _).mono ?_
      rintro e v2 ⟨x2, rfl, ho2, hf2, hc2⟩
      obtain ⟨A2, c2, rfl, hl2, hm2⟩ := ho2.slice
      have HC3 := Lib.hid (HC2.out.trans (hc2.mono HC2.out.size))
      have HZ2 := Lib.hid (HZB.out.thru0 hc2)
      have HO2 := Lib.hid ho2
      have hld2 := run_ldQ HZ2.out
      have HM2 := Lib.hid (Nat.le_trans hl2 hm2)
      clear hst hld ho2 hf2 hc2 hl2 hm2 HC2 HZB HEN
      go_wp2_with fail
      refine (HRI.out _).mono ?_
      rintro e v3 ⟨rfl, hc3⟩
      have HC4 := Lib.hid (HC3.out.trans (hc3.mono HC3.out.size))
      have HSM := Lib.hid (same_any A2 a _ len c2 cap L L v3 (HO2.out.below hc3).rb (HRB.out.below HC4.out) HM2.out (Nat.le_trans HLC.out.1 HLC.out.2))
      rw [decide_eq_true rfl] at HSM
      clear hc3 HC3 HZ2 HO2 HRI hld2
      obtain ⟨n2, hn2⟩ : ∃ n, n = L.length := ⟨_, rfl⟩
      rw [← hn2] at HSM ⊢
      clear hn2
      go_wp2_with fail
      refine HSM.out.mono ?_
      rintro e v4 ⟨rfl, q, hv4⟩
      have HC5 : Hid (Below w.heap.size w v4) := Lib.hid (by rw [hv4]; exact below_drawn HC4.out q)
      clear hv4 HC4 HSM
      go_wp2_with fail
      refine (wknown_any _).mono ?_
      rintro e v5 ⟨rfl, hc5⟩
      have HC6 := Lib.hid (HC5.out.trans (hc5.mono HC5.out.size))
      clear hc5 HC5
      go_wp2_with fail
      go_ret
      exact ⟨rfl, HC6.out⟩
    · have HBD := Lib.hid (dec_bad hz)
      obtain ⟨er, her⟩ : ∃ er, er = (decR L).1 := ⟨_, rfl⟩
      rw [HBD.out, ← her] at HDI
      have hne : (er != 0) = true := by rw [her]; simpa using hz
      clear her hz
      go_wp2_with fail
      refine HDI.out.mono ?_
      rintro e v1 ⟨rfl, hc1⟩
      have HC1 := Lib.hid (HB.out.trans (hc1.mono HB.out.size))
      have hst : (stQ (.pointer (some ⟨v1.heap.size, 0, none⟩)) (.agg Rq.z.cs)).run Try.prog (v1.alloc (.cells #[.int .i64 0, .int .i64 0, .int .i64 0, .int .u64 0, .int .i64 0, .int .i64 0, .int .i64 0, .int .i64 0, .int .i64 0, .string ⟨#[]⟩, .int .i64 0, .int .i64 0, .int .i64 0, .int .i64 0, .int .i64 0, .int .i64 0, .int .i64 0, .int .u64 0, .int .i64 0, .int .u64 0, .int .i64 0, .int .i64 0, .int .i64 0, .int .i64 0] TQ)) = .ok () (v1.alloc (.cells Rq.z.cs TQ)) := run_stQ (r := Rq.z) (r0 := Rq.z)
      have HC2 := Lib.hid (HC1.out.alloc HC1.out.size (.cells Rq.z.cs TQ))
      have hld := run_ldQ (Blk.new v1 TQ Rq.z.cs)
      have hqz := eqQ_self Rq.z
      clear hc1 HC1 HDI
      go_wp2_with fail
      refine (wknown_any _).mono ?_
      rintro e v5 ⟨rfl, hc5⟩
      have HC6 := Lib.hid (HC2.out.trans (hc5.mono HC2.out.size))
      clear hc5 HC2 hst hld
      go_wp2_with fail
      go_ret
      exact ⟨rfl, HC6.out⟩
  · obtain ⟨er, her⟩ : ∃ er, er = (encR r).1 := ⟨_, rfl⟩
    rw [← her] at HEN0
    have hne0 : (er == 0) = false := by rw [her]; simpa using he
    clear her he
    go_enter Try.func5, Try.ntmps5
    go_wp2_with fail
    refine HEN0.out.mono ?_
    rintro e w1 ⟨v1, rfl, ho1, hf1, hb1⟩
    have HB := Lib.hid (HB0.out.trans (hb1.mono HB0.out.size))
    clear hld0 HEN0 ho1 hf1 hb1 HW0 HB0
    have HDI := Lib.hid (decode_any w1 a len cap L HLC.out.1 HLC.out.2 (HRB.out.below HB.out))
    unfold DecP at HDI
    by_cases hz : (decR L).1 = 0
    · obtain ⟨z, hdz⟩ : ∃ z, decR L = (0, z) := ⟨(decR L).2, Prod.ext hz rfl⟩
      have HEZ := Lib.hid (dec_enc hdz)
      have HZK := Lib.hid (dec_ok L z hdz)
      rw [hdz] at HDI
      clear hdz hz
      go_wp2_with fail
      refine HDI.out.mono ?_
      rintro e v1 ⟨rfl, hc1⟩
      have HC1 := Lib.hid (HB.out.trans (hc1.mono HB.out.size))
      have hst : (stQ (.pointer (some ⟨v1.heap.size, 0, none⟩)) (.agg z.cs)).run Try.prog (v1.alloc (.cells #[.int .i64 0, .int .i64 0, .int .i64 0, .int .u64 0, .int .i64 0, .int .i64 0, .int .i64 0, .int .i64 0, .int .i64 0, .string ⟨#[]⟩, .int .i64 0, .int .i64 0, .int .i64 0, .int .i64 0, .int .i64 0, .int .i64 0, .int .i64 0, .int .u64 0, .int .i64 0, .int .u64 0, .int .i64 0, .int .i64 0, .int .i64 0, .int .i64 0] TQ)) = .ok () (v1.alloc (.cells z.cs TQ)) := run_stQ (r := z) (r0 := Rq.z)
      have HC2 := Lib.hid (HC1.out.alloc HC1.out.size (.cells z.cs TQ))
      have HZB := Lib.hid (Blk.new v1 TQ z.cs)
      have hld := run_ldQ HZB.out
      have HEN := Lib.hid (encode_any z HZK.out)
      have HRI := Lib.hid (wright_any z HZK.out)
      unfold EncP at HEN
      rw [HEZ.out] at HEN HRI
      clear hc1 HC1 HDI
      go_wp2_with fail
      refine (HEN.out _).mono ?_
      rintro e v2 ⟨x2, rfl, ho2, hf2, hc2⟩
      obtain ⟨A2, c2, rfl, hl2, hm2⟩ := ho2.slice
      have HC3 := Lib.hid (HC2.out.trans (hc2.mono HC2.out.size))
      have HZ2 := Lib.hid (HZB.out.thru0 hc2)
      have HO2 := Lib.hid ho2
      have hld2 := run_ldQ HZ2.out
      have HM2 := Lib.hid (Nat.le_trans hl2 hm2)
      clear hst hld ho2 hf2 hc2 hl2 hm2 HC2 HZB HEN
      go_wp2_with fail
      refine (HRI.out _).mono ?_
      rintro e v3 ⟨rfl, hc3⟩
      have HC4 := Lib.hid (HC3.out.trans (hc3.mono HC3.out.size))
      have HSM := Lib.hid (same_any A2 a _ len c2 cap L L v3 (HO2.out.below hc3).rb (HRB.out.below HC4.out) HM2.out (Nat.le_trans HLC.out.1 HLC.out.2))
      rw [decide_eq_true rfl] at HSM
      clear hc3 HC3 HZ2 HO2 HRI hld2
      obtain ⟨n2, hn2⟩ : ∃ n, n = L.length := ⟨_, rfl⟩
      rw [← hn2] at HSM ⊢
      clear hn2
      go_wp2_with fail
      refine HSM.out.mono ?_
      rintro e v4 ⟨rfl, q, hv4⟩
      have HC5 : Hid (Below w.heap.size w v4) := Lib.hid (by rw [hv4]; exact below_drawn HC4.out q)
      clear hv4 HC4 HSM
      go_wp2_with fail
      refine (wknown_any _).mono ?_
      rintro e v5 ⟨rfl, hc5⟩
      have HC6 := Lib.hid (HC5.out.trans (hc5.mono HC5.out.size))
      clear hc5 HC5
      go_wp2_with fail
      go_ret
      exact ⟨rfl, HC6.out⟩
    · have HBD := Lib.hid (dec_bad hz)
      obtain ⟨er, her⟩ : ∃ er, er = (decR L).1 := ⟨_, rfl⟩
      rw [HBD.out, ← her] at HDI
      have hne : (er != 0) = true := by rw [her]; simpa using hz
      clear her hz
      go_wp2_with fail
      refine HDI.out.mono ?_
      rintro e v1 ⟨rfl, hc1⟩
      have HC1 := Lib.hid (HB.out.trans (hc1.mono HB.out.size))
      have hst : (stQ (.pointer (some ⟨v1.heap.size, 0, none⟩)) (.agg Rq.z.cs)).run Try.prog (v1.alloc (.cells #[.int .i64 0, .int .i64 0, .int .i64 0, .int .u64 0, .int .i64 0, .int .i64 0, .int .i64 0, .int .i64 0, .int .i64 0, .string ⟨#[]⟩, .int .i64 0, .int .i64 0, .int .i64 0, .int .i64 0, .int .i64 0, .int .i64 0, .int .i64 0, .int .u64 0, .int .i64 0, .int .u64 0, .int .i64 0, .int .i64 0, .int .i64 0, .int .i64 0] TQ)) = .ok () (v1.alloc (.cells Rq.z.cs TQ)) := run_stQ (r := Rq.z) (r0 := Rq.z)
      have HC2 := Lib.hid (HC1.out.alloc HC1.out.size (.cells Rq.z.cs TQ))
      have hld := run_ldQ (Blk.new v1 TQ Rq.z.cs)
      have hqz := eqQ_self Rq.z
      clear hc1 HC1 HDI
      go_wp2_with fail
      refine (wknown_any _).mono ?_
      rintro e v5 ⟨rfl, hc5⟩
      have HC6 := Lib.hid (HC2.out.trans (hc5.mono HC2.out.size))
      clear hc5 HC2 hst hld
      go_wp2_with fail
      go_ret
      exact ⟨rfl, HC6.out⟩
theorem own : ownKnob Try.prog.godebug = none := by kernel_rfl
theorem laidOut : laidOutB Try.prog = true := by kernel_rfl
set_option maxRecDepth 100000 in
theorem lifted (os : Os) (started : os.Started) (H : Type) (enc : TypeId × Value → H) :
    ReturnsInHanded {} Try.checked os 5 .any (Rows.wireBackSpec.pre6 enc Try.prog Try.f5 Rows.wireBackRow.domain false) (Rows.wireBackSpec.post enc Try.prog Try.f5 false true false false) := by
  refine returnsInHanded_of_change (C := Try.checked) own started (by kernel_rfl) Try.func5
    (ChangeSpec.witness6 (enc := enc) (C := Try.checked) false ⟨#[], #[wRq, .slice none 0 0], []⟩ 8 (by kernel_rfl) (by kernel_rfl) (by kernel_rfl) (by kernel_rfl)) ?_
  intro W base args ds gs before hval0 hW hcnd _
  have hval : ∀ (j : Nat) t v, Try.f5.params[j]? = some t → args[j]? = some v → Value.okWide Try.prog W .any base t v := hval0
  have hW' := hW
  obtain ⟨p, q, hA0, hV, rfl, hfz, hnd⟩ := hW
  have hA : DataW.TrodAll enc Try.prog W 0 (fun _ => true) true Try.f5.params.toList args.toList ds p := hA0
  rw [Try.params5] at hA hval
  obtain ⟨v0, vs0, d0, ds0, p0, q0, hargs, rfl, rfl, h0, r0⟩ := trodAll_cons hA
  obtain ⟨v1, vs1, d1, ds1, p1, q1, rfl, rfl, rfl, h1, r1⟩ := trodAll_cons r0
  obtain ⟨rfl, rfl, rfl⟩ := trodAll_nil r1
  obtain rfl : args = #[v0, v1] := by cases args; simp_all
  obtain ⟨rfl, rfl⟩ := trodVars_none hV
  have k0 := h0
  have lt0 : ∀ x ∈ p0, x.block < W.heap.size := by obtain ⟨m, hm⟩ := k0; exact DataW.trod_lt m _ _ _ hm
  obtain ⟨cs0, rfl, hc0⟩ := okWide_struct Try.underlying31 (hval 0 31 v0 rfl rfl)
  obtain ⟨a0, e0, w0⟩ : ∃ a, Value.agg cs0 = Rq.V a ∧ Rq.Ok a := by
    obtain ⟨fuel, hf⟩ := h0
    exact req_of (cs := cs0) hf (by rw [hc0]; kernel_rfl)
  have k1 := h1
  have lt1 : ∀ x ∈ p1, x.block < W.heap.size := by obtain ⟨m, hm⟩ := k1; exact DataW.trod_lt m _ _ _ hm
  obtain ⟨a1, len1, cap1, rfl⟩ := okWide_slice Try.underlying22 (hval 1 22 v1 rfl rfl)
  obtain ⟨z1, w1⟩ : ∃ zs, IsRow .u8 W a1 len1 cap1 zs := by
    obtain ⟨fuel, hf⟩ := h1
    rcases open_ints Try.underlying22 Try.underlying5 (by kernel_rfl) hf with ⟨hcs, _⟩ | ⟨x, l, c, zs, hcs, _, hl, hm, hz, _, hcell, hwz⟩
    · simp [Value.cells] at hcs
      obtain ⟨rfl, rfl, rfl⟩ := hcs
      exact ⟨[], .inl ⟨rfl, rfl, rfl, rfl⟩⟩
    · simp [Value.cells] at hcs
      obtain ⟨rfl, rfl, rfl⟩ := hcs
      exact ⟨zs, .inr ⟨_, rfl, hl, hm, by simpa using hz, hcell, hwz⟩⟩
  clear hA0 hval0
  have hw := walk a0 a1 len1 cap1 z1 W w0 w1
  rw [← e0] at hw
  refine hw.mono fun e W' ⟨he, bel⟩ => ?_
  subst he
  exact ⟨_, rfl, _, _, _, [], _, [], hW', trodAll_mk1 (shut_bool Try.underlying4 _), (trodAll_cons_mk (Below.trod laidOut (by kernel_rfl) (of_decide_eq_true (by kernel_rfl)) k0 bel lt0) (trodAll_cons_mk (Below.trod laidOut (by kernel_rfl) (of_decide_eq_true (by kernel_rfl)) k1 bel lt1) trodAll_mk0)), rfl, bel.frame _, fun h => by cases h⟩
theorem over : Rows.wireBackRow.holds Try.pinned (OpenSpec.ofChange Rows.wireBackSpec) :=
  OpenClaim.holds_of_wide 5 Try.f5 rfl rfl rfl rfl rfl rfl rfl ⟨rfl, rfl, rfl, rfl, rfl⟩ rfl rfl rfl rfl rfl (by kernel_rfl) Try.func5 (by kernel_rfl)
    (of_decide_eq_true (by kernel_rfl)) (by unfold Func.isWrapper; first | (rw [if_pos (by decide +kernel)]; kernel_rfl) | (rw [if_neg (by decide +kernel)]; exact ⟨rfl, rfl⟩))
    (fun os started H enc _ => lifted os started H enc)
/-- The statement. -/
theorem proved : Rows.WireBackSaid := over
#print axioms proved
end Go.Proofs.Ytkgkjpeeekpimaa.wireBack
