/- WireCuts: (P19.2) for any request and any byte: a request with a byte less is refused, with one more, too; but policies may be longer and shorter. Conditions: none. -/
import Derived.Test.YtkgkjpeeekpimaaWrK
namespace Go.Proofs.Ytkgkjpeeekpimaa.wireCuts
set_option linter.unusedVariables false
set_option linter.unusedSimpArgs false
open Go.ChangeShapes Go.WideShapes Go.ChangeAt Go.RowKit
open Go.ChangeMaps (open_string shut_string)
attribute [local go_sem ↓] to_ldQ to_stQ to_ldV eq_req eq_reqZ
theorem byte_of {x : Int} (h : 0 ≤ x ∧ x ≤ 255) : ∃ c : UInt8, x = (c.toNat : Int) := ⟨UInt8.ofNat x.toNat, by simp; omega⟩
set_option maxRecDepth 100000 in
set_option maxHeartbeats 16000000 in
theorem walk (r : Rq) (m : Int) (w : World) (hr : r.Ok) (hm : 0 ≤ m ∧ m ≤ 255) :
    Calls Try.prog 7 #[r.V, .int .u8 m] w fun e w' => e = .returned (.bool true) ∧ Below w.heap.size w w' := by
  obtain ⟨mc, rfl⟩ := byte_of hm
  have HR := Lib.hid hr
  have HW0 := Lib.hid (Blk.new w TQ r.cs)
  have HB0 := Lib.hid (show Below w.heap.size w (w.alloc (.cells r.cs TQ)) from (Below.refl _ _).alloc (Nat.le_refl _) _)
  have hld0 := run_ldQ HW0.out
  have HEN0 := Lib.hid (encode_any r hr (w.alloc (.cells r.cs TQ)))
  unfold EncP at HEN0
  clear hm hr
  by_cases he : (encR r).1 = 0
  · obtain ⟨hb1, hb2, h1o, h19o⟩ := enc_back he
    have HB1 := Lib.hid hb1
    rw [he] at HEN0
    have HLN := Lib.hid (show (encR r).2.length ≤ 600 by rw [hb2]; exact wrR_len r)
    have h13 : 13 ≤ (encR r).2.length := by obtain ⟨_, _, _, _, _, _, h, _⟩ := dec_parts hb1; exact h
    clear he hb1 hb2
    generalize (encR r).2 = L at *
    by_cases h3 : r.op = 3
    · have h3b : (r.op == 3) = true := by simpa using h3
      go_enter Try.func7, Try.ntmps7
      clear h3 h13 h1o h19o
      go_wp2_with fail
      refine HEN0.out.mono ?_
      rintro e w1 ⟨v1, rfl, ho1, hf1, hb1⟩
      obtain ⟨A1, c1, rfl, hl1, hm1⟩ := ho1.slice
      have HBL1 := Lib.hid (HB0.out.trans (hb1.mono HB0.out.size))
      have k0 := (HW0.out.thru0 hb1).cell 0
      rw [show r.cs[0]? = some (.int .i64 r.op) from rfl] at k0
      clear hld0 HEN0 ho1 hf1 hb1 hl1 hm1 HW0 HB0 HB1
      generalize L.length = n1 at *
      go_wp2_with fail
      refine (wknown_any _).mono ?_
      rintro e w2 ⟨rfl, hb2⟩
      have HBL2 := Lib.hid (HBL1.out.trans (hb2.mono HBL1.out.size))
      clear hb2
      go_wp2_with fail
      go_ret
      exact ⟨rfl, HBL2.out⟩
    · have h3b : (r.op == 3) = false := by simpa using h3
      have HLE := Lib.hid (dec_less HB1.out h3)
      have HMO := Lib.hid (dec_more mc HB1.out h3)
      have H13 := Lib.hid h13
      obtain ⟨n, hn⟩ : ∃ n, n = L.length := ⟨_, rfl⟩
      have hn13 : 13 ≤ n := by omega
      have HN := Lib.hid hn
      rw [← hn] at HLE HLN
      have hn600 := HLN.out
      have hnz : ((n : Int) == 0) = false := beq_eq_false_iff_ne.2 (by omega)
      clear h3 h13 h1o h19o hn
      go_enter Try.func7, Try.ntmps7
      go_wp2_with fail
      refine HEN0.out.mono ?_
      rintro e w1 ⟨v1, rfl, ho1, hf1, hb1⟩
      obtain ⟨A1, c1, rfl, hl1, hm1⟩ := ho1.slice
      rw [← HN.out] at ho1 hl1 ⊢
      have HBL1 := Lib.hid (HB0.out.trans (hb1.mono HB0.out.size))
      have HRB1 := Lib.hid ho1.rb
      have HC1 := Lib.hid (And.intro hl1 hm1)
      have k0 := (HW0.out.thru0 hb1).cell 0
      rw [show r.cs[0]? = some (.int .i64 r.op) from rfl] at k0
      have HRT : Hid (RB w1 A1 (n - 1) (L.take (n - 1))) := Lib.hid (by
        have := reads_take HRB1.out (k := n - 1) (by omega)
        rw [← bv_take] at this
        exact this)
      have HD1 := Lib.hid (decode_any w1 A1 (n - 1) c1 (L.take (n - 1)) (by omega) hm1 HRT.out)
      unfold DecP at HD1
      rw [HLE.out] at HD1
      have hsub : IntKind.i64.wrap ((n : Int) - 1) = ((n - 1 : Nat) : Int) := by rw [IntKind.wrap_i64]; omega
      unfold maxLen at hm1
      clear hld0 HEN0 ho1 hf1 hb1 HW0 HB0
      go_wp2_with fail
      refine HD1.out.mono ?_
      rintro e w2 ⟨rfl, hb2⟩
      have hst : (stQ (.pointer (some ⟨w2.heap.size, 0, none⟩)) (.agg Rq.z.cs)).run Try.prog (w2.alloc (.cells #[.int .i64 0, .int .i64 0, .int .i64 0, .int .u64 0, .int .i64 0, .int .i64 0, .int .i64 0, .int .i64 0, .int .i64 0, .string ⟨#[]⟩, .int .i64 0, .int .i64 0, .int .i64 0, .int .i64 0, .int .i64 0, .int .i64 0, .int .i64 0, .int .u64 0, .int .i64 0, .int .u64 0, .int .i64 0, .int .i64 0, .int .i64 0, .int .i64 0] TQ)) = .ok () (w2.alloc (.cells Rq.z.cs TQ)) := run_stQ (r := Rq.z) (r0 := Rq.z)
      have HBL2 := Lib.hid (HBL1.out.trans (hb2.mono HBL1.out.size))
      have HBL3 := Lib.hid (HBL2.out.alloc HBL2.out.size (.cells Rq.z.cs TQ))
      have HRB3 := Lib.hid ((HRB1.out.below hb2).alloc (.cells Rq.z.cs TQ))
      have HF0 := Lib.hid (FB.nil_ (w2.alloc (.cells Rq.z.cs TQ)) _ (Below.refl _ _))
      clear hb2 HD1 HBL2 HBL1 HRB1 HRT k0
      go_wp2_with fail
      clear hst
      generalize w2.alloc (.cells Rq.z.cs TQ) = W at *
      go_loopw [9, 10] (fun v i wr => ∃ j : Nat, j ≤ n ∧ i = .int .i64 j ∧ Hid (FB W v (L.take j) wr)) (fun _ i _ => n - (intOf i).toNat)
      case atStart => exact ⟨0, Nat.zero_le _, rfl, HF0⟩
      case round =>
        rename_i v i
        rename World => wr
        obtain ⟨j, hj, rfl, HF⟩ := hrel
        obtain ⟨A2, c2, hv, hlc2, hcm2⟩ := HF.out.own.slice
        by_cases hlt : j < n
        · have HT1 : Hid (L.take (j + 1) = L.take j ++ [L[j]'(by rw [← HN.out]; exact hlt)]) := Lib.hid (List.take_succ_eq_append_getElem _)
          obtain ⟨ad, had, hab, hac⟩ := (HRB3.out.below HF.out.bel).at j hlt
          obtain rfl := had
          generalize L[j]'(by rw [← HN.out]; exact hlt) = cb at *
          have HAL := Lib.hid (show (L.take j).length ≤ 1000000 by rw [List.length_take]; omega)
          generalize (L.take j).length = lj at hv hlc2
          subst hv
          have HOA := Lib.hid (HF.out.own.below ((Below.refl _ _).alloc (Nat.le_refl _) (.cells #[.int .u8 (cb.toNat : Int)] 5)))
          have HNB := Lib.hid (new_b wr 5 cb)
          clear hlc2 hcm2
          go_wp2_with ((at_builtin; refine wpList_epush elB_ok rfl _ _ 22 rfl (by kernel_rfl) _ (L.take j) cb wr.heap.size 1 rfl rfl HOA.out HNB.out HAL.out ?_; intro v' w9 hA))
          go_roundw
          case rel => exact ⟨j + 1, by omega, by go_num, Lib.hid (by rw [HT1.out]; exact HF.out.push hA)⟩
          case measure => simp [intOf]; omega
        · obtain rfl : j = n := by omega
          have HT1 : Hid (L.take j = L) := Lib.hid (by rw [HN.out, List.take_length])
          rw [HT1.out] at HF hv
          have HAL := Lib.hid (show L.length ≤ 1000000 by rw [← HN.out]; omega)
          generalize L.length = ll at hv hlc2
          subst hv
          have HOA := Lib.hid (HF.out.own.below ((Below.refl _ _).alloc (Nat.le_refl _) (.cells #[.int .u8 (mc.toNat : Int)] 5)))
          have HNB := Lib.hid (new_b wr 5 mc)
          clear hlc2 hcm2
          go_wp2_with ((at_builtin; refine wpList_epush elB_ok rfl _ _ 22 rfl (by kernel_rfl) _ L mc wr.heap.size 1 rfl rfl HOA.out HNB.out HAL.out ?_; intro v' w9 hA; have HFP := Lib.hid (HF.out.push hA); clear hA; obtain ⟨A9, c9, hv9, hl9, hm9⟩ := HFP.out.own.slice; generalize hll : (L ++ [mc]).length = l9 at hv9 hl9; subst hv9; have HLL := Lib.hid hll; clear hll))
          have HD9 := Lib.hid (decode_any w9 A9 _ c9 (L ++ [mc]) hl9 hm9 HFP.out.own.rb)
          unfold DecP at HD9
          rw [HMO.out] at HD9
          have HB9 := Lib.hid (HBL3.out.trans (HFP.out.bel.mono HBL3.out.size))
          clear hl9 hm9 HFP HF HOA HNB HAL
          go_wp2_with fail
          refine HD9.out.mono ?_
          rintro e x1 ⟨rfl, hx1⟩
          have hst : (stQ (.pointer (some ⟨x1.heap.size, 0, none⟩)) (.agg Rq.z.cs)).run Try.prog (x1.alloc (.cells #[.int .i64 0, .int .i64 0, .int .i64 0, .int .u64 0, .int .i64 0, .int .i64 0, .int .i64 0, .int .i64 0, .int .i64 0, .string ⟨#[]⟩, .int .i64 0, .int .i64 0, .int .i64 0, .int .i64 0, .int .i64 0, .int .i64 0, .int .i64 0, .int .u64 0, .int .i64 0, .int .u64 0, .int .i64 0, .int .i64 0, .int .i64 0, .int .i64 0] TQ)) = .ok () (x1.alloc (.cells Rq.z.cs TQ)) := run_stQ (r := Rq.z) (r0 := Rq.z)
          have HX1 := Lib.hid (HB9.out.trans (hx1.mono HB9.out.size))
          have HX2 := Lib.hid (HX1.out.alloc HX1.out.size (.cells Rq.z.cs TQ))
          clear hx1 HD9 HX1 HB9
          go_wp2_with fail
          refine (wknown_any _).mono ?_
          rintro e x2 ⟨rfl, hx2⟩
          have HX3 := Lib.hid (HX2.out.trans (hx2.mono HX2.out.size))
          clear hx2 hst HX2
          go_wp2_with fail
          go_ret
          exact ⟨rfl, HX3.out⟩
  · obtain ⟨er, her⟩ : ∃ er, er = (encR r).1 := ⟨_, rfl⟩
    rw [← her] at HEN0
    have hne0 : (er != 0) = true := by rw [her]; simpa using he
    clear her he
    go_enter Try.func7, Try.ntmps7
    go_wp2_with fail
    refine HEN0.out.mono ?_
    rintro e w1 ⟨v1, rfl, ho1, hf1, hb1⟩
    have HB := Lib.hid (HB0.out.trans (hb1.mono HB0.out.size))
    clear hld0 HEN0 ho1 hf1 hb1 HW0 HB0
    go_wp2_with fail
    refine (wknown_any _).mono ?_
    rintro e w2 ⟨rfl, hb2⟩
    have HBL2 := Lib.hid (HB.out.trans (hb2.mono HB.out.size))
    clear hb2 HB
    go_wp2_with fail
    go_ret
    exact ⟨rfl, HBL2.out⟩
theorem own : ownKnob Try.prog.godebug = none := by kernel_rfl
theorem laidOut : laidOutB Try.prog = true := by kernel_rfl
set_option maxRecDepth 100000 in
theorem lifted (os : Os) (started : os.Started) (H : Type) (enc : TypeId × Value → H) :
    ReturnsInHanded {} Try.checked os 7 .any (Rows.wireCutsSpec.pre6 enc Try.prog Try.f7 Rows.wireCutsRow.domain false) (Rows.wireCutsSpec.post enc Try.prog Try.f7 false true false false) := by
  refine returnsInHanded_of_change (C := Try.checked) own started (by kernel_rfl) Try.func7
    (ChangeSpec.witness6 (enc := enc) (C := Try.checked) false ⟨#[], #[wRq, .int .u8 0], []⟩ 8 (by kernel_rfl) (by kernel_rfl) (by kernel_rfl) (by kernel_rfl)) ?_
  intro W base args ds gs before hval0 hW hcnd _
  have hval : ∀ (j : Nat) t v, Try.f7.params[j]? = some t → args[j]? = some v → Value.okWide Try.prog W .any base t v := hval0
  have hW' := hW
  obtain ⟨p, q, hA0, hV, rfl, hfz, hnd⟩ := hW
  have hA : DataW.TrodAll enc Try.prog W 0 (fun _ => true) true Try.f7.params.toList args.toList ds p := hA0
  rw [Try.params7] at hA hval
  obtain ⟨v0, vs0, d0, ds0, p0, q0, hargs, rfl, rfl, h0, r0⟩ := trodAll_cons hA
  obtain ⟨v1, vs1, d1, ds1, p1, q1, rfl, rfl, rfl, h1, r1⟩ := trodAll_cons r0
  obtain ⟨rfl, rfl, rfl⟩ := trodAll_nil r1
  obtain rfl : args = #[v0, v1] := by cases args; simp_all
  obtain ⟨rfl, rfl⟩ := trodVars_none hV
  have k0 := h0
  have lt0 : ∀ x ∈ p0, x.block < W.heap.size := by obtain ⟨m, hm⟩ := k0; exact DataW.trod_lt m _ _ _ hm
  obtain ⟨cs0, rfl, hc0⟩ := okWide_struct Try.underlying31 (hval 0 31 v0 rfl rfl)
  obtain ⟨a0, e0, w0⟩ : ∃ a, Value.agg cs0 = Rq.V a ∧ Rq.Ok a := by
    obtain ⟨fuel, hf⟩ := h0
    exact req_of (cs := cs0) hf (by rw [hc0]; kernel_rfl)
  have k1 := h1
  have lt1 : ∀ x ∈ p1, x.block < W.heap.size := by obtain ⟨m, hm⟩ := k1; exact DataW.trod_lt m _ _ _ hm
  obtain ⟨a1, rfl, rfl, rfl, w1⟩ := open_int Try.underlying5 (hval 1 5 v1 rfl rfl) h1
  clear hA0 hval0
  have hw := walk a0 a1 W w0 (bounds_u8 w1)
  rw [← e0] at hw
  refine hw.mono fun e W' ⟨he, bel⟩ => ?_
  subst he
  exact ⟨_, rfl, _, _, _, [], _, [], hW', trodAll_mk1 (shut_bool Try.underlying4 _), (trodAll_cons_mk (Below.trod laidOut (by kernel_rfl) (of_decide_eq_true (by kernel_rfl)) k0 bel lt0) (trodAll_cons_mk (Below.trod laidOut (by kernel_rfl) (of_decide_eq_true (by kernel_rfl)) k1 bel lt1) trodAll_mk0)), rfl, bel.frame _, fun h => by cases h⟩
theorem over : Rows.wireCutsRow.holds Try.pinned (OpenSpec.ofChange Rows.wireCutsSpec) :=
  OpenClaim.holds_of_wide 7 Try.f7 rfl rfl rfl rfl rfl rfl rfl ⟨rfl, rfl, rfl, rfl, rfl⟩ rfl rfl rfl rfl rfl (by kernel_rfl) Try.func7 (by kernel_rfl)
    (of_decide_eq_true (by kernel_rfl)) (by unfold Func.isWrapper; first | (rw [if_pos (by decide +kernel)]; kernel_rfl) | (rw [if_neg (by decide +kernel)]; exact ⟨rfl, rfl⟩))
    (fun os started H enc _ => lifted os started H enc)
/-- The statement. -/
theorem proved : Rows.WireCutsSaid := over
#print axioms proved
end Go.Proofs.Ytkgkjpeeekpimaa.wireCuts
