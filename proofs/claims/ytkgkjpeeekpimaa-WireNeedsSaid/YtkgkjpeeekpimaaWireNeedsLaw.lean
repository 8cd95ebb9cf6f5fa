/- WireNeeds: (P19.1) for any request: of any operation it is told how many bytes its fields have, and all its requests have so many. Conditions: none. -/
import Derived.Test.YtkgkjpeeekpimaaWrN
import Derived.Deep.DeepCutAuto
import Derived.Deep.RegionHeld3
namespace Go.Proofs.Ytkgkjpeeekpimaa.wireNeeds
set_option linter.unusedVariables false
set_option linter.unusedSimpArgs false
open Go.ChangeShapes Go.WideShapes Go.ChangeAt Go.RowKit
open Go.ChangeMaps (open_string shut_string)
attribute [local go_sem ↓] to_ldQ to_stQ to_ldV eq_req eq_reqZ
theorem below_undr {W w' : World} (h : Below W.drew.heap.size W.drew w') : Below W.heap.size W w' := ⟨h.os, h.tape, h.output, h.size, h.block⟩
theorem keep1 {W w9 : World} {p : Addr} {v : Value} (h : W.cell? p = some v) (hb : Below W.heap.size W w9) : w9.cell? p = some v := (hb.cell (World.block_lt_of_cell? W _ h)).trans h
set_option maxRecDepth 100000 in
set_option maxHeartbeats 16000000 in
theorem walk (r : Rq) (w : World) (hr : r.Ok) :
    Calls Try.prog 6 #[r.V] w fun e w' => e = .returned (.bool true) ∧ Below w.heap.size w w' := by
  have HR := Lib.hid hr
  have HW0 := Lib.hid (Blk.new w TQ r.cs)
  have HB0 := Lib.hid (show Below w.heap.size w (w.alloc (.cells r.cs TQ)) from (Below.refl _ _).alloc (Nat.le_refl _) _)
  have HT := Lib.hid hr.text
  have HRO := Lib.hid hr.op
  clear hr
  go_enter Try.func6, Try.ntmps6
  go_wp2_with fail
  generalize w.alloc (.cells r.cs TQ) = W at *
  have k0 := HW0.out.cell 0
  rw [show r.cs[0]? = some (.int .i64 r.op) from rfl] at k0
  have hbr := Below.refl W.heap.size W
  go_cut [12] (fun s12 wx => s12 = .bool false ∧ Hid (Below W.heap.size W wx))
  case first =>
    go_region_held3 (fun w' => (w'.cell? ⟨w.heap.size, 0, none⟩ = some (.int .i64 r.op)) ∧ (Below W.heap.size W w')) (first | exact ⟨by assumption, by assumption⟩ | exact ⟨k0, below_drawn (Below.refl _ _) 1⟩ | exact ⟨k0, Below.refl _ _⟩) (first | (go_at_call 16; refine (needs_any _ HRO.out _).mono ?_; rintro e w9 ⟨rfl, hb9⟩; have hbz : Below W.heap.size W w9 := (by first | exact below_undr hb9 | exact below_trans (by assumption) hb9 | exact below_trans (by assumption) (below_undr hb9) | exact hb9); have hkz := keep1 k0 hbz) | (go_at_call 17; refine (rneeds_any _ _).mono ?_; rintro e w9 ⟨rfl, hb9⟩; have hbz : Below W.heap.size W w9 := (by first | exact below_undr hb9 | exact below_trans (by assumption) hb9 | exact below_trans (by assumption) (below_undr hb9) | exact hb9); have hkz := keep1 k0 hbz))
    all_goals
      rename_i hS
      go_wp2
      go_meet
      exact ⟨by simp, Lib.hid (by first | exact hS.2 | assumption)⟩
  case rest =>
    rename World => w1
    obtain ⟨rfl, HBC⟩ := hcut
    have HW1 := Lib.hid (HW0.out.thru0 HBC.out)
    have HB1 := Lib.hid (HB0.out.trans (HBC.out.mono HB0.out.size))
    have hld := run_ldQ HW1.out
    have HEN := Lib.hid (encode_any r HR.out w1)
    unfold EncP at HEN
    clear k0 hbr HBC HW0 HB0
    by_cases he : (encR r).1 = 0
    · obtain ⟨hb1, hb2, h1o, h19o⟩ := enc_back he
      obtain ⟨k, hk1, hk19, _, hzk, _, h13, hlen, htx, _⟩ := dec_parts hb1
      have HZK := Lib.hid hzk
      have HLE := Lib.hid hlen
      have HTX := Lib.hid htx
      have HLN := Lib.hid (show (encR r).2.length ≤ 600 by rw [hb2]; exact wrR_len r)
      rw [he] at HEN
      have HND := Lib.hid (fun y => needs_any r.op HRO.out y)
      have hnn : needN r.op = (fieldsN k : Int) := by unfold needN; rw [if_pos ⟨h1o, h19o⟩, hzk, Int.toNat_natCast]
      rw [hnn] at HND
      have hfs := fields_sizes k
      clear hnn he hb1 hb2 h1o h19o hlen htx hzk
      obtain ⟨n, hn⟩ : ∃ n, n = (encR r).2.length := ⟨_, rfl⟩
      rw [← hn] at HLN h13 HLE HTX
      have HNN := Lib.hid hn
      clear hn
      go_wp2_with fail
      refine HEN.out.mono ?_
      rintro e w2 ⟨v2, rfl, ho2, hf2, hb2⟩
      obtain ⟨A2, c2, hv2, hl2, hm2⟩ := ho2.slice
      rw [← HNN.out] at hv2
      subst hv2
      have HW2 := Lib.hid (HW1.out.thru0 hb2)
      have HB2 := Lib.hid (HB1.out.trans (hb2.mono HB1.out.size))
      have k0 := HW2.out.cell 0
      rw [show r.cs[0]? = some (.int .i64 r.op) from rfl] at k0
      clear ho2 hf2 hb2 hl2 hm2 hld HEN HW1 HB1
      go_wp2_with fail
      refine (HND.out _).mono ?_
      rintro e w3 ⟨rfl, hb3⟩
      have HB3 := Lib.hid (HB2.out.trans (hb3.mono HB2.out.size))
      have HW3 := Lib.hid (HW2.out.thru0 hb3)
      have q0 := HW3.out.cell 0
      rw [show r.cs[0]? = some (.int .i64 r.op) from rfl] at q0
      have q9 := HW3.out.cell 9
      rw [show r.cs[9]? = some (.string (bs r.text)) from rfl] at q9
      have hts : (bs r.text).size = r.text.length := bs_size _
      have h600 : (n : Int) ≤ 600 := by have := HLN.out; omega
      clear hb3 HW2 HB2 k0 HND
      by_cases h3 : k = 3
      · have h3b : (r.op == 3) = true := by rw [HZK.out, h3]; rfl
        have HLX : Hid (r.text.length + 13 = n) := Lib.hid (HTX.out h3)
        have hf0 : fieldsN k = 0 := by rw [h3]; rfl
        have HEQ : Hid ((n : Int) = 13 + (((bs r.text).size : Nat) : Int)) := Lib.hid (by rw [hts]; have := HLX.out; omega)
        have hge : ((n : Int) == 13 + (((bs r.text).size : Nat) : Int)) = true := by rw [beq_iff_eq]; exact HEQ.out
        have hw13 : IntKind.i64.wrap (13 + (((bs r.text).size : Nat) : Int)) = 13 + (((bs r.text).size : Nat) : Int) := by rw [IntKind.wrap_i64]; have := HEQ.out; omega
        rw [hf0]
        clear h3 hts hf0
        generalize bs r.text = tx at *
        go_wp2_with fail
        refine (wknown_any _).mono ?_
        rintro e w4 ⟨rfl, hb4⟩
        have HB4 := Lib.hid (HB3.out.trans (hb4.mono HB3.out.size))
        clear hb4
        go_wp2_with fail
        go_ret
        exact ⟨rfl, HB4.out⟩
      · have h3b : (r.op == 3) = false := by rw [HZK.out]; exact beq_eq_false_iff_ne.2 (by omega)
        have HEQ : Hid (n = 13 + fieldsN k) := Lib.hid (HLE.out h3)
        have hge : ((n : Int) == 13 + (fieldsN k : Int)) = true := by rw [beq_iff_eq, HEQ.out]; omega
        clear h3 q9 hts
        generalize fieldsN k = f at *
        go_wp2_with fail
        refine (wknown_any _).mono ?_
        rintro e w4 ⟨rfl, hb4⟩
        have HB4 := Lib.hid (HB3.out.trans (hb4.mono HB3.out.size))
        clear hb4
        go_wp2_with fail
        go_ret
        exact ⟨rfl, HB4.out⟩
    · obtain ⟨er, her⟩ : ∃ er, er = (encR r).1 := ⟨_, rfl⟩
      rw [← her] at HEN
      have hne0 : (er != 0) = true := by rw [her]; simpa using he
      clear her he
      go_wp2_with fail
      refine HEN.out.mono ?_
      rintro e w2 ⟨v2, rfl, ho2, hf2, hb2⟩
      have HB2 := Lib.hid (HB1.out.trans (hb2.mono HB1.out.size))
      clear ho2 hf2 hb2 hld HEN HW1 HB1
      go_wp2_with fail
      refine (wknown_any _).mono ?_
      rintro e w4 ⟨rfl, hb4⟩
      have HB4 := Lib.hid (HB2.out.trans (hb4.mono HB2.out.size))
      clear hb4
      go_wp2_with fail
      go_ret
      exact ⟨rfl, HB4.out⟩
theorem own : ownKnob Try.prog.godebug = none := by kernel_rfl
theorem laidOut : laidOutB Try.prog = true := by kernel_rfl
set_option maxRecDepth 100000 in
theorem lifted (os : Os) (started : os.Started) (H : Type) (enc : TypeId × Value → H) :
    ReturnsInHanded {} Try.checked os 6 .any (Rows.wireNeedsSpec.pre6 enc Try.prog Try.f6 Rows.wireNeedsRow.domain false) (Rows.wireNeedsSpec.post enc Try.prog Try.f6 false true false false) := by
  refine returnsInHanded_of_change (C := Try.checked) own started (by kernel_rfl) Try.func6
    (ChangeSpec.witness6 (enc := enc) (C := Try.checked) false ⟨#[], #[wRq], []⟩ 8 (by kernel_rfl) (by kernel_rfl) (by kernel_rfl) (by kernel_rfl)) ?_
  intro W base args ds gs before hval0 hW hcnd _
  have hval : ∀ (j : Nat) t v, Try.f6.params[j]? = some t → args[j]? = some v → Value.okWide Try.prog W .any base t v := hval0
  have hW' := hW
  obtain ⟨p, q, hA0, hV, rfl, hfz, hnd⟩ := hW
  have hA : DataW.TrodAll enc Try.prog W 0 (fun _ => true) true Try.f6.params.toList args.toList ds p := hA0
  rw [Try.params6] at hA hval
  obtain ⟨v0, vs0, d0, ds0, p0, q0, hargs, rfl, rfl, h0, r0⟩ := trodAll_cons hA
  obtain ⟨rfl, rfl, rfl⟩ := trodAll_nil r0
  obtain rfl : args = #[v0] := by cases args; simp_all
  obtain ⟨rfl, rfl⟩ := trodVars_none hV
  have k0 := h0
  have lt0 : ∀ x ∈ p0, x.block < W.heap.size := by obtain ⟨m, hm⟩ := k0; exact DataW.trod_lt m _ _ _ hm
  obtain ⟨cs0, rfl, hc0⟩ := okWide_struct Try.underlying31 (hval 0 31 v0 rfl rfl)
  obtain ⟨a0, e0, w0⟩ : ∃ a, Value.agg cs0 = Rq.V a ∧ Rq.Ok a := by
    obtain ⟨fuel, hf⟩ := h0
    exact req_of (cs := cs0) hf (by rw [hc0]; kernel_rfl)
  clear hA0 hval0
  have hw := walk a0 W w0
  rw [← e0] at hw
  refine hw.mono fun e W' ⟨he, bel⟩ => ?_
  subst he
  exact ⟨_, rfl, _, _, _, [], _, [], hW', trodAll_mk1 (shut_bool Try.underlying4 _), (trodAll_cons_mk (Below.trod laidOut (by kernel_rfl) (of_decide_eq_true (by kernel_rfl)) k0 bel lt0) trodAll_mk0), rfl, bel.frame _, fun h => by cases h⟩
theorem over : Rows.wireNeedsRow.holds Try.pinned (OpenSpec.ofChange Rows.wireNeedsSpec) :=
  OpenClaim.holds_of_wide 6 Try.f6 rfl rfl rfl rfl rfl rfl rfl ⟨rfl, rfl, rfl, rfl, rfl⟩ rfl rfl rfl rfl rfl (by kernel_rfl) Try.func6 (by kernel_rfl)
    (of_decide_eq_true (by kernel_rfl)) (by unfold Func.isWrapper; first | (rw [if_pos (by decide +kernel)]; kernel_rfl) | (rw [if_neg (by decide +kernel)]; exact ⟨rfl, rfl⟩))
    (fun os started H enc _ => lifted os started H enc)
/-- The statement. -/
theorem proved : Rows.WireNeedsSaid := over
#print axioms proved
end Go.Proofs.Ytkgkjpeeekpimaa.wireNeeds
