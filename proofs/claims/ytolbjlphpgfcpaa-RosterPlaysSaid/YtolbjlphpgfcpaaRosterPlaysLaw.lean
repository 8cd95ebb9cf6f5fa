/- RosterPlays: (P18.1, P18.2, P18.3) whatever is done with a roster tells, and leaves behind it, what the document says. Conditions: none. -/
import Derived.Test.YtolbjlphpgfcpaaRoZ
namespace Go.Proofs.Ytolbjlphpgfcpaa.rosterPlays
set_option linter.unusedVariables false
set_option linter.unusedSimpArgs false
open Go.ChangeShapes Go.WideShapes Go.ChangeAt Go.RowKit
open Go.ChangeMaps (open_string shut_string)
set_option maxRecDepth 100000 in
set_option maxHeartbeats 16000000 in
theorem walkN (v : Value) (O : List Oq) (w : World) (h : ERd elOq w v O) (hO : ∀ o ∈ O, o.I) :
    Calls Try.prog 3 #[v] w fun e w' => e = .returned (.bool true) ∧ Below w.heap.size w w' := by
  obtain ⟨A1, c1, rfl, -, hc2⟩ := h.shape
  have HL := Lib.hid h
  clear h
  obtain ⟨n, hz⟩ : ∃ z, z = O.length := ⟨_, rfl⟩
  rw [← hz] at HL ⊢
  have hmx : n ≤ 9223372036854775807 := by obtain ⟨_, _, e, h1, h2, _⟩ := HL.out; unfold maxLen at h2; omega
  have HN := Lib.hid hz; clear hz hc2
  go_enter Try.func3, Try.ntmps3
  go_wp2_with fail
  refine (rnew_any _).mono ?_
  rintro e w1 ⟨rfl, hR1, hb1⟩
  have HR1 := Lib.hid hR1
  have HB1 := Lib.hid hb1
  clear hR1 hb1
  obtain ⟨y1, hy⟩ : ∃ y, w.heap.size = y := ⟨_, rfl⟩
  have HY1 := Lib.hid hy
  rw [hy] at HR1 ⊢
  clear hy
  go_wp2_with fail
  refine (refnew_any _).mono ?_
  rintro e w2 ⟨v2, rfl, hF⟩
  have HRP := Lib.hid (show Rp w w2 0 y1 none 0 0 (fun _ => none) v2 [Mb.first] from ⟨below_trans HB1.out hF.bel, HR1.out.below hF.bel, hF.own, Nat.le_of_eq HY1.out, (fun i hi => by cases hi), (fun i hi => Nat.le_trans HB1.out.size (hF.far i hi)), (fun e => by have h1 := hF.far y1 e; have := HR1.out.blk.lt; omega), (fun i hi => by cases hi), Nat.le_refl _, Nat.le_refl _⟩)
  clear hF HR1 HB1
  go_wp2_with fail
  go_loopw [4, 5] (fun hv i wr => ∃ (k n1 c1 : Nat) (o1 : Option Nat) (H1 : Int → Option Mb) (v0 : Value) (L : List Mb), k ≤ n ∧ k ≤ 80 ∧ hv = v0 ∧ i = .int .i64 k ∧ Hid (Rp w wr k y1 o1 n1 c1 H1 v0 L) ∧ Hid (LH L H1 c1)) (fun _ i _ => n - (intOf i).toNat)
  case atStart => exact ⟨0, 0, 0, none, _, _, _, Nat.zero_le _, Nat.zero_le _, rfl, rfl, HRP.out, LH.first⟩
  case round =>
    rename World => wr
    clear HRP
    obtain ⟨k, n1, c1, o1, H1, v0, L, hk, hk2, hv, rfl, HP, HLH⟩ := hrel
    have hv' := hv.symm
    clear hv
    subst hv'
    by_cases hlt : k < n
    · have hd1 : decide ((k : Int) < (n : Int)) = true := by simp; exact hlt
      by_cases h80 : k < 80
      · have hd2 : decide ((k : Int) < 80) = true := by simp; omega
        have hkl : k < O.length := by rw [← HN.out]; exact hlt
        have hx : O[k]? = some O[k] := List.getElem?_eq_getElem hkl
        have HI := Lib.hid (hO _ (List.getElem_mem hkl))
        have HE := Lib.hid (HL.out.below HP.out.bel)
        generalize O[k] = x at *
        have HX := Lib.hid hx
        have hlt2 : (k : Int) < n := by omega
        have hlen0 := HLH.out.len
        have hlc := HP.out.lc
        have HW := Lib.hid (wants_any wr v0 L x (ERd.of_own elM_ok HP.out.row) (by omega) (HLH.out.quota HP.out.s.wf))
        unfold WaP at HW
        clear hlen0 hlc
        have hop := op_row HLH.out HP.out.s.wf x
        have HEQ := hop.1
        have HLH2 := Lib.hid hop.2
        clear hop
        rw [HEQ] at HW
        have HD := Lib.hid (fun W (h : RS W y1 o1 n1 H1 c1) => does_any W y1 n1 c1 o1 H1 x h HI.out (by have := HP.out.ln; omega))
        unfold DoP at HD
        have HC := Lib.hid (opC_le H1 x c1)
        have HFA := Lib.hid (fun W n' o' (h : RS W y1 o' n' (opH H1 x) (opC H1 x c1)) => rfind_any W y1 n' (opC H1 x c1) o' (opH H1 x) x.m.user h HI.out.m.user)
        have HFB := Lib.hid (fun W vv (h : ERd elM W vv (waL L x)) hl => reffind_any W vv (waL L x) x.m.user h hl)
        have hfi := HLH2.out.fi x.m.user
        rw [← hfi.1, ← hfi.2] at HFB
        clear hfi HEQ
        generalize opE H1 x = E1 at *
        generalize opH H1 x = H2 at *
        generalize opC H1 x c1 = c2 at *
        generalize waL L x = L2 at *
        generalize fiM H2 x.m.user = M at *
        generalize fiB H2 x.m.user = fb at *
        clear hx
        obtain ⟨kd, ⟨u0, u1, u2, u3, u4, u5⟩, fk, fa, nn⟩ := x
        obtain ⟨m0, m1, m2, m3, m4, m5⟩ := M
        simp only [Oq.V, Mb.V] at HD HW HFA HFB
        obtain ⟨g1, p1, rfl, a0, a1, a2, a3, a4, a5, a6, a7, a8, a9⟩ := HE.out.tenq HX.out
        simp only at a0 a1 a2 a3 a4 a5 a6 a7 a8 a9
        go_wp2_with fail
        refine HW.out.mono ?_
        rintro e w3 ⟨v3, rfl, hWa⟩
        have HP3 := Lib.hid (HP.out.want hWa)
        clear hWa HW HE a0 a1 a2 a3 a4 a5 a6 a7 a8 a9
        obtain ⟨g1', p1', e1', a0, a1, a2, a3, a4, a5, a6, a7, a8, a9⟩ := (HL.out.below HP3.out.bel).tenq HX.out
        simp only [Option.some.injEq, Addr.mk.injEq, and_true] at e1'
        obtain ⟨rfl, rfl⟩ := e1'
        simp only at a0 a1 a2 a3 a4 a5 a6 a7 a8 a9
        go_wp2_with fail
        refine (HD.out _ HP3.out.s).mono ?_
        rintro e w4 ⟨o2, n2, hn2, rfl, hA⟩
        have HP4 := Lib.hid (HP3.out.op hA hn2 HC.out)
        clear hA hn2 HD HC HP3 HP a0 a1 a2 a3 a4 a5 a6 a7 a8 a9
        obtain ⟨g1', p1', e1', a0, a1, a2, a3, a4, a5, a6, a7, a8, a9⟩ := (HL.out.below HP4.out.bel).tenq HX.out
        simp only [Option.some.injEq, Addr.mk.injEq, and_true] at e1'
        obtain ⟨rfl, rfl⟩ := e1'
        simp only at a0 a1 a2 a3 a4 a5 a6 a7 a8 a9
        go_wp2_with fail
        refine (HFA.out _ _ _ HP4.out.s).mono ?_
        rintro e w5 ⟨rfl, hb⟩
        clear a0 a1 a2 a3 a4 a5 a6 a7 a8 a9
        go_upto_region 10 with fail
        have hal : Below w5.heap.size w5 (w5.alloc (.cells #[.int .i64 m0, .int .i64 m1, .int .i64 m2, .int .i64 m3, .int .i64 m4, .int .u64 m5] 34)) := (Below.refl _ _).alloc (Nat.le_refl _) _
        have HZ := Lib.hid (Blk.new w5 34 #[.int .i64 m0, .int .i64 m1, .int .i64 m2, .int .i64 m3, .int .i64 m4, .int .u64 m5])
        have HP5 := Lib.hid ((HP4.out.below hb).below hal)
        clear hb hal HFA HP4
        generalize (w5.alloc (.cells #[.int .i64 m0, .int .i64 m1, .int .i64 m2, .int .i64 m3, .int .i64 m4, .int .u64 m5] 34)) = w6 at *
        generalize w5.heap.size = za at *
        obtain ⟨g1', p1', e1', a0, a1, a2, a3, a4, a5, a6, a7, a8, a9⟩ := (HL.out.below HP5.out.bel).tenq HX.out
        simp only [Option.some.injEq, Addr.mk.injEq, and_true] at e1'
        obtain ⟨rfl, rfl⟩ := e1'
        simp only at a0 a1 a2 a3 a4 a5 a6 a7 a8 a9
        have hlen2 := HLH2.out.len
        have hlc2 := HP5.out.lc
        go_wp2_with fail
        refine (HFB.out _ _ (ERd.of_own elM_ok HP5.out.row) (by omega)).mono ?_
        rintro e w7 ⟨rfl, hb⟩
        clear a0 a1 a2 a3 a4 a5 a6 a7 a8 a9
        go_upto_region 11 with fail
        have hal : Below w7.heap.size w7 (w7.alloc (.cells #[.int .i64 m0, .int .i64 m1, .int .i64 m2, .int .i64 m3, .int .i64 m4, .int .u64 m5] 34)) := (Below.refl _ _).alloc (Nat.le_refl _) _
        have HZ2 := Lib.hid (Blk.new w7 34 #[.int .i64 m0, .int .i64 m1, .int .i64 m2, .int .i64 m3, .int .i64 m4, .int .u64 m5])
        have HZ1 := Lib.hid (Blk.thru0 (Blk.thru0 HZ.out hb) hal)
        have HP7 := Lib.hid ((HP5.out.below hb).below hal)
        clear hb hal HZ HP5 HFB
        generalize (w7.alloc (.cells #[.int .i64 m0, .int .i64 m1, .int .i64 m2, .int .i64 m3, .int .i64 m4, .int .u64 m5] 34)) = w8 at *
        generalize w7.heap.size = zb at *
        have p0 := HZ1.out.cell 0
        have p1 := HZ1.out.cell 1
        have p2 := HZ1.out.cell 2
        have p3 := HZ1.out.cell 3
        have p4 := HZ1.out.cell 4
        have p5 := HZ1.out.cell 5
        have q0 := HZ2.out.cell 0
        have q1 := HZ2.out.cell 1
        have q2 := HZ2.out.cell 2
        have q3 := HZ2.out.cell 3
        have q4 := HZ2.out.cell 4
        have q5 := HZ2.out.cell 5
        simp only [List.getElem?_toArray, List.getElem?_cons_zero, List.getElem?_cons_succ] at p0 p1 p2 p3 p4 p5 q0 q1 q2 q3 q4 q5
        have e0 : (m0 == m0) = true := by simp
        have e1 : (m1 == m1) = true := by simp
        have e2 : (m2 == m2) = true := by simp
        have e3 : (m3 == m3) = true := by simp
        have e4 : (m4 == m4) = true := by simp
        have e5 : ((m5 : Int) == (m5 : Int)) = true := by simp
        have e6 : (fb == fb) = true := by simp
        have e7 : (E1 == E1) = true := by simp
        obtain ⟨A3, cp3, hv3, -, -⟩ := HP7.out.row.slice
        subst hv3
        have e8 : ((1 + (c2 : Int)) != ((L2.length : Nat) : Int)) = false := by rw [hlen2]; simp
        have HLN := Lib.hid hlen2
        have HLC := Lib.hid hlc2
        clear hlen2 hlc2
        generalize hNN : L2.length = NN at *
        go_wp2_with (go_at_call 13; refine (rlen_any _ y1 _ c2 _ H2 HP7.out.s (by have := HLC.out; omega)).mono ?_; rintro e w9 ⟨rfl, rfl⟩)
        go_roundw
        case rel => exact ⟨k + 1, _, _, _, _, _, _, by omega, by omega, rfl, by go_num, HP7, HLH2⟩
        case measure => simp [intOf]; omega
      · have hd2 : decide ((k : Int) < 80) = false := by simp; omega
        have HAL := Lib.hid (all_any wr y1 n1 c1 o1 H1 HP.out.s (by have := HP.out.lc; omega))
        unfold AlP at HAL
        have HLL := Lib.hid (show L.length ≤ 1000000 by have h1 := HLH.out.len; have h2 := HP.out.lc; omega)
        go_wp2_with (first | (go_at_call 15; refine HAL.out.mono ?_; rintro e w3 ⟨v9, Ks, rfl, hF, hp, hm⟩; rw [HLH.out.users hp hm] at hF; have HF := Lib.hid hF; clear hF hp hm) | (go_at_call 14; refine (rsameM_any _ _ _ L (ERd.of_own elM_ok HF.out.own) (ERd.of_own elM_ok (HP.out.row.below HF.out.bel)) HLL.out).mono ?_; rintro e w4 ⟨rfl, hq⟩; have HB4 := Lib.hid (show Below w.heap.size w w4 by obtain ⟨q, rfl⟩ := hq; exact below_drawn (below_trans HP.out.bel HF.out.bel) q); clear hq) | (go_at_call 16; refine (rknown_any _).mono ?_; rintro e w5 ⟨rfl, hb5⟩; have HB5 := Lib.hid (below_trans HB4.out hb5); clear hb5))
        go_ret
        exact ⟨rfl, HB5.out⟩
    · have hd1 : decide ((k : Int) < (n : Int)) = false := by simp; omega
      have HAL := Lib.hid (all_any wr y1 n1 c1 o1 H1 HP.out.s (by have := HP.out.lc; omega))
      unfold AlP at HAL
      have HLL := Lib.hid (show L.length ≤ 1000000 by have h1 := HLH.out.len; have h2 := HP.out.lc; omega)
      go_wp2_with (first | (go_at_call 15; refine HAL.out.mono ?_; rintro e w3 ⟨v9, Ks, rfl, hF, hp, hm⟩; rw [HLH.out.users hp hm] at hF; have HF := Lib.hid hF; clear hF hp hm) | (go_at_call 14; refine (rsameM_any _ _ _ L (ERd.of_own elM_ok HF.out.own) (ERd.of_own elM_ok (HP.out.row.below HF.out.bel)) HLL.out).mono ?_; rintro e w4 ⟨rfl, hq⟩; have HB4 := Lib.hid (show Below w.heap.size w w4 by obtain ⟨q, rfl⟩ := hq; exact below_drawn (below_trans HP.out.bel HF.out.bel) q); clear hq) | (go_at_call 16; refine (rknown_any _).mono ?_; rintro e w5 ⟨rfl, hb5⟩; have HB5 := Lib.hid (below_trans HB4.out hb5); clear hb5))
      go_ret
      exact ⟨rfl, HB5.out⟩
theorem walk (a : Option Addr) (z c : Nat) (w : World) (h : IsSl w 10 okOq a z c) :
    Calls Try.prog 3 #[.slice a z c] w fun e w' => e = .returned (.bool true) ∧ Below w.heap.size w w' := by
  obtain ⟨L, h1, _, h3⟩ := oqs_of h
  exact walkN _ L w h1 h3
theorem own : ownKnob Try.prog.godebug = none := by kernel_rfl
theorem laidOut : laidOutB Try.prog = true := by kernel_rfl
set_option maxRecDepth 100000 in
theorem lifted (os : Os) (started : os.Started) (H : Type) (enc : TypeId × Value → H) :
    ReturnsInHanded {} Try.checked os 3 .any (Rows.rosterPlaysSpec.pre6 enc Try.prog Try.f3 Rows.rosterPlaysRow.domain false) (Rows.rosterPlaysSpec.post enc Try.prog Try.f3 false true false false) := by
  refine returnsInHanded_of_change_sized (C := Try.checked) own started (by kernel_rfl) Try.func3
    (ChangeSpec.witness6 (enc := enc) (C := Try.checked) false ⟨#[], #[.slice none 0 0], []⟩ 8 (by kernel_rfl) (by kernel_rfl) (by kernel_rfl) (by kernel_rfl)) ?_
  intro W base args ds gs before hval0 hW hcnd hsz0 _
  have hval : ∀ (j : Nat) t v, Try.f3.params[j]? = some t → args[j]? = some v → Value.okWide Try.prog W .any base t v := hval0
  have hW' := hW
  obtain ⟨p, q, hA0, hV, rfl, hfz, hnd⟩ := hW
  have hA : DataW.TrodAll enc Try.prog W 0 (fun _ => true) true Try.f3.params.toList args.toList ds p := hA0
  rw [Try.params3] at hA hval
  obtain ⟨v0, vs0, d0, ds0, p0, q0, hargs, rfl, rfl, h0, r0⟩ := trodAll_cons hA
  obtain ⟨rfl, rfl, rfl⟩ := trodAll_nil r0
  obtain rfl : args = #[v0] := by cases args; simp_all
  obtain ⟨rfl, rfl⟩ := trodVars_none hV
  have k0 := h0
  have lt0 : ∀ x ∈ p0, x.block < W.heap.size := by obtain ⟨m, hm⟩ := k0; exact DataW.trod_lt m _ _ _ hm
  obtain ⟨a0, len0, cap0, rfl⟩ := okWide_slice Try.underlying22 (hval 0 22 v0 rfl rfl)
  have w0 : IsSl W 10 (okOqW W) a0 len0 cap0 := by
    obtain ⟨fuel, hf⟩ := h0
    exact isSl_of Try.underlying22 (by kernel_rfl) okOqP hf (fun n hn => of_decide_eq_true (List.all_eq_true.1 hsz0 n (DataW.weights_mem_each (j := 0) (t := 22) (d := d0) rfl rfl n hn)))
  clear hA0 hval0
  refine (walk a0 len0 cap0 W w0).mono fun e W' ⟨he, bel⟩ => ?_
  subst he
  exact ⟨_, rfl, _, _, _, [], _, [], hW', trodAll_mk1 (shut_bool Try.underlying4 _), (trodAll_cons_mk (Below.trod laidOut (by kernel_rfl) (of_decide_eq_true (by kernel_rfl)) k0 bel lt0) trodAll_mk0), rfl, bel.frame _, fun h => by cases h⟩
theorem over : Rows.rosterPlaysRow.holds Try.pinned (OpenSpec.ofChange Rows.rosterPlaysSpec) :=
  OpenClaim.holds_of_wide 3 Try.f3 rfl rfl rfl rfl rfl rfl rfl ⟨rfl, rfl, rfl, rfl, rfl⟩ rfl rfl rfl rfl rfl (by kernel_rfl) Try.func3 (by kernel_rfl)
    (of_decide_eq_true (by kernel_rfl)) (by unfold Func.isWrapper; first | (rw [if_pos (by decide +kernel)]; kernel_rfl) | (rw [if_neg (by decide +kernel)]; exact ⟨rfl, rfl⟩))
    (fun os started H enc _ => lifted os started H enc)
/-- The statement. -/
theorem proved : Rows.RosterPlaysSaid := over
#print axioms proved
end Go.Proofs.Ytolbjlphpgfcpaa.rosterPlays
