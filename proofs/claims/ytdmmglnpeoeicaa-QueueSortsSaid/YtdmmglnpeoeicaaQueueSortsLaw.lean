/- QueueSorts: (P4.2, P4.3) any entries are put in order, and what they were is as it was. Conditions: none. -/
import Derived.Test.YtdmmglnpeoeicaaSrt9
import Derived.Test.YtdmmglnpeoeicaaRSort
import Derived.Test.YtdmmglnpeoeicaaQKnown
import Derived.Test.YtdmmglnpeoeicaaFrame
import Derived.Lib.SmallJoins
namespace Go.Proofs.Ytdmmglnpeoeicaa.queueSorts
set_option linter.unusedVariables false
set_option linter.unusedSimpArgs false
open Go.ChangeShapes Go.WideShapes Go.ChangeAt Go.RowKit
open Go.ChangeMaps (open_string shut_string)
set_option maxRecDepth 100000 in
set_option maxHeartbeats 16000000 in
theorem walk (a : Option Addr) (len cap0 : Nat) (w : World) (h : IsSl w 3 (EntOk w) a len cap0) : Calls Try.prog 4 #[.slice a len cap0] w fun e w' => e = .returned (.bool true) ∧ Below w.heap.size w w' := by
  obtain ⟨S, hS⟩ := rd_of h
  clear h
  have hlc := hS.2.1
  have hlc2 := hS.2.2.1
  unfold maxLen at hlc2
  by_cases hbig : 300 < len
  · have hbi : (300 : Int) < (len : Int) := by omega
    clear hS
    go_enter Try.func4, Try.ntmps4
    go_wp2_with fail
    refine (known_any _).mono ?_
    rintro e w9 ⟨rfl, hb9⟩
    go_wp2
    go_ret
    exact ⟨rfl, hb9⟩
  · have hbi : (len : Int) ≤ 300 := by omega
    have HR := Lib.hid hS; clear hS
    have HST := Lib.hid (show WasSt w (.slice none 0 0) (S.take 0) w from ⟨by simp; exact QOwn.nil_ _, Below.refl _ _, fun i hi => by simp [Value.ownBlock] at hi⟩)
    go_enter Try.func4, Try.ntmps4
    go_wp2
    go_loopw [3, 4] (fun vo vi wr => ∃ (k : Nat) (v0 : Value), vi = .int .i64 k ∧ vo = v0 ∧ k ≤ len ∧ Hid (WasSt w v0 (S.take k) wr)) (fun _ vi _ => len - (intOf vi).toNat)
    case atStart => exact ⟨0, _, rfl, rfl, Nat.zero_le _, HST⟩
    case round =>
      clear HST
      obtain ⟨k, v0, rfl, rfl, hk, hrel⟩ := hrel
      obtain ⟨A0, c0, rfl, hc1, hc2⟩ := hrel.out.1.slice
      have hlk : (S.take k).length = k := by rw [List.length_take, HR.out.1]; omega
      by_cases hlt : k < len
      · have hki : (k : Int) < (len : Int) := by omega
        obtain ⟨g, off, rfl, b0, b1, b2⟩ := HR.out.cell hlt
        have a0 := cell_later hrel.out.2.1 b0
        have a1 := cell_later hrel.out.2.1 b1
        have a2 := cell_later hrel.out.2.1 b2
        have hT1 : S.take (k + 1) = S.take k ++ [at_ S k] := take_more (by rw [HR.out.1]; exact hlt)
        have HT1 := Lib.hid hT1; clear hT1
        have HQ := hrel
        clear hrel b0 b1 b2
        generalize at_ S k = y at *
        generalize S.take k = L0 at *
        have HLK := Lib.hid hlk
        have hl0 : L0.length ≤ 4398046511102 := by omega
        clear hlk
        go_wp2_with (at_builtin; refine wpList_push rfl (.tmp 17) (.tmp 22) _ rfl Try.underlying26 (.slice A0 L0.length c0) L0 y _ 1 rfl rfl (by first | exact HQ.out.1.alloc _ | exact (HQ.out.1.drew).alloc _) (by first | exact new_cell _ _ _ 0 rfl | exact new_cell_d _ _ _ 0 rfl) (by first | exact new_cell _ _ _ 1 rfl | exact new_cell_d _ _ _ 1 rfl) (by first | exact new_cell _ _ _ 2 rfl | exact new_cell_d _ _ _ 2 rfl) (by first | omega | (simp; omega)) ?_; rintro pv pw pa; have ph := WasSt.append HQ.out ((Below.refl _ _).alloc (Nat.le_refl _) _) pa; have Hp := Lib.hid ph; clear ph pa)
        go_roundw
        case rel => exact ⟨k + 1, _, by go_num, rfl, by omega, Lib.hid (by rw [HT1.out]; exact Hp.out)⟩
        case measure => simp [intOf]; omega
      · obtain rfl : k = len := by omega
        have hTK : S.take k = S := List.take_of_length_le (by rw [HR.out.1]; exact Nat.le_refl _)
        have hw0 := hrel.out
        rw [hTK] at hw0
        rw [hTK] at hlk ⊢
        have HW0 := Lib.hid hw0
        have HRD := Lib.hid (HR.out.below hw0.2.1)
        have HC := Lib.hid (qsort_any a k cap0 S wr HRD.out (by omega))
        rw [hlk] at HW0 ⊢
        clear hrel hw0 hTK hlt hlk
        go_wp2_with fail
        refine HC.out.mono ?_
        rintro e w2 ⟨B, c2, T, rfl, hT, hp, hs, hb⟩
        have HB2 := Lib.hid hb; have HT := Lib.hid hT; have HP := Lib.hid hp; have HS := Lib.hid hs
        have hbc := hT.2.1
        have hcm := hT.2.2.1
        unfold maxLen at hcm
        clear hb hT hp hs HC
        have HL2 := Lib.hid (Below.refl w2.heap.size w2)
        go_wp2
        go_loopw [6] (fun vi wr => ∃ i : Nat, vi = .int .i64 i ∧ 1 ≤ i ∧ Hid (Below w2.heap.size w2 wr)) (fun vi _ => k - (intOf vi).toNat)
        case atStart => exact ⟨1, rfl, Nat.le_refl _, HL2⟩
        case round =>
          clear HL2
          obtain ⟨i, rfl, hi1, HL2⟩ := hrel
          by_cases hik : i < k
          · have hiki : (i : Int) < (k : Int) := by omega
            obtain ⟨p, hp⟩ : ∃ p : Nat, p + 1 = i := ⟨i - 1, by omega⟩
            have hpk : p < k := by omega
            have hpki : (p : Int) < (k : Int) := by omega
            have hwr : IntKind.i64.wrap ((i : Int) - 1) = (p : Int) := by
              rw [show (i : Int) - 1 = (p : Int) by omega]; exact IntWalk.i64_in _ (by omega)
            obtain ⟨g, off, rfl, x0, x1, x2⟩ := (HT.out.rd.below HL2.out).cell hik
            obtain ⟨g', off', he, y0, y1, y2⟩ := (HT.out.rd.below HL2.out).cell hpk
            injection he with he; injection he with he1 he2; subst he1; subst he2
            have hlt := srt_at HS.out (p := p) (k := i) (by omega) (by rw [HT.out.1]; exact hik)
            generalize at_ T i = x at *
            generalize at_ T p = y at *
            have HLT := Lib.hid hlt; clear hlt hp
            have HLE := Lib.hid (less_any x.1 x.2.1 x.2.2 y.1 y.2.1 y.2.2)
            go_wp2_with fail
            go_still_tail 9, (by kernel_rfl)
            change wpList _ _ _ _ _ (World.drew _)
            have hbd : Below w2.heap.size w2 wr.drew := below_drawn HL2.out 1
            have HBD := Lib.hid hbd; clear hbd HL2
            generalize wr.drew = w3 at *
            go_wp2_with fail
            refine (HLE.out _).mono ?_
            rintro e w4 ⟨he, hb4⟩
            rw [HLT.out] at he
            subst he
            have HN := Lib.hid (below_trans HBD.out hb4)
            clear hb4
            go_wp2
            go_roundw
            case rel => exact ⟨i + 1, by go_num, by omega, HN⟩
            case measure => simp [intOf]; omega
          · have HCS := Lib.hid (rsort_any a k cap0 S wr ((HRD.out.below HB2.out).below HL2.out) (by omega))
            go_wp2_with fail
            refine HCS.out.mono ?_
            rintro e w5 ⟨B5, c5, T5, rfl, hT5, hp5, hs5, hb5⟩
            have hTT : T5 = T := srt_eq (hp5.trans HP.out.symm) hs5 HS.out
            subst hTT
            have HB5 := Lib.hid (below_trans HL2.out hb5)
            have H5 := Lib.hid hT5.hv.rd
            clear hT5 hp5 hs5 hb5 HCS
            go_wp2_with fail
            refine (rsame_rd B B5 k k c2 c5 T5 T5 w5 (HT.out.rd.below HB5.out) H5.out).mono ?_
            rintro e w6 ⟨rfl, q6, hw6⟩
            rw [show decide (T5 = T5) = true by simp]
            have hb6 : Below w5.heap.size w5 w6 := by rw [hw6]; exact below_drawn (Below.refl _ _) q6
            have HB6 := Lib.hid (below_trans HB5.out hb6)
            clear hw6 hb6 H5
            go_wp2_with fail
            refine (rsame_rd a A0 k k cap0 c0 S S w6 ((HRD.out.below HB2.out).below HB6.out) (((HW0.out.1.below HB2.out).below HB6.out).hv.rd)).mono ?_
            rintro e w7 ⟨rfl, q7, hw7⟩
            rw [show decide (S = S) = true by simp]
            have hb7 : Below w6.heap.size w6 w7 := by rw [hw7]; exact below_drawn (Below.refl _ _) q7
            have HB7 := Lib.hid (below_trans HB6.out hb7)
            clear hw7 hb7
            go_wp2_with fail
            refine (known_any _).mono ?_
            rintro e w8 ⟨rfl, hb8⟩
            have HE := Lib.hid (below_trans (below_trans (below_trans HW0.out.2.1 HB2.out) HB7.out) hb8)
            clear hb8
            go_wp2
            go_ret
            exact ⟨rfl, HE.out⟩

theorem own : ownKnob Try.prog.godebug = none := by kernel_rfl
theorem laidOut : laidOutB Try.prog = true := by kernel_rfl
set_option maxRecDepth 100000 in
theorem lifted (os : Os) (started : os.Started) (H : Type) (enc : TypeId × Value → H) :
    ReturnsInHanded {} Try.checked os 4 .any (Rows.queueSortsSpec.pre6 enc Try.prog Try.f4 Rows.queueSortsRow.domain false) (Rows.queueSortsSpec.post enc Try.prog Try.f4 false true false false) := by
  refine returnsInHanded_of_change_sized (C := Try.checked) own started (by kernel_rfl) Try.func4
    (ChangeSpec.witness6 (enc := enc) (C := Try.checked) false ⟨#[], #[.slice none 0 0], []⟩ 8 (by kernel_rfl) (by kernel_rfl) (by kernel_rfl) (by kernel_rfl)) ?_
  intro W base args ds gs before hval0 hW hcnd hsz0 _
  have hval : ∀ (j : Nat) t v, Try.f4.params[j]? = some t → args[j]? = some v → Value.okWide Try.prog W .any base t v := hval0
  have hW' := hW
  obtain ⟨p, q, hA0, hV, rfl, hfz, hnd⟩ := hW
  have hA : DataW.TrodAll enc Try.prog W 0 (fun _ => true) true Try.f4.params.toList args.toList ds p := hA0
  rw [Try.params4] at hA hval
  obtain ⟨v0, vs0, d0, ds0, p0, q0, hargs, rfl, rfl, h0, r0⟩ := trodAll_cons hA
  obtain ⟨rfl, rfl, rfl⟩ := trodAll_nil r0
  obtain rfl : args = #[v0] := by cases args; simp_all
  obtain ⟨rfl, rfl⟩ := trodVars_none hV
  have k0 := h0
  have lt0 : ∀ x ∈ p0, x.block < W.heap.size := by obtain ⟨m, hm⟩ := k0; exact DataW.trod_lt m _ _ _ hm
  obtain ⟨a0, len0, cap0, rfl⟩ := okWide_slice Try.underlying26 (hval 0 26 v0 rfl rfl)
  have w0 : IsSl W 3 (EntOk W) a0 len0 cap0 := by
    obtain ⟨fuel, hf⟩ := h0
    exact isSl_of Try.underlying26 (by kernel_rfl) entOk_of hf (fun n hn => of_decide_eq_true (List.all_eq_true.1 hsz0 n (DataW.weights_mem_each (j := 0) (t := 26) (d := d0) rfl rfl n hn)))
  clear hA0 hval0
  refine (walk a0 len0 cap0 W w0).mono fun e W' ⟨he, bel⟩ => ?_
  subst he
  exact ⟨_, rfl, _, _, _, [], _, [], hW', trodAll_mk1 (shut_bool Try.underlying4 _), (trodAll_cons_mk (Below.trod laidOut (by kernel_rfl) (of_decide_eq_true (by kernel_rfl)) k0 bel lt0) trodAll_mk0), rfl, bel.frame _, fun h => by cases h⟩
theorem over : Rows.queueSortsRow.holds Try.pinned (OpenSpec.ofChange Rows.queueSortsSpec) :=
  OpenClaim.holds_of_wide 4 Try.f4 rfl rfl rfl rfl rfl rfl rfl ⟨rfl, rfl, rfl, rfl, rfl⟩ rfl rfl rfl rfl rfl (by kernel_rfl) Try.func4 (by kernel_rfl)
    (of_decide_eq_true (by kernel_rfl)) (by unfold Func.isWrapper; first | (rw [if_pos (by decide +kernel)]; kernel_rfl) | (rw [if_neg (by decide +kernel)]; exact ⟨rfl, rfl⟩))
    (fun os started H enc _ => lifted os started H enc)
/-- The statement. -/
theorem proved : Rows.QueueSortsSaid := over
#print axioms proved
end Go.Proofs.Ytdmmglnpeoeicaa.queueSorts
