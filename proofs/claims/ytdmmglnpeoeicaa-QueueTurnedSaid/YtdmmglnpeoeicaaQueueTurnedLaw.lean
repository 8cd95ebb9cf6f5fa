/- QueueTurned: (P4.4) it does not matter in which order entries are put in. Conditions: none. -/
import Derived.Test.YtdmmglnpeoeicaaSrt9
import Derived.Test.YtdmmglnpeoeicaaRSort
import Derived.Test.YtdmmglnpeoeicaaQKnown
import Derived.Test.YtdmmglnpeoeicaaFrame
import Derived.Lib.SmallJoins
namespace Go.Proofs.Ytdmmglnpeoeicaa.queueTurned
set_option linter.unusedVariables false
set_option linter.unusedSimpArgs false
open Go.ChangeShapes Go.WideShapes Go.ChangeAt Go.RowKit
open Go.ChangeMaps (open_string shut_string)
theorem back_more {S : List En} {k : Nat} (hk : k < S.length) : (S.drop k).reverse = (S.drop (k + 1)).reverse ++ [at_ S k] := by
  rw [at_get hk, List.drop_eq_getElem_cons hk, List.reverse_cons]
theorem turned_perm (S : List En) (t : Nat) : ((S.drop t).reverse ++ S.take t).Perm S :=
  ((List.reverse_perm _).append_right _).trans (List.perm_append_comm.trans (by rw [List.take_append_drop]))
/-- A row of entries under way. -/
def MSt (w : World) (v : Value) (L : List En) (wr : World) : Prop := WasSt w v L wr
set_option maxRecDepth 100000 in
set_option maxHeartbeats 16000000 in
theorem walk (a : Option Addr) (len cap0 : Nat) (t1 : Int) (w : World) (h : IsSl w 3 (EntOk w) a len cap0) (ht : -9223372036854775808 ≤ t1 ∧ t1 ≤ 9223372036854775807) : Calls Try.prog 5 #[.slice a len cap0, .int .i64 t1] w fun e w' => e = .returned (.bool true) ∧ Below w.heap.size w w' := by
  obtain ⟨S, hS⟩ := rd_of h
  clear h
  have hlc := hS.2.1
  have hlc2 := hS.2.2.1
  unfold maxLen at hlc2
  by_cases hbig : 300 < len
  · have hbi : (300 : Int) < (len : Int) := by omega
    clear hS
    go_enter Try.func5, Try.ntmps5
    go_wp2_with fail
    refine (known_any _).mono ?_
    rintro e w9 ⟨rfl, hb9⟩
    go_wp2
    go_ret
    exact ⟨rfl, hb9⟩
  · have hbi : (len : Int) ≤ 300 := by omega
    by_cases hneg : t1 < 0
    · clear hS
      go_enter Try.func5, Try.ntmps5
      go_wp2_with fail
      refine (known_any _).mono ?_
      rintro e w9 ⟨rfl, hb9⟩
      go_wp2
      go_ret
      exact ⟨rfl, hb9⟩
    · by_cases hover : (len : Int) < t1
      · clear hS
        go_enter Try.func5, Try.ntmps5
        go_wp2_with fail
        refine (known_any _).mono ?_
        rintro e w9 ⟨rfl, hb9⟩
        go_wp2
        go_ret
        exact ⟨rfl, hb9⟩
      · obtain ⟨t, rfl⟩ : ∃ t : Nat, t1 = (t : Int) := ⟨t1.toNat, by omega⟩
        have htl : t ≤ len := by omega
        have htli : (t : Int) ≤ (len : Int) := by omega
        have ht0 : (0 : Int) ≤ (t : Int) := by omega
        have d1 : decide ((300 : Int) < (len : Int)) = false := decide_eq_false (by omega)
        have d2 : decide ((t : Int) < 0) = false := decide_eq_false (by omega)
        have d3 : decide (len < t) = false := decide_eq_false (by omega)
        clear ht hneg hover
        have HR := Lib.hid hS; clear hS
        have HST := Lib.hid (show MSt w (.slice none 0 0) (S.drop len).reverse w from ⟨by rw [List.drop_of_length_le (by rw [HR.out.1]; exact Nat.le_refl _)]; exact QOwn.nil_ _, Below.refl _ _, fun i hi => by simp [Value.ownBlock] at hi⟩)
        go_enter Try.func5, Try.ntmps5
        go_wp2
        go_loopw [5, 6] (fun vo vi wr => ∃ (k : Nat) (v0 : Value), vi = .int .i64 ((k : Int) - 1) ∧ vo = v0 ∧ t ≤ k ∧ k ≤ len ∧ Hid (MSt w v0 (S.drop k).reverse wr)) (fun _ vi _ => (intOf vi + 1).toNat)
        case atStart => exact ⟨len, _, rfl, rfl, htl, Nat.le_refl _, HST⟩
        case round =>
          clear HST
          obtain ⟨k, v0, rfl, rfl, htk, hk, hrel⟩ := hrel
          obtain ⟨A0, c0, rfl, hc1, hc2⟩ := hrel.out.1.slice
          by_cases hlt : t < k
          · obtain ⟨p, rfl⟩ : ∃ p : Nat, k = p + 1 := ⟨k - 1, by omega⟩
            have e3 : ((p + 1 : Nat) : Int) - 1 = (p : Int) := by omega
            rw [e3]; clear e3
            have hpl : p < len := by omega
            have hpi : (p : Int) < (len : Int) := by omega
            have htp : (t : Int) ≤ (p : Int) := by omega
            have hlk : (S.drop (p + 1)).reverse.length ≤ 300 := by rw [List.length_reverse, List.length_drop, HR.out.1]; omega
            obtain ⟨g, off, rfl, b0, b1, b2⟩ := HR.out.cell hpl
            have a0 := cell_later hrel.out.2.1 b0
            have a1 := cell_later hrel.out.2.1 b1
            have a2 := cell_later hrel.out.2.1 b2
            have hT1 := back_more (S := S) (k := p) (by rw [HR.out.1]; exact hpl)
            have HT1 := Lib.hid hT1; clear hT1
            have HQ := Lib.hid (show WasSt w _ _ _ from hrel.out)
            clear hrel b0 b1 b2
            generalize at_ S p = y at *
            generalize (S.drop (p + 1)).reverse = L0 at *
            have hl0 : L0.length ≤ 4398046511102 := by omega
            go_wp2_with (at_builtin; refine wpList_push rfl (.tmp 30) (.tmp 35) _ rfl Try.underlying26 (.slice A0 L0.length c0) L0 y _ 1 rfl rfl (by first | exact HQ.out.1.alloc _ | exact (HQ.out.1.drew).alloc _) (by first | exact new_cell _ _ _ 0 rfl | exact new_cell_d _ _ _ 0 rfl) (by first | exact new_cell _ _ _ 1 rfl | exact new_cell_d _ _ _ 1 rfl) (by first | exact new_cell _ _ _ 2 rfl | exact new_cell_d _ _ _ 2 rfl) (by first | omega | (simp; omega)) ?_; rintro pv pw pa; have ph := WasSt.append HQ.out ((Below.refl _ _).alloc (Nat.le_refl _) _) pa; have Hp := Lib.hid ph; clear ph pa)
            go_roundw
            case rel => exact ⟨p, _, rfl, rfl, by omega, by omega, Lib.hid (by rw [HT1.out]; exact Hp.out)⟩
            case measure => simp [intOf] <;> omega
          · obtain rfl : k = t := by omega
            have HST2 := Lib.hid (show MSt w (.slice A0 (S.drop k).reverse.length c0) ((S.drop k).reverse ++ S.take 0) wr from by simpa using hrel.out)
            have hkk : ¬ (k : Int) ≤ (k : Int) - 1 := by omega
            clear hlt hrel
            generalize hn0 : (S.drop k).reverse.length = n0 at *
            clear hn0 hc1 hc2
            go_wp2
            go_loopw [5, 7] (fun vo vi wr => ∃ (j : Nat) (v0 : Value), vi = .int .i64 (j : Int) ∧ vo = v0 ∧ j ≤ k ∧ Hid (MSt w v0 ((S.drop k).reverse ++ S.take j) wr)) (fun _ vi _ => k - (intOf vi).toNat)
            case atStart => exact ⟨0, _, rfl, rfl, Nat.zero_le _, HST2⟩
            case round =>
              clear HST2
              obtain ⟨j, v0, rfl, rfl, hjk, hrel⟩ := hrel
              obtain ⟨A0, c0, rfl, hc1, hc2⟩ := hrel.out.1.slice
              by_cases hlt : j < k
              · have hji : (j : Int) < (k : Int) := by omega
                have hjl : j < len := by omega
                have hjli : (j : Int) < (len : Int) := by omega
                have hlk : ((S.drop k).reverse ++ S.take j).length ≤ 600 := by rw [List.length_append, List.length_reverse, List.length_drop, List.length_take, HR.out.1]; omega
                obtain ⟨g, off, rfl, b0, b1, b2⟩ := HR.out.cell hjl
                have a0 := cell_later hrel.out.2.1 b0
                have a1 := cell_later hrel.out.2.1 b1
                have a2 := cell_later hrel.out.2.1 b2
                have hT1 : (S.drop k).reverse ++ S.take (j + 1) = ((S.drop k).reverse ++ S.take j) ++ [at_ S j] := by rw [take_more (by rw [HR.out.1]; exact hjl), List.append_assoc]
                have HT1 := Lib.hid hT1; clear hT1
                have HQ := Lib.hid (show WasSt w _ _ _ from hrel.out)
                clear hrel b0 b1 b2
                generalize at_ S j = y at *
                generalize (S.drop k).reverse ++ S.take j = L0 at *
                have hl0 : L0.length ≤ 4398046511102 := by omega
                go_wp2_with (at_builtin; refine wpList_push rfl (.tmp 42) (.tmp 47) _ rfl Try.underlying26 (.slice A0 L0.length c0) L0 y _ 1 rfl rfl (by first | exact HQ.out.1.alloc _ | exact (HQ.out.1.drew).alloc _) (by first | exact new_cell _ _ _ 0 rfl | exact new_cell_d _ _ _ 0 rfl) (by first | exact new_cell _ _ _ 1 rfl | exact new_cell_d _ _ _ 1 rfl) (by first | exact new_cell _ _ _ 2 rfl | exact new_cell_d _ _ _ 2 rfl) (by first | omega | (simp; omega)) ?_; rintro pv pw pa; have ph := WasSt.append HQ.out ((Below.refl _ _).alloc (Nat.le_refl _) _) pa; have Hp := Lib.hid ph; clear ph pa)
                go_roundw
                case rel => exact ⟨j + 1, _, by go_num, rfl, by omega, Lib.hid (by rw [HT1.out]; exact Hp.out)⟩
                case measure => simp [intOf]; omega
              · obtain rfl : j = k := by omega
                have HM := Lib.hid (show WasSt w _ _ _ from hrel.out)
                have HPM := Lib.hid (turned_perm S j)
                have hml : ((S.drop j).reverse ++ S.take j).length = len := by rw [HPM.out.length_eq, HR.out.1]
                generalize (S.drop j).reverse ++ S.take j = M at *
                rw [hml] at HM ⊢
                clear hrel hc1 hc2 hlt
                have HML := Lib.hid hml; clear hml
                have HC := Lib.hid (qsort_any a len cap0 S wr (HR.out.below HM.out.2.1) (by omega))
                go_wp2_with fail
                refine HC.out.mono ?_
                rintro e w2 ⟨B, c2, T, rfl, hT, hp, hs, hb⟩
                have HB2 := Lib.hid hb; have HT := Lib.hid hT; have HP := Lib.hid hp; have HS := Lib.hid hs
                clear hb hT hp hs HC
                have HC := Lib.hid (qsort_any A0 len c0 M w2 (HM.out.below HB2.out).1.hv.rd (by omega))
                go_wp2_with fail
                refine HC.out.mono ?_
                rintro e w3 ⟨B3, c3, T3, rfl, hT3, hp3, hs3, hb3⟩
                have hTT : T3 = T := srt_eq ((hp3.trans HPM.out).trans HP.out.symm) hs3 HS.out
                subst hTT
                have HB3 := Lib.hid hb3; have H3 := Lib.hid hT3.rd
                clear hT3 hp3 hs3 hb3 HC
                go_wp2_with fail
                refine (rsame_rd B B3 len len c2 c3 T3 T3 w3 (HT.out.rd.below HB3.out) H3.out).mono ?_
                rintro e w6 ⟨rfl, q6, hw6⟩
                rw [show decide (T3 = T3) = true by simp]
                have hb6 : Below w3.heap.size w3 w6 := by rw [hw6]; exact below_drawn (Below.refl _ _) q6
                have HB6 := Lib.hid (below_trans HB3.out hb6)
                clear hw6 hb6 H3
                go_wp2_with fail
                refine (known_any _).mono ?_
                rintro e w8 ⟨rfl, hb8⟩
                have HE := Lib.hid (below_trans (below_trans (below_trans HM.out.2.1 HB2.out) HB6.out) hb8)
                clear hb8
                go_wp2
                go_ret
                exact ⟨rfl, HE.out⟩

theorem own : ownKnob Try.prog.godebug = none := by kernel_rfl
theorem laidOut : laidOutB Try.prog = true := by kernel_rfl
set_option maxRecDepth 100000 in
theorem lifted (os : Os) (started : os.Started) (H : Type) (enc : TypeId × Value → H) :
    ReturnsInHanded {} Try.checked os 5 .any (Rows.queueTurnedSpec.pre6 enc Try.prog Try.f5 Rows.queueTurnedRow.domain false) (Rows.queueTurnedSpec.post enc Try.prog Try.f5 false true false false) := by
  refine returnsInHanded_of_change_sized (C := Try.checked) own started (by kernel_rfl) Try.func5
    (ChangeSpec.witness6 (enc := enc) (C := Try.checked) false ⟨#[], #[.slice none 0 0, .int .i64 0], []⟩ 8 (by kernel_rfl) (by kernel_rfl) (by kernel_rfl) (by kernel_rfl)) ?_
  intro W base args ds gs before hval0 hW hcnd hsz0 _
  have hval : ∀ (j : Nat) t v, Try.f5.params[j]? = some t → args[j]? = some v → Value.okWide Try.prog W .any base t v := hval0
  have hW' := hW
  obtain ⟨p, q, hA0, hV, rfl, hfz, hnd⟩ := hW
  have hA : DataW.TrodAll enc Try.prog W 0 (fun _ => true) true Try.f5.params.toList args.toList ds p := hA0
  rw [Try.params5] at hA hval
  obtain ⟨v0, vs0, d0, ds0, p0, q0, hargs, rfl, rfl, h0, r0⟩ := trodAll_cons hA
  obtain ⟨v1, vs1, d1, ds1, p1, q1, rfl, rfl, rfl, h1, r1⟩ := trodAll_cons r0
  obtain ⟨rfl, rfl, rfl⟩ := trodAll_nil r1
  obtain rfl : args = #[v0, v1] := by cases args; simp_all
  obtain ⟨rfl, rfl⟩ := trodVars_none hV
  have k0 := h0
  have lt0 : ∀ x ∈ p0, x.block < W.heap.size := by obtain ⟨m, hm⟩ := k0; exact DataW.trod_lt m _ _ _ hm
  obtain ⟨a0, len0, cap0, rfl⟩ := okWide_slice Try.underlying26 (hval 0 26 v0 rfl rfl)
  have w0 : IsSl W 3 (EntOk W) a0 len0 cap0 := by
    obtain ⟨fuel, hf⟩ := h0
    exact isSl_of Try.underlying26 (by kernel_rfl) entOk_of hf (fun n hn => of_decide_eq_true (List.all_eq_true.1 hsz0 n (DataW.weights_mem_each (j := 0) (t := 26) (d := d0) rfl rfl n hn)))
  have k1 := h1
  have lt1 : ∀ x ∈ p1, x.block < W.heap.size := by obtain ⟨m, hm⟩ := k1; exact DataW.trod_lt m _ _ _ hm
  obtain ⟨a1, rfl, rfl, rfl, w1⟩ := open_int Try.underlying3 (hval 1 3 v1 rfl rfl) h1
  clear hA0 hval0
  refine (walk a0 len0 cap0 a1 W w0 (bounds_i64 w1)).mono fun e W' ⟨he, bel⟩ => ?_
  subst he
  exact ⟨_, rfl, _, _, _, [], _, [], hW', trodAll_mk1 (shut_bool Try.underlying4 _), (trodAll_cons_mk (Below.trod laidOut (by kernel_rfl) (of_decide_eq_true (by kernel_rfl)) k0 bel lt0) (trodAll_cons_mk (Below.trod laidOut (by kernel_rfl) (of_decide_eq_true (by kernel_rfl)) k1 bel lt1) trodAll_mk0)), rfl, bel.frame _, fun h => by cases h⟩
theorem over : Rows.queueTurnedRow.holds Try.pinned (OpenSpec.ofChange Rows.queueTurnedSpec) :=
  OpenClaim.holds_of_wide 5 Try.f5 rfl rfl rfl rfl rfl rfl rfl ⟨rfl, rfl, rfl, rfl, rfl⟩ rfl rfl rfl rfl rfl (by kernel_rfl) Try.func5 (by kernel_rfl)
    (of_decide_eq_true (by kernel_rfl)) (by unfold Func.isWrapper; first | (rw [if_pos (by decide +kernel)]; kernel_rfl) | (rw [if_neg (by decide +kernel)]; exact ⟨rfl, rfl⟩))
    (fun os started H enc _ => lifted os started H enc)
/-- The statement. -/
theorem proved : Rows.QueueTurnedSaid := over
#print axioms proved
end Go.Proofs.Ytdmmglnpeoeicaa.queueTurned
