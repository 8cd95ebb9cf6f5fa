/- FrameBack: (P5.1, P5.5) bodies that are put into frames come out as they were. Conditions: none. -/
import Derived.Test.YtmkehbmegimecaaFrameKnown
import Derived.Test.YtmkehbmegimecaaFrame
import Derived.Lib.SmallJoins
import Derived.Test.YtmkehbmegimecaaFrameRef
import Derived.Deep.Matrix
namespace Go.Proofs.Ytmkehbmegimecaa.frameBack
set_option linter.unusedVariables false
set_option linter.unusedSimpArgs false
open Go.ChangeShapes Go.WideShapes Go.ChangeAt Go.RowKit
open Go.ChangeMaps (open_string shut_string)
theorem row_le {w : World} {k : IntKind} {a : Option Addr} {len cap : Nat} {zs : List Int} (h : IsRow k w a len cap zs) : len ≤ cap := by
  rcases h with ⟨_, rfl, rfl, _⟩ | ⟨_, _, h, _⟩
  · exact Nat.le_refl _
  · exact h
theorem far_new {w w' : World} {B : Option Addr} {m : Nat} {l : List UInt8} {p : Nat} (h : RB w B m l) (hp : w.heap.size ≤ p) : 0 < m → B.map (·.block) ≠ some p := fun h0 => by
  obtain ⟨ad, rfl, hlt, _⟩ := h.2 h0
  simp; omega
set_option maxRecDepth 100000 in
set_option maxHeartbeats 4000000 in
theorem walk (a : Option Addr) (len cap : Nat) (w : World) (h : IsRows w a len cap) : Calls Try.prog 5 #[.slice a len cap] w fun e w' => e = .returned (.bool true) ∧ Below w.heap.size w w' := by
  by_cases hbg : 50 < len
  · have hbi : (50 : Int) < (len : Int) := by omega
    go_enter Try.func5, Try.ntmps5
    go_wp2_with fail
    refine (known_any _).mono ?_
    rintro e w9 ⟨rfl, hb9⟩
    go_wp2
    go_ret
    exact ⟨rfl, hb9⟩
  · have hbi : (len : Int) ≤ 50 := by omega
    have HROWS := Lib.hid h; clear h
    go_enter Try.func5, Try.ntmps5
    go_wp2_with fail
    refine (new_yes 4096 (by omega) (by omega) w).mono ?_
    rintro e w1 ⟨rfl, hw1⟩
    have hp1 : Blk w1 w.heap.size 58 #[.int .i64 4096, .slice none 0 0, .int .i64 0] := by rw [← hw1]; exact Blk.new _ _ _
    have hB1 : Below w.heap.size w w1 := by rw [← hw1]; go_grown
    clear hw1
    go_wp2
    go_loopw [5] (fun i wr => ∃ (k : Nat) (An : Option Addr) (cn : Nat), k ≤ len ∧ i = .int .i64 k ∧ Below w.heap.size w wr ∧ Blk wr w.heap.size 58 #[.int .i64 4096, .slice An 0 cn, .int .i64 0] ∧ Wt wr An 0 cn [] ∧ ∀ g, An.map (·.block) = some g → w.heap.size ≤ g) (fun i _ => len - (intOf i).toNat)
    case atStart => exact ⟨0, none, 0, Nat.zero_le _, rfl, hB1, hp1, Wt.nil_ _, fun g hg => by simp at hg⟩
    case round =>
      clear hp1 hB1
      obtain ⟨k, An, cn, hk, rfl, hB, hp, ht, hAn⟩ := hrel
      have HAn := Lib.hid hAn; clear hAn
      by_cases hlt : k < len
      · obtain ⟨x, A, m, c, l, rfl, hcell, hrow, hmc, hm⟩ := HROWS.out.at k hlt
        have hki : (k : Int) < (len : Int) := by omega
        have hmx : (m : Int) ≤ 9223372036854775807 := by simp only [maxLen] at hm; omega
        have kc0 := cell_later hB hcell
        have hrk := hrow.later hB
        have HRK := Lib.hid hrk; clear hrk
        by_cases hbig : 600 < m
        · have hbi : (600 : Int) < (m : Int) := by omega
          go_wp2_with fail
          refine (frame_no m c A wr hbig hm).mono ?_
          rintro e w1 ⟨rfl, rfl⟩
          go_wp2_with fail
          refine (known_any _).mono ?_
          rintro e w9 ⟨rfl, hb9⟩
          go_wp2
          go_ret
          exact ⟨rfl, below_trans hB hb9⟩
        · have hsm : (m : Int) ≤ 600 := by omega
          have hm6 : m ≤ 600 := by omega
          have HNE := Lib.hid (far_new (w' := w) hrow (p := w.heap.size) (Nat.le_refl _))
          go_wp2_with fail
          refine (frame_yes m c A l wr HRK.out hm6).mono ?_
          rintro e w1 ⟨F, cf, rfl, hF, hb1, hFg⟩
          have hB1 : Below w.heap.size w w1 := below_trans hB hb1
          have hp1 := hp.below hb1 hp.lt
          have ht1 := ht.below hb1
          have kc1 := cell_later hB1 hcell
          have HF := Lib.hid hF.rb
          have HCF := Lib.hid hF.2.1
          have hFp : 2 + m > 0 → F.map (·.block) ≠ some w.heap.size := fun _ e9 => by
            have := hFg _ e9
            have := hp.lt
            omega
          have HFP := Lib.hid hFp
          clear hF hFp hFg hp ht hB kc0
          go_wp2_with fail
          refine (rframe_any A m c l w1 (hrow.later hB1) hm6).mono ?_
          rintro e w2 ⟨v, rfl, G, cg, rfl, hG, hb2, _⟩
          have hB2 : Below w.heap.size w w2 := below_trans hB1 hb2
          have hp2 := hp1.below hb2 hp1.lt
          have ht2 := ht1.below hb2
          have HF2 := Lib.hid (HF.out.later hb2)
          have HG := Lib.hid hG.rb
          clear hp1 ht1 hB1 kc1 hG hb1 hb2 HF
          go_wp2_with fail
          refine (same_any F G (2 + m) (2 + m) _ _ (be 2 m ++ l) (be 2 m ++ l) w2 HF2.out HG.out (by simp only [maxLen]; omega) (by simp only [maxLen]; omega)).mono ?_
          rintro e w3 ⟨rfl, q3, hw3⟩
          have hB3 : Below w.heap.size w w3 := by rw [hw3]; exact below_drawn hB2 q3
          have hp3 : Blk w3 w.heap.size 58 #[.int .i64 4096, .slice An 0 cn, .int .i64 0] := by rw [hw3]; exact hp2.drewN q3
          have ht3 : Wt w3 An 0 cn [] := by rw [hw3]; exact ht2.drewN q3
          have HF3 := Lib.hid (show RB w3 F (2 + m) (be 2 m ++ l) by rw [hw3]; exact Reads.drewN HF2.out q3)
          have hcf : 2 + m ≤ cf := HCF.out
          clear hw3 hp2 ht2 hB2 HF2 HG
          rw [show decide (be 2 m ++ l = be 2 m ++ l) = true by simp]
          go_wp2_with fail
          refine (feed_yes w.heap.size 0 cn (2 + m) cf 0 0 An F 4096 [] (be 2 m ++ l) w3 hp3 ht3 HF3.out hcf (by omega) (by omega) (by omega) (by omega) (by omega) (fun h0 => HFP.out h0) (by omega)).mono ?_
          rintro e w4 ⟨A4, c4, rfl, hp4, ht4, hf4, hl4⟩
          have hB4 : Below w.heap.size w w4 := fed_below hB3 hf4 (Nat.le_refl _) HAn.out
          have hA4 : ∀ g, A4.map (·.block) = some g → w.heap.size ≤ g := fun g hg => by
            have h9 := hB3.size
            rcases hl4 with h | h <;> rw [hg] at h
            · exact HAn.out g h.symm
            · simp at h; omega
          rw [show 0 + (2 + m - 0) = 2 + m by omega] at hp4 ht4
          rw [show ((0 - 0 : Nat) : Int) = 0 from rfl] at hp4
          rw [show ([] : List UInt8) ++ (be 2 m ++ l).drop 0 = be 2 m ++ l by simp] at ht4
          have kc4 := cell_later hB4 hcell
          clear hf4 hl4 hp3 ht3 hB3 HF3 HFP hcf
          have hhd := hdr_be m l (by omega)
          have hll := hrow.len
          have HA4 := Lib.hid hA4; have HT4 := Lib.hid ht4; clear hA4 ht4
          go_wp2_with fail
          refine (next_whole w.heap.size (2 + m) c4 A4 4096 0 (be 2 m ++ l) w4 hp4 HT4.out (by omega) (by omega) (by omega) (by omega)).mono ?_
          rintro e w5 ⟨A5, c5, X, cx, rfl, hp5, ht5, hx5, hf5, hl5, hxg⟩
          have hB5 : Below w.heap.size w w5 := fed_below hB4 hf5 (Nat.le_refl _) (fun g hg => by simp at hg)
          have hbl : (be 2 m).length = 2 := be_length 2 m
          have hn5 : (be 2 m ++ l).length - 2 - hdr (be 2 m ++ l) = 0 := by rw [hhd, List.length_append, hbl, hll]; omega
          rw [hn5] at hp5 ht5
          rw [hhd] at hx5 ⊢
          have hx6 : ((be 2 m ++ l).drop 2).take m = l := by
            rw [List.drop_append_of_le_length (by omega), List.drop_of_length_le (by omega), List.nil_append, List.take_of_length_le (by omega)]
          rw [hx6] at hx5
          have ht6 : (be 2 m ++ l).drop (2 + hdr (be 2 m ++ l)) = [] := List.drop_of_length_le (by rw [hhd, List.length_append, hbl, hll]; omega)
          rw [ht6] at ht5
          have HX5 := Lib.hid hx5.rb
          have HA5 := Lib.hid (show ∀ g, A5.map (·.block) = some g → w.heap.size ≤ g from fun g hg => HA4.out g (by rw [← hl5]; exact hg))
          have kc5 := cell_later hB5 hcell
          clear hf5 hl5 hxg hp4 hB4 HT4 HA4 hx5 kc4 hhd hll hbl hn5 hx6 ht6
          go_wp2_with fail
          refine (same_any X A m m _ _ l l w5 HX5.out (hrow.later hB5) (by simp only [maxLen]; omega) (by simp only [maxLen]; omega)).mono ?_
          rintro e w6 ⟨rfl, q6, hw6⟩
          have hB6 : Below w.heap.size w w6 := by rw [hw6]; exact below_drawn hB5 q6
          have hp6 : Blk w6 w.heap.size 58 #[.int .i64 4096, .slice A5 0 c5, .int .i64 0] := by rw [hw6]; exact hp5.drewN q6
          have ht6 : Wt w6 A5 0 c5 [] := by rw [hw6]; exact ht5.drewN q6
          clear hw6 hp5 ht5 hB5 HX5 kc5
          rw [show decide (l = l) = true by simp]
          go_wp2_with fail
          refine (waiting_any w.heap.size 0 c5 A5 4096 0 w6 hp6).mono ?_
          rintro e w7 ⟨rfl, hw7⟩
          subst hw7
          go_wp2
          go_roundw
          case rel => exact ⟨k + 1, A5, c5, by omega, by go_num, hB6, hp6, ht6, HA5.out⟩
          case measure => simp [intOf]; omega
      · obtain rfl : k = len := by omega
        go_wp2_with fail
        refine (known_any _).mono ?_
        rintro e w9 ⟨rfl, hb9⟩
        go_wp2
        go_ret
        exact ⟨rfl, below_trans hB hb9⟩

theorem own : ownKnob Try.prog.godebug = none := by kernel_rfl
theorem laidOut : laidOutB Try.prog = true := by kernel_rfl
set_option maxRecDepth 100000 in
theorem lifted (os : Os) (started : os.Started) (H : Type) (enc : TypeId × Value → H) :
    ReturnsInHanded {} Try.checked os 5 .any (Rows.frameBackSpec.pre6 enc Try.prog Try.f5 Rows.frameBackRow.domain false) (Rows.frameBackSpec.post enc Try.prog Try.f5 false true false false) := by
  refine returnsInHanded_of_change (C := Try.checked) own started (by kernel_rfl) Try.func5
    (ChangeSpec.witness6 (enc := enc) (C := Try.checked) false ⟨#[], #[.slice none 0 0], []⟩ 8 (by kernel_rfl) (by kernel_rfl) (by kernel_rfl) (by kernel_rfl)) ?_
  intro W base args ds gs before hval0 hW hcnd _
  have hval : ∀ (j : Nat) t v, Try.f5.params[j]? = some t → args[j]? = some v → Value.okWide Try.prog W .any base t v := hval0
  have hW' := hW
  obtain ⟨p, q, hA0, hV, rfl, hfz, hnd⟩ := hW
  have hA : DataW.TrodAll enc Try.prog W 0 (fun _ => true) true Try.f5.params.toList args.toList ds p := hA0
  rw [Try.params5] at hA hval
  obtain ⟨v0, vs0, d0, ds0, p0, q0, hargs, rfl, rfl, h0, r0⟩ := trodAll_cons hA
  obtain ⟨rfl, rfl, rfl⟩ := trodAll_nil r0
  obtain rfl : args = #[v0] := by cases args; simp_all
  obtain ⟨rfl, rfl⟩ := trodVars_none hV
  have k0 := h0
  have lt0 : ∀ x ∈ p0, x.block < W.heap.size := by obtain ⟨m, hm⟩ := k0; exact DataW.trod_lt m _ _ _ hm
  obtain ⟨a0, len0, cap0, rfl⟩ := okWide_slice Try.underlying51 (hval 0 51 v0 rfl rfl)
  have w0 : IsRows W a0 len0 cap0 := by
    obtain ⟨fuel, hf⟩ := h0
    rcases Deep.open_int_rows Try.underlying51 Try.underlying28 Try.underlying5 (by kernel_rfl) (by kernel_rfl) hf with ⟨hcs, _⟩ | ⟨x, l, c, A, L, C, Z, hcs, _, hl, hm, _, hcell⟩
    · simp [Value.cells] at hcs
      obtain ⟨rfl, rfl, rfl⟩ := hcs
      exact .inl ⟨rfl, rfl, rfl⟩
    · simp [Value.cells] at hcs
      obtain ⟨rfl, rfl, rfl⟩ := hcs
      refine .inr ⟨_, rfl, hl, hm, fun r hr => ?_⟩
      obtain ⟨h1, h2, h3, h4, h5, h6, h7⟩ := hcell r hr
      refine ⟨A r, L r, C r, Z r, h1, ?_⟩
      cases hA : A r with
      | none =>
        have h8 := h6 hA
        left
        refine ⟨rfl, by omega, h8, List.eq_nil_of_length_eq_zero (by omega)⟩
      | some y => exact .inr ⟨y, rfl, h2, h3, h4, fun i hi => (h7 y hA).2 i (by omega), h5⟩
  clear hA0 hval0
  refine (walk a0 len0 cap0 W w0).mono fun e W' ⟨he, bel⟩ => ?_
  subst he
  exact ⟨_, rfl, _, _, _, [], _, [], hW', trodAll_mk1 (shut_bool Try.underlying4 _), (trodAll_cons_mk (Below.trod laidOut (by kernel_rfl) (of_decide_eq_true (by kernel_rfl)) k0 bel lt0) trodAll_mk0), rfl, bel.frame _, fun h => by cases h⟩
theorem over : Rows.frameBackRow.holds Try.pinned (OpenSpec.ofChange Rows.frameBackSpec) :=
  OpenClaim.holds_of_wide 5 Try.f5 rfl rfl rfl rfl rfl rfl rfl ⟨rfl, rfl, rfl, rfl, rfl⟩ rfl rfl rfl rfl rfl (by kernel_rfl) Try.func5 (by kernel_rfl)
    (of_decide_eq_true (by kernel_rfl)) (by unfold Func.isWrapper; first | (rw [if_pos (by decide +kernel)]; kernel_rfl) | (rw [if_neg (by decide +kernel)]; exact ⟨rfl, rfl⟩))
    (fun os started H enc _ => lifted os started H enc)
/-- The statement. -/
theorem proved : Rows.FrameBackSaid := over
#print axioms proved
end Go.Proofs.Ytmkehbmegimecaa.frameBack
