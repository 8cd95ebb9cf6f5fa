/- GrantZooms: (P14.1) the zoom of any point is that of the rules. Conditions: none. -/
import Derived.Test.YtmgamlpjgghieaaGreatDoorZbGrantZoomsWalk
import Derived.Test.YtmgamlpjgghieaaGreatDoorZbHzK
import Derived.Test.YtmgamlpjgghieaaGreatDoorTie
import Derived.Test.YtmgamlpjgghieaaGreatDoorCards
import Derived.ChangeSame
import Derived.ChangeVars
import Derived.JoinedOf
import Derived.RowKit
import Derived.LaidLaws
import Derived.Lay
import Derived.Stop.Joined
import Derived.ProofKit
import Derived.SevenTiedAt
import Derived.Lib.SmallJoins
import Derived.SizedLaws
namespace Go.Proofs.YtmgamlpjgghieaaGreatDoor.grantZooms
set_option linter.unusedVariables false
set_option linter.unusedSimpArgs false
open Go Go.ChangeShapes Go.WideShapes Go.ChangeAt Go.RowKit
open Go.ChangeMaps (open_string shut_string)
theorem own : ownKnob Tryz.prog.godebug = none := by kernel_rfl
theorem laidOut : laidOutB Tryz.prog = true := by kernel_rfl
theorem laid_world (os : Os) (args : Array Value) : laidMetH Tryz.prog Rows.grantZoomsRow.laid ((World.laidAll Tryz.prog os laidL).forCall (fun _ _ => 0) ⟨#[], args, []⟩).memory := by
  have h : laidMet Tryz.prog laidL ((World.laidAll Tryz.prog os laidL).forCall (fun _ _ => 0) ⟨#[], args, []⟩).memory := laidMet_laidAll args (by kernel_rfl) (by kernel_rfl)
  exact h
set_option maxRecDepth 100000 in
theorem lifted (os : Os) (started : os.Started) (H : Type) (enc : TypeId × Value → H) :
    ReturnsInHanded {} Tryz.checked os 4 .any (fun w args => (Rows.grantZoomsSpec.pre enc Tryz.prog Tryz.f4 [] false w args ∧ laidMetH Tryz.prog Rows.grantZoomsRow.laid w) ∧ sizedMet enc Tryz.prog Tryz.f4 (OpenSpec.ofChange Rows.grantZoomsSpec) false w args) (Rows.grantZoomsSpec.post enc Tryz.prog Tryz.f4 false true false false) := by
  refine returnsInHanded_of_change_and (C := Tryz.checked) (X := fun w _ => laidMetH Tryz.prog Rows.grantZoomsRow.laid w) (fun _ _ _ hh h => h.of_heap hh) own started (by kernel_rfl) Tryz.func4
    (ChangeSpec.witness_at (enc := enc) (C := Tryz.checked) (os := os) (X := fun w _ => laidMetH Tryz.prog Rows.grantZoomsRow.laid w) false (World.laidAll Tryz.prog os laidL) #[.slice none 0 0, .agg #[.int .i64 0, .int .i64 0, .int .i64 0], .agg #[.int .i64 0, .int .i64 0]] 8 (World.laidAll_os _ _ _) (by kernel_rfl) (by kernel_rfl) (by kernel_rfl) (by kernel_rfl) (by kernel_rfl) (laid_world os _)) ?_
  intro W base args ds gs before hval0 hW _ hsz0 hL _
  have hT : TzOk W := tz_of_laid hL
  have hval : ∀ (j : Nat) t v, Tryz.f4.params[j]? = some t → args[j]? = some v → Value.okWide Tryz.prog W .any base t v := hval0
  have hW' := hW
  obtain ⟨p, q, hA0, hVV, rfl, hfz, hnd⟩ := hW
  have hA : DataW.TrodAll enc Tryz.prog W 0 (fun _ => true) true Tryz.f4.params.toList args.toList ds p := hA0
  rw [Tryz.params4] at hA hval
  obtain ⟨v0, vs0, d0, ds0, p0, q0, hargs, rfl, rfl, h0, r0⟩ := trodAll_cons hA
  obtain ⟨v1, vs1, d1, ds1, p1, q1, rfl, rfl, rfl, h1, r1⟩ := trodAll_cons r0
  obtain ⟨v2, vs2, d2, ds2, p2, q2, rfl, rfl, rfl, h2, r2⟩ := trodAll_cons r1
  obtain ⟨rfl, rfl, rfl⟩ := trodAll_nil r2
  obtain rfl : args = #[v0, v1, v2] := by cases args; simp_all
  obtain ⟨rfl, rfl⟩ := trodVars_none hVV
  have k0 := h0
  have lt0 : ∀ x ∈ p0, x.block < W.heap.size := by obtain ⟨m, hm⟩ := k0; exact DataW.trod_lt m _ _ _ hm
  obtain ⟨a0, len0, cap0, rfl⟩ := okWide_slice Tryz.underlying22 (hval 0 22 v0 rfl rfl)
  have w0 : IsSl W 7 (okRuG W) a0 len0 cap0 := by
    obtain ⟨fuel, hf⟩ := h0
    exact isSl_of Tryz.underlying22 (by kernel_rfl) (fun fuel cs y h hs => okRuG_of fuel cs y h hs) hf (fun n hn => of_decide_eq_true (List.all_eq_true.1 hsz0 n (DataW.weights_mem_each (j := 0) (t := 22) (d := d0) rfl rfl n hn)))
  have k1 := h1
  have lt1 : ∀ x ∈ p1, x.block < W.heap.size := by obtain ⟨m, hm⟩ := k1; exact DataW.trod_lt m _ _ _ hm
  obtain ⟨cs1, rfl, hc1⟩ := okWide_struct Tryz.underlying24 (hval 1 24 v1 rfl rfl)
  obtain ⟨a1_0, a1_1, a1_2, w1⟩ : ∃ a1_0 a1_1 a1_2 : Int, Value.agg cs1 = .agg #[.int .i64 a1_0, .int .i64 a1_1, .int .i64 a1_2] := by
    obtain ⟨fuel, hf⟩ := h1
    obtain ⟨b0, e0, _⟩ := leaf_int (o := 0) (u := 3) (k := .i64) (by kernel_rfl) Tryz.underlying3 hf
    obtain ⟨b1, e1, _⟩ := leaf_int (o := 1) (u := 3) (k := .i64) (by kernel_rfl) Tryz.underlying3 hf
    obtain ⟨b2, e2, _⟩ := leaf_int (o := 2) (u := 3) (k := .i64) (by kernel_rfl) Tryz.underlying3 hf
    exact ⟨b0, b1, b2, agg_of3 (by rw [hc1]; kernel_rfl) e0 e1 e2⟩
  have k2 := h2
  have lt2 : ∀ x ∈ p2, x.block < W.heap.size := by obtain ⟨m, hm⟩ := k2; exact DataW.trod_lt m _ _ _ hm
  obtain ⟨cs2, rfl, hc2⟩ := okWide_struct Tryz.underlying40 (hval 2 40 v2 rfl rfl)
  obtain ⟨a2_0, a2_1, w2⟩ : ∃ a2_0 a2_1 : Int, Value.agg cs2 = .agg #[.int .i64 a2_0, .int .i64 a2_1] := by
    obtain ⟨fuel, hf⟩ := h2
    obtain ⟨b0, e0, _⟩ := leaf_int (o := 0) (u := 3) (k := .i64) (by kernel_rfl) Tryz.underlying3 hf
    obtain ⟨b1, e1, _⟩ := leaf_int (o := 1) (u := 3) (k := .i64) (by kernel_rfl) Tryz.underlying3 hf
    exact ⟨b0, b1, agg_of2 (by rw [hc2]; kernel_rfl) e0 e1⟩
  clear hA0 hval0
  have hrb := reachBytes_lt
  obtain ⟨acc, rfl, hRR, hby⟩ := rules_ofG w0
  have hw := grantZooms_walk W _ acc a1_0 a1_1 a1_2 a2_0 a2_1 hRR hby (fun V hb => known_any V (hT.below hb))
  rw [← w1] at hw
  rw [← w2] at hw
  refine hw.mono fun e W' ⟨he, bel⟩ => ?_
  subst he
  exact ⟨_, rfl, _, _, _, [], _, [], hW', trodAll_mk1 (shut_bool Tryz.underlying4 _), (trodAll_cons_mk (Below.trod laidOut (by kernel_rfl) (of_decide_eq_true (by kernel_rfl)) k0 bel lt0) (trodAll_cons_mk (Below.trod laidOut (by kernel_rfl) (of_decide_eq_true (by kernel_rfl)) k1 bel lt1) (trodAll_cons_mk (Below.trod laidOut (by kernel_rfl) (of_decide_eq_true (by kernel_rfl)) k2 bel lt2) trodAll_mk0))), rfl, bel.frame _, fun h => by cases h⟩
theorem over : Rows.GrantZoomsSaid :=
  OpenClaim.holds_of_wide 4 Tryz.f4 rfl rfl rfl rfl rfl rfl rfl ⟨rfl, rfl, rfl, rfl, rfl⟩ rfl rfl rfl rfl rfl (by kernel_rfl) Tryz.func4 (by kernel_rfl)
    (of_decide_eq_true (by kernel_rfl)) (by unfold Func.isWrapper; first | (rw [if_pos (by decide +kernel)]; kernel_rfl) | (rw [if_neg (by decide +kernel)]; exact ⟨rfl, rfl⟩))
    (fun os started H enc _ => lifted os started H enc)
/-- The statement. -/
theorem proved : Rows.GrantZoomsCardSaid :=
  Claim7.holds_tied_plain_at .later [] [.data, .data] true (true, "83f9d270f8e6facd55cbdf024ff8ff09650ec3b36e3d085aaff23f58661e14fe") false
    over (fun _ h => by cases h) (by kernel_rfl) (fun _ h => by cases h) grantZooms_row_tie rfl ⟨rfl, rfl⟩ (by kernel_rfl) rfl
    (fun f fn hf hfn => by
      obtain rfl : f = 4 := Option.some.inj ((show Tryz.prog.funcNamed "paravent/paraventlaw14.GrantZooms" = some 4 by kernel_rfl).symm.trans hf) |>.symm
      obtain rfl : fn = Tryz.f4 := (Option.some.inj (Tryz.func4.symm.trans hfn)).symm
      exact ⟨by kernel_rfl, fun j t ht => by
        rw [Tryz.params4] at ht
        have h3 : t = 22 ∨ t = 24 ∨ t = 40 := by
          rcases j with _ | _ | _ | j
          · have h8 : t = 22 := by simpa using ht.symm
            simp [h8]
          · have h8 : t = 24 := by simpa using ht.symm
            simp [h8]
          · have h8 : t = 40 := by simpa using ht.symm
            simp [h8]
          · simp at ht
        rcases h3 with rfl | rfl | rfl
        · exact (show Tryz.prog.wantsStandIn 22 = false by kernel_rfl)
        · exact (show Tryz.prog.wantsStandIn 24 = false by kernel_rfl)
        · exact (show Tryz.prog.wantsStandIn 40 = false by kernel_rfl)⟩)
    (by kernel_rfl)
#print axioms proved
end Go.Proofs.YtmgamlpjgghieaaGreatDoor.grantZooms
