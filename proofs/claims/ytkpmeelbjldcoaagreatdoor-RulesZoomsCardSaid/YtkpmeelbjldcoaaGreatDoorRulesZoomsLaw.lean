/- RulesZooms: (P12.2) any rules let anyone see as near as the document says. Conditions: none. -/
import Derived.Test.YtkpmeelbjldcoaaGreatDoorZbRulesZoomsWalk
import Derived.Test.YtkpmeelbjldcoaaGreatDoorZbRuIM
import Derived.Test.YtkpmeelbjldcoaaGreatDoorZbFrameM
import Derived.Test.YtkpmeelbjldcoaaGreatDoorZbPoV
import Derived.Test.YtkpmeelbjldcoaaGreatDoorTie
import Derived.Test.YtkpmeelbjldcoaaGreatDoorCards
import Derived.ChangeSame
import Derived.ChangeVars
import Derived.JoinedOf
import Derived.RowKit
import Derived.LaidLaws
import Derived.Lay
import Derived.Stop.Joined
import Derived.ProofKit
import Derived.SevenTiedAt
import Derived.Lib.SmallJoins
import Derived.SizedLaws
namespace Go.Proofs.YtkpmeelbjldcoaaGreatDoor.rulesZooms
set_option linter.unusedVariables false
set_option linter.unusedSimpArgs false
open Go Go.ChangeShapes Go.WideShapes Go.ChangeAt Go.RowKit
open Go.ChangeMaps (open_string shut_string)
theorem own : ownKnob Tryz.prog.godebug = none := by kernel_rfl
theorem laidOut : laidOutB Tryz.prog = true := by kernel_rfl
theorem laid_world (os : Os) (args : Array Value) : laidMetH Tryz.prog Rows.rulesZoomsRow.laid ((World.laidAll Tryz.prog os laidL).forCall (fun _ _ => 0) ⟨#[], args, []⟩).memory := by
  have h : laidMet Tryz.prog laidL ((World.laidAll Tryz.prog os laidL).forCall (fun _ _ => 0) ⟨#[], args, []⟩).memory := laidMet_laidAll args (by kernel_rfl) (by kernel_rfl)
  exact h
set_option maxRecDepth 100000 in
theorem lifted (os : Os) (started : os.Started) (H : Type) (enc : TypeId × Value → H) :
    ReturnsInHanded {} Tryz.checked os 5 .any (fun w args => (Rows.rulesZoomsSpec.pre enc Tryz.prog Tryz.f5 [] false w args ∧ laidMetH Tryz.prog Rows.rulesZoomsRow.laid w) ∧ sizedMet enc Tryz.prog Tryz.f5 (OpenSpec.ofChange Rows.rulesZoomsSpec) false w args) (Rows.rulesZoomsSpec.post enc Tryz.prog Tryz.f5 false true false false) := by
  refine returnsInHanded_of_change_and (C := Tryz.checked) (X := fun w _ => laidMetH Tryz.prog Rows.rulesZoomsRow.laid w) (fun _ _ _ hh h => h.of_heap hh) own started (by kernel_rfl) Tryz.func5
    (ChangeSpec.witness_at (enc := enc) (C := Tryz.checked) (os := os) (X := fun w _ => laidMetH Tryz.prog Rows.rulesZoomsRow.laid w) false (World.laidAll Tryz.prog os laidL) #[.slice none 0 0, .agg #[.int .i64 0, .int .i64 0, .int .i64 0, .int .i64 0, .int .i64 0]] 8 (World.laidAll_os _ _ _) (by kernel_rfl) (by kernel_rfl) (by kernel_rfl) (by kernel_rfl) (by kernel_rfl) (laid_world os _)) ?_
  intro W base args ds gs before hval0 hW _ hsz0 hL _
  have hV : Vs W := vs_of_laid hL
  have hS : Hs W := hs_of_laid hL
  have hval : ∀ (j : Nat) t v, Tryz.f5.params[j]? = some t → args[j]? = some v → Value.okWide Tryz.prog W .any base t v := hval0
  have hW' := hW
  obtain ⟨p, q, hA0, hVV, rfl, hfz, hnd⟩ := hW
  have hA : DataW.TrodAll enc Tryz.prog W 0 (fun _ => true) true Tryz.f5.params.toList args.toList ds p := hA0
  rw [Tryz.params5] at hA hval
  obtain ⟨v0, vs0, d0, ds0, p0, q0, hargs, rfl, rfl, h0, r0⟩ := trodAll_cons hA
  obtain ⟨v1, vs1, d1, ds1, p1, q1, rfl, rfl, rfl, h1, r1⟩ := trodAll_cons r0
  obtain ⟨rfl, rfl, rfl⟩ := trodAll_nil r1
  obtain rfl : args = #[v0, v1] := by cases args; simp_all
  obtain ⟨rfl, rfl⟩ := trodVars_none hVV
  have k0 := h0
  have lt0 : ∀ x ∈ p0, x.block < W.heap.size := by obtain ⟨m, hm⟩ := k0; exact DataW.trod_lt m _ _ _ hm
  obtain ⟨a0, len0, cap0, rfl⟩ := okWide_slice Tryz.underlying24 (hval 0 24 v0 rfl rfl)
  have w0 : IsSl W 7 (okRule W) a0 len0 cap0 := by
    obtain ⟨fuel, hf⟩ := h0
    exact isSl_of Tryz.underlying24 (by kernel_rfl) (fun fuel cs y h hs => okRule_of fuel cs y h hs) hf (fun n hn => of_decide_eq_true (List.all_eq_true.1 hsz0 n (DataW.weights_mem_each (j := 0) (t := 24) (d := d0) rfl rfl n hn)))
  have k1 := h1
  have lt1 : ∀ x ∈ p1, x.block < W.heap.size := by obtain ⟨m, hm⟩ := k1; exact DataW.trod_lt m _ _ _ hm
  obtain ⟨cs1, rfl, hc1⟩ := okWide_struct Tryz.underlying47 (hval 1 47 v1 rfl rfl)
  obtain ⟨a1_0, a1_1, a1_2, a1_3, a1_4, w1⟩ : ∃ a1_0 a1_1 a1_2 a1_3 a1_4 : Int, Value.agg cs1 = .agg #[.int .i64 a1_0, .int .i64 a1_1, .int .i64 a1_2, .int .i64 a1_3, .int .i64 a1_4] := by
    obtain ⟨fuel, hf⟩ := h1
    obtain ⟨b0, e0, _⟩ := leaf_int (o := 0) (u := 3) (k := .i64) (by kernel_rfl) Tryz.underlying3 hf
    obtain ⟨b1, e1, _⟩ := leaf_int (o := 1) (u := 3) (k := .i64) (by kernel_rfl) Tryz.underlying3 hf
    obtain ⟨b2, e2, _⟩ := leaf_int (o := 2) (u := 3) (k := .i64) (by kernel_rfl) Tryz.underlying3 hf
    obtain ⟨b3, e3, _⟩ := leaf_int (o := 3) (u := 3) (k := .i64) (by kernel_rfl) Tryz.underlying3 hf
    obtain ⟨b4, e4, _⟩ := leaf_int (o := 4) (u := 3) (k := .i64) (by kernel_rfl) Tryz.underlying3 hf
    exact ⟨b0, b1, b2, b3, b4, agg_of5 (by rw [hc1]; kernel_rfl) e0 e1 e2 e3 e4⟩
  clear hA0 hval0
  have hrb := reachBytes_lt
  obtain ⟨acc, rfl, hRR⟩ := rules_of w0
  have hw := rulesZooms_walk W _ acc a1_0 a1_1 a1_2 a1_3 a1_4 (fun V h1 h2 => rknown_any V h1 h2) hV hS hRR
  simp only [wV] at hw
  rw [← w1] at hw
  refine hw.mono fun e W' ⟨he, bel⟩ => ?_
  subst he
  exact ⟨_, rfl, _, _, _, [], _, [], hW', trodAll_mk1 (shut_bool Tryz.underlying4 _), (trodAll_cons_mk (Below.trod laidOut (by kernel_rfl) (of_decide_eq_true (by kernel_rfl)) k0 bel lt0) (trodAll_cons_mk (Below.trod laidOut (by kernel_rfl) (of_decide_eq_true (by kernel_rfl)) k1 bel lt1) trodAll_mk0)), rfl, bel.frame _, fun h => by cases h⟩
theorem over : Rows.RulesZoomsSaid :=
  OpenClaim.holds_of_wide 5 Tryz.f5 rfl rfl rfl rfl rfl rfl rfl ⟨rfl, rfl, rfl, rfl, rfl⟩ rfl rfl rfl rfl rfl (by kernel_rfl) Tryz.func5 (by kernel_rfl)
    (of_decide_eq_true (by kernel_rfl)) (by unfold Func.isWrapper; first | (rw [if_pos (by decide +kernel)]; kernel_rfl) | (rw [if_neg (by decide +kernel)]; exact ⟨rfl, rfl⟩))
    (fun os started H enc _ => lifted os started H enc)
/-- The statement. -/
theorem proved : Rows.RulesZoomsCardSaid :=
  Claim7.holds_tied_plain_at .later [] [.data, .data, .data, .sentinel, .sentinel, .data, .data, .data] true (true, "a5f74c4d3a21b0f309ffe2e4dce00c362255d5e615a7afc2140d64f58367c315") true
    over (fun _ h => by cases h) (by kernel_rfl) (fun _ h => by cases h) rulesZooms_row_tie rfl ⟨rfl, rfl⟩ (by kernel_rfl) rfl
    (fun f fn hf hfn => by
      obtain rfl : f = 5 := Option.some.inj ((show Tryz.prog.funcNamed "paravent/paraventlaw12.RulesZooms" = some 5 by kernel_rfl).symm.trans hf) |>.symm
      obtain rfl : fn = Tryz.f5 := (Option.some.inj (Tryz.func5.symm.trans hfn)).symm
      exact ⟨by kernel_rfl, fun j t ht => by
        rw [Tryz.params5] at ht
        have h3 : t = 24 ∨ t = 47 := by
          rcases j with _ | _ | j
          · have h8 : t = 24 := by simpa using ht.symm
            simp [h8]
          · have h8 : t = 47 := by simpa using ht.symm
            simp [h8]
          · simp at ht
        rcases h3 with rfl | rfl
        · exact (show Tryz.prog.wantsStandIn 24 = false by kernel_rfl)
        · exact (show Tryz.prog.wantsStandIn 47 = false by kernel_rfl)⟩)
    (by kernel_rfl)
#print axioms proved
end Go.Proofs.YtkpmeelbjldcoaaGreatDoor.rulesZooms
