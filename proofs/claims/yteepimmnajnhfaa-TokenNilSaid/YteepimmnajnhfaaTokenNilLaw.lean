/- TokenNil: (P16.2, P16.3) a table that is not there makes nothing and has nothing. Conditions: none. -/
import Derived.Test.YteepimmnajnhfaaTo15
import Derived.Test.YteepimmnajnhfaaToH
namespace Go.Proofs.Yteepimmnajnhfaa.tokenNil
set_option linter.unusedVariables false
set_option linter.unusedSimpArgs false
open Go.ChangeShapes Go.WideShapes Go.ChangeAt Go.RowKit
open Go.ChangeMaps (open_string shut_string)
set_option maxRecDepth 100000 in
set_option maxHeartbeats 8000000 in
theorem walkN (kd : Int) (sr dr : Nat) (g0 g1 g2 g3 g4 g5 : Int) (g6 : Bool) (g7 nw : Int) (w : World) :
    Calls Try.prog 9 #[.agg #[.int .i64 kd, .int .u64 sr, .int .u64 dr, .int .i64 g0, .int .i64 g1, .int .i64 g2, .int .i64 g3, .int .i64 g4, .int .i64 g5, .bool g6, .int .i64 g7, .int .i64 nw]] w fun e w' => e = .returned (.bool true) ∧ Below w.heap.size w w' := by
  go_enter Try.func9, Try.ntmps9
  go_wp2_with fail
  refine (live_nil _ _ _).mono ?_
  rintro e w1 ⟨rfl, hb⟩
  have O : Blk w1 (w.heap.size) 32 #[.int .i64 kd, .int .u64 sr, .int .u64 dr, .int .i64 g0, .int .i64 g1, .int .i64 g2, .int .i64 g3, .int .i64 g4, .int .i64 g5, .bool g6, .int .i64 g7, .int .i64 nw] := Blk.thru0 (Blk.newAt (by simp)) hb
  have hB : Below w.heap.size w w1 := below_trans (by go_grown) hb
  have hszw1 := hb.size
  (try simp at hszw1)
  clear hb
  have kO0 := O.cell 0
  have kO1 := O.cell 1
  have kO2 := O.cell 2
  have kO3 := O.cell 3
  have kO4 := O.cell 4
  have kO5 := O.cell 5
  have kO6 := O.cell 6
  have kO7 := O.cell 7
  have kO8 := O.cell 8
  have kO9 := O.cell 9
  have kO10 := O.cell 10
  have kO11 := O.cell 11
  simp only [List.getElem?_toArray, List.getElem?_cons_zero, List.getElem?_cons_succ] at kO0 kO1 kO2 kO3 kO4 kO5 kO6 kO7 kO8 kO9 kO10 kO11
  have zO := O.lt
  go_upto_region 3 with fail
  have hs := hB.size
  have hB9 : Below w.heap.size w (w1.alloc (.cells #[.int .i64 0, .int .i64 0, .int .i64 0, .int .i64 0, .int .i64 0, .int .i64 0, .bool false, .int .i64 0] 30)) := by go_grown
  have O9 : Blk (w1.alloc (.cells #[.int .i64 0, .int .i64 0, .int .i64 0, .int .i64 0, .int .i64 0, .int .i64 0, .bool false, .int .i64 0] 30)) (w.heap.size) 32 #[.int .i64 kd, .int .u64 sr, .int .u64 dr, .int .i64 g0, .int .i64 g1, .int .i64 g2, .int .i64 g3, .int .i64 g4, .int .i64 g5, .bool g6, .int .i64 g7, .int .i64 nw] := (O).alloc _
  have X9 : Blk (w1.alloc (.cells #[.int .i64 0, .int .i64 0, .int .i64 0, .int .i64 0, .int .i64 0, .int .i64 0, .bool false, .int .i64 0] 30)) (w1.heap.size) 30 #[.int .i64 0, .int .i64 0, .int .i64 0, .int .i64 0, .int .i64 0, .int .i64 0, .bool false, .int .i64 0] := Blk.newAt (by simp)
  generalize w1.alloc (.cells #[.int .i64 0, .int .i64 0, .int .i64 0, .int .i64 0, .int .i64 0, .int .i64 0, .bool false, .int .i64 0] 30) = w2 at hB9 O9 X9 ⊢
  clear kO0 kO1 kO2 kO3 kO4 kO5 kO6 kO7 kO8 kO9 kO10 kO11 zO
  clear hs hB O
  have hB := hB9
  clear hB9
  have O := O9
  clear O9
  have X := X9
  clear X9
  have kO0 := O.cell 0
  have kO1 := O.cell 1
  have kO2 := O.cell 2
  have kO3 := O.cell 3
  have kO4 := O.cell 4
  have kO5 := O.cell 5
  have kO6 := O.cell 6
  have kO7 := O.cell 7
  have kO8 := O.cell 8
  have kO9 := O.cell 9
  have kO10 := O.cell 10
  have kO11 := O.cell 11
  have kX0 := X.cell 0
  have kX1 := X.cell 1
  have kX2 := X.cell 2
  have kX3 := X.cell 3
  have kX4 := X.cell 4
  have kX5 := X.cell 5
  have kX6 := X.cell 6
  have kX7 := X.cell 7
  simp only [List.getElem?_toArray, List.getElem?_cons_zero, List.getElem?_cons_succ] at kO0 kO1 kO2 kO3 kO4 kO5 kO6 kO7 kO8 kO9 kO10 kO11 kX0 kX1 kX2 kX3 kX4 kX5 kX6 kX7
  have zO := O.lt
  have zX := X.lt
  have hw0 : IntKind.i64.wrap 0 = 0 := by decide
  go_region_held3 (fun w' => (w'.cell? ⟨w.heap.size, 0, none⟩ = some (.int .i64 kd)) ∧ (w'.cell? ⟨w.heap.size, 1, none⟩ = some (.int .u64 sr)) ∧ (w'.cell? ⟨w.heap.size, 2, none⟩ = some (.int .u64 dr)) ∧ (w'.cell? ⟨w.heap.size, 3, none⟩ = some (.int .i64 g0)) ∧ (w'.cell? ⟨w.heap.size, 4, none⟩ = some (.int .i64 g1)) ∧ (w'.cell? ⟨w.heap.size, 5, none⟩ = some (.int .i64 g2)) ∧ (w'.cell? ⟨w.heap.size, 6, none⟩ = some (.int .i64 g3)) ∧ (w'.cell? ⟨w.heap.size, 7, none⟩ = some (.int .i64 g4)) ∧ (w'.cell? ⟨w.heap.size, 8, none⟩ = some (.int .i64 g5)) ∧ (w'.cell? ⟨w.heap.size, 9, none⟩ = some (.bool g6)) ∧ (w'.cell? ⟨w.heap.size, 10, none⟩ = some (.int .i64 g7)) ∧ (w'.cell? ⟨w.heap.size, 11, none⟩ = some (.int .i64 nw)) ∧ (w'.cell? ⟨w1.heap.size, 0, none⟩ = some (.int .i64 0)) ∧ (w'.cell? ⟨w1.heap.size, 1, none⟩ = some (.int .i64 0)) ∧ (w'.cell? ⟨w1.heap.size, 2, none⟩ = some (.int .i64 0)) ∧ (w'.cell? ⟨w1.heap.size, 3, none⟩ = some (.int .i64 0)) ∧ (w'.cell? ⟨w1.heap.size, 4, none⟩ = some (.int .i64 0)) ∧ (w'.cell? ⟨w1.heap.size, 5, none⟩ = some (.int .i64 0)) ∧ (w'.cell? ⟨w1.heap.size, 6, none⟩ = some (.bool false)) ∧ (w'.cell? ⟨w1.heap.size, 7, none⟩ = some (.int .i64 0)) ∧ (Below w.heap.size w w')) (first | (go_split_ands; refine ⟨?_, ?_, ?_, ?_, ?_, ?_, ?_, ?_, ?_, ?_, ?_, ?_, ?_, ?_, ?_, ?_, ?_, ?_, ?_, ?_, ?_⟩ <;> first | (exact cell_later (by assumption) (by assumption)) | (exact below_then (by assumption) (by assumption)) | (go_grown; done) | go_keep)) (first | (go_at_call 13; refine (mint_nil _ _ ⟨g0, g1, g2, g3, g4, g5, g6, g7⟩ _).mono ?_; rintro e w9 ⟨rfl, hb9⟩) | (go_at_call 15; refine (derive_nil _ _ _ ⟨g0, g1, g2, g3, g4, g5, g6, g7⟩ _).mono ?_; rintro e w9 ⟨rfl, hb9⟩) | (go_at_call 16; refine (revoke_nil _ _ _).mono ?_; rintro e w9 ⟨rfl, hb9⟩) | (go_at_call 22; refine (len_nil _ _).mono ?_; rintro e w9 ⟨rfl, rfl⟩) | (go_at_call 21; refine (tickets_nil _ _).mono ?_; rintro e w9 ⟨rfl, rfl⟩) | (go_at_call 23; refine (tknown_any _).mono ?_; rintro e w9 ⟨rfl, hb9⟩))
  all_goals
    rename_i hS
    clear hw0
    have h9 := hS.2.2.2.2.2.2.2.2.2.2.2.2.2.2.2.2.2.2.2.2
    clear hS
    clear hB O X
    go_wp2
    go_ret
    exact ⟨rfl, h9⟩
theorem walk (a : Ot) (w : World) (h : a.I) : Calls Try.prog 9 #[a.V] w fun e w' => e = .returned (.bool true) ∧ Below w.heap.size w w' := walkN _ _ _ _ _ _ _ _ _ _ _ _ w
theorem own : ownKnob Try.prog.godebug = none := by kernel_rfl
theorem laidOut : laidOutB Try.prog = true := by kernel_rfl
set_option maxRecDepth 100000 in
theorem lifted (os : Os) (started : os.Started) (H : Type) (enc : TypeId × Value → H) :
    ReturnsInHanded {} Try.checked os 9 .any (Rows.tokenNilSpec.pre6 enc Try.prog Try.f9 Rows.tokenNilRow.domain false) (Rows.tokenNilSpec.post enc Try.prog Try.f9 false true false false) := by
  refine returnsInHanded_of_change (C := Try.checked) own started (by kernel_rfl) Try.func9
    (ChangeSpec.witness6 (enc := enc) (C := Try.checked) false ⟨#[], #[wOp], []⟩ 8 (by kernel_rfl) (by kernel_rfl) (by kernel_rfl) (by kernel_rfl)) ?_
  intro W base args ds gs before hval0 hW hcnd _
  have hval : ∀ (j : Nat) t v, Try.f9.params[j]? = some t → args[j]? = some v → Value.okWide Try.prog W .any base t v := hval0
  have hW' := hW
  obtain ⟨p, q, hA0, hV, rfl, hfz, hnd⟩ := hW
  have hA : DataW.TrodAll enc Try.prog W 0 (fun _ => true) true Try.f9.params.toList args.toList ds p := hA0
  rw [Try.params9] at hA hval
  obtain ⟨v0, vs0, d0, ds0, p0, q0, hargs, rfl, rfl, h0, r0⟩ := trodAll_cons hA
  obtain ⟨rfl, rfl, rfl⟩ := trodAll_nil r0
  obtain rfl : args = #[v0] := by cases args; simp_all
  obtain ⟨rfl, rfl⟩ := trodVars_none hV
  have k0 := h0
  have lt0 : ∀ x ∈ p0, x.block < W.heap.size := by obtain ⟨m, hm⟩ := k0; exact DataW.trod_lt m _ _ _ hm
  obtain ⟨cs0, rfl, hc0⟩ := okWide_struct Try.underlying32 (hval 0 32 v0 rfl rfl)
  obtain ⟨a0, e0, w0⟩ : ∃ a, Value.agg cs0 = Ot.V a ∧ Ot.I a := by
    obtain ⟨fuel, hf⟩ := h0
    exact op_of (cs := cs0) hf (by rw [hc0]; kernel_rfl)
  clear hA0 hval0
  have hw := walk a0 W w0
  rw [← e0] at hw
  refine hw.mono fun e W' ⟨he, bel⟩ => ?_
  subst he
  exact ⟨_, rfl, _, _, _, [], _, [], hW', trodAll_mk1 (shut_bool Try.underlying4 _), (trodAll_cons_mk (Below.trod laidOut (by kernel_rfl) (of_decide_eq_true (by kernel_rfl)) k0 bel lt0) trodAll_mk0), rfl, bel.frame _, fun h => by cases h⟩
theorem over : Rows.tokenNilRow.holds Try.pinned (OpenSpec.ofChange Rows.tokenNilSpec) :=
  OpenClaim.holds_of_wide 9 Try.f9 rfl rfl rfl rfl rfl rfl rfl ⟨rfl, rfl, rfl, rfl, rfl⟩ rfl rfl rfl rfl rfl (by kernel_rfl) Try.func9 (by kernel_rfl)
    (of_decide_eq_true (by kernel_rfl)) (by unfold Func.isWrapper; first | (rw [if_pos (by decide +kernel)]; kernel_rfl) | (rw [if_neg (by decide +kernel)]; exact ⟨rfl, rfl⟩))
    (fun os started H enc _ => lifted os started H enc)
/-- The statement. -/
theorem proved : Rows.TokenNilSaid := over
#print axioms proved
end Go.Proofs.Yteepimmnajnhfaa.tokenNil
