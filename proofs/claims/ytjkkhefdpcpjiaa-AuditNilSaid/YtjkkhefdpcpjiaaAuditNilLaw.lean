/- AuditNil: (P17.2) a trail that is not there takes nothing and has nothing. Conditions: none. -/
import Derived.Test.YtjkkhefdpcpjiaaAuF
import Derived.Test.YtjkkhefdpcpjiaaAuH
namespace Go.Proofs.Ytjkkhefdpcpjiaa.auditNil
set_option linter.unusedVariables false
set_option linter.unusedSimpArgs false
open Go.ChangeShapes Go.WideShapes Go.ChangeAt Go.RowKit
open Go.ChangeMaps (open_string shut_string)
theorem nlen (w : World) : Calls Try.prog 15 #[.pointer none] w fun e w' => e = .returned (.int .i64 0) ∧ Below w.heap.size w w' := (alen_nil w).mono fun _ _ ⟨h, q, e⟩ => ⟨h, e ▸ below_drawn (Below.refl _ _) q⟩
theorem npast (w : World) : Calls Try.prog 16 #[.pointer none] w fun e w' => e = .returned (.int .i64 0) ∧ Below w.heap.size w w' := (apast_nil w).mono fun _ _ ⟨h, e⟩ => ⟨h, e ▸ Below.refl _ _⟩
theorem nskip (w : World) (m : Int) : Calls Try.prog 22 #[.pointer none, .int .i64 m] w fun e w' => e = .returned (.bool false) ∧ Below w.heap.size w w' := (askip_nil w m).mono fun _ _ ⟨h, e⟩ => ⟨h, e ▸ Below.refl _ _⟩
def Row0 (w : World) (e : Ending) (w' : World) : Prop := ∃ A c, e = .returned (.slice A 0 c) ∧ Below w.heap.size w w'
theorem nown (w : World) (u n : Int) (hn : -9223372036854775808 ≤ n ∧ n ≤ 9223372036854775807) : Calls Try.prog 21 #[.pointer none, .int .i64 u, .int .i64 0, .int .i64 n] w (Row0 w) := (aown_nil w u 0 n (by decide) hn).mono fun _ _ ⟨v, e, h, _, hb⟩ => by
  obtain ⟨A, c, rfl, _, _⟩ := h.slice
  exact ⟨A, c, e, hb⟩
set_option maxRecDepth 100000 in
set_option maxHeartbeats 8000000 in
theorem walkN (x0 x1 x2 x3 n : Int) (hn : -9223372036854775808 ≤ n ∧ n ≤ 9223372036854775807) (w : World) :
    Calls Try.prog 8 #[.agg #[.int .i64 x0, .int .i64 x1, .int .i64 x2, .int .i64 x3], .int .i64 n] w fun e w' => e = .returned (.bool true) ∧ Below w.heap.size w w' := by
  have HN := Lib.hid hn
  clear hn
  go_enter Try.func8, Try.ntmps8
  go_upto_region 2 with fail
  have X := Blk.new w 27 #[.int .i64 x0, .int .i64 x1, .int .i64 x2, .int .i64 x3]
  have hB : Below w.heap.size w (w.alloc (.cells #[.int .i64 x0, .int .i64 x1, .int .i64 x2, .int .i64 x3] 27)) := (Below.refl _ _).alloc (Nat.le_refl _) _
  generalize (w.alloc (.cells #[.int .i64 x0, .int .i64 x1, .int .i64 x2, .int .i64 x3] 27)) = w1 at *
  have k0 := X.cell 0
  have k1 := X.cell 1
  have k2 := X.cell 2
  have k3 := X.cell 3
  simp only [List.getElem?_toArray, List.getElem?_cons_zero, List.getElem?_cons_succ] at k0 k1 k2 k3
  have zX := X.lt
  have hw0 : IntKind.i64.wrap 0 = 0 := by decide
  go_region_held3 (fun w' => (w'.cell? ⟨w.heap.size, 0, none⟩ = some (.int .i64 x0)) ∧ (w'.cell? ⟨w.heap.size, 1, none⟩ = some (.int .i64 x1)) ∧ (w'.cell? ⟨w.heap.size, 2, none⟩ = some (.int .i64 x2)) ∧ (w'.cell? ⟨w.heap.size, 3, none⟩ = some (.int .i64 x3)) ∧ (Below w.heap.size w w')) (first | (go_split_ands; refine ⟨?_, ?_, ?_, ?_, ?_⟩ <;> first | (exact cell_later (by assumption) (by assumption)) | (exact below_then (by assumption) (by assumption)) | (go_grown; done) | go_keep)) (first | (go_at_call 10; refine (aput_nil _ ⟨x0, x1, x2, x3⟩).mono ?_; rintro e w9 ⟨rfl, hb9⟩) | (go_at_call 22; refine (nskip _ _).mono ?_; rintro e w9 ⟨rfl, hb9⟩) | (go_at_call 21; refine (nown _ _ _ HN.out).mono ?_; rintro e w9 ⟨A9, c9, rfl, hb9⟩) | (go_at_call 11; refine (drain_nil _ _).mono ?_; rintro e w9 ⟨rfl, hb9⟩) | (go_at_call 14; refine (aleft_nil _).mono ?_; rintro e w9 ⟨rfl, hb9⟩) | (go_at_call 15; refine (nlen _).mono ?_; rintro e w9 ⟨rfl, hb9⟩) | (go_at_call 16; refine (npast _).mono ?_; rintro e w9 ⟨rfl, hb9⟩) | (go_at_call 17; refine (acount_nil _ _).mono ?_; rintro e w9 ⟨rfl, hb9⟩) | (go_at_call 19; refine (aknown_any _).mono ?_; rintro e w9 ⟨rfl, hb9⟩))
  all_goals
    rename_i hS
    clear hw0
    have h9 := hS.2.2.2.2
    clear hS
    clear hB X
    go_wp2
    go_ret
    exact ⟨rfl, h9⟩
theorem walk (a : Ev) (n : Int) (w : World) (h : a.I) (hn : -9223372036854775808 ≤ n ∧ n ≤ 9223372036854775807) : Calls Try.prog 8 #[a.V, .int .i64 n] w fun e w' => e = .returned (.bool true) ∧ Below w.heap.size w w' := walkN _ _ _ _ n hn w
theorem own : ownKnob Try.prog.godebug = none := by kernel_rfl
theorem laidOut : laidOutB Try.prog = true := by kernel_rfl
set_option maxRecDepth 100000 in
theorem lifted (os : Os) (started : os.Started) (H : Type) (enc : TypeId × Value → H) :
    ReturnsInHanded {} Try.checked os 8 .any (Rows.auditNilSpec.pre6 enc Try.prog Try.f8 Rows.auditNilRow.domain false) (Rows.auditNilSpec.post enc Try.prog Try.f8 false true false false) := by
  refine returnsInHanded_of_change (C := Try.checked) own started (by kernel_rfl) Try.func8
    (ChangeSpec.witness6 (enc := enc) (C := Try.checked) false ⟨#[], #[wEv, .int .i64 0], []⟩ 8 (by kernel_rfl) (by kernel_rfl) (by kernel_rfl) (by kernel_rfl)) ?_
  intro W base args ds gs before hval0 hW hcnd _
  have hval : ∀ (j : Nat) t v, Try.f8.params[j]? = some t → args[j]? = some v → Value.okWide Try.prog W .any base t v := hval0
  have hW' := hW
  obtain ⟨p, q, hA0, hV, rfl, hfz, hnd⟩ := hW
  have hA : DataW.TrodAll enc Try.prog W 0 (fun _ => true) true Try.f8.params.toList args.toList ds p := hA0
  rw [Try.params8] at hA hval
  obtain ⟨v0, vs0, d0, ds0, p0, q0, hargs, rfl, rfl, h0, r0⟩ := trodAll_cons hA
  obtain ⟨v1, vs1, d1, ds1, p1, q1, rfl, rfl, rfl, h1, r1⟩ := trodAll_cons r0
  obtain ⟨rfl, rfl, rfl⟩ := trodAll_nil r1
  obtain rfl : args = #[v0, v1] := by cases args; simp_all
  obtain ⟨rfl, rfl⟩ := trodVars_none hV
  have k0 := h0
  have lt0 : ∀ x ∈ p0, x.block < W.heap.size := by obtain ⟨m, hm⟩ := k0; exact DataW.trod_lt m _ _ _ hm
  obtain ⟨cs0, rfl, hc0⟩ := okWide_struct Try.underlying27 (hval 0 27 v0 rfl rfl)
  obtain ⟨a0, e0, w0⟩ : ∃ a, Value.agg cs0 = Ev.V a ∧ Ev.I a := by
    obtain ⟨fuel, hf⟩ := h0
    exact ev_of (cs := cs0) hf (by rw [hc0]; kernel_rfl)
  have k1 := h1
  have lt1 : ∀ x ∈ p1, x.block < W.heap.size := by obtain ⟨m, hm⟩ := k1; exact DataW.trod_lt m _ _ _ hm
  obtain ⟨a1, rfl, rfl, rfl, w1⟩ := open_int Try.underlying3 (hval 1 3 v1 rfl rfl) h1
  clear hA0 hval0
  have hw := walk a0 a1 W w0 (bounds_i64 w1)
  rw [← e0] at hw
  refine hw.mono fun e W' ⟨he, bel⟩ => ?_
  subst he
  exact ⟨_, rfl, _, _, _, [], _, [], hW', trodAll_mk1 (shut_bool Try.underlying4 _), (trodAll_cons_mk (Below.trod laidOut (by kernel_rfl) (of_decide_eq_true (by kernel_rfl)) k0 bel lt0) (trodAll_cons_mk (Below.trod laidOut (by kernel_rfl) (of_decide_eq_true (by kernel_rfl)) k1 bel lt1) trodAll_mk0)), rfl, bel.frame _, fun h => by cases h⟩
theorem over : Rows.auditNilRow.holds Try.pinned (OpenSpec.ofChange Rows.auditNilSpec) :=
  OpenClaim.holds_of_wide 8 Try.f8 rfl rfl rfl rfl rfl rfl rfl ⟨rfl, rfl, rfl, rfl, rfl⟩ rfl rfl rfl rfl rfl (by kernel_rfl) Try.func8 (by kernel_rfl)
    (of_decide_eq_true (by kernel_rfl)) (by unfold Func.isWrapper; first | (rw [if_pos (by decide +kernel)]; kernel_rfl) | (rw [if_neg (by decide +kernel)]; exact ⟨rfl, rfl⟩))
    (fun os started H enc _ => lifted os started H enc)
/-- The statement. -/
theorem proved : Rows.AuditNilSaid := over
#print axioms proved
end Go.Proofs.Ytjkkhefdpcpjiaa.auditNil
