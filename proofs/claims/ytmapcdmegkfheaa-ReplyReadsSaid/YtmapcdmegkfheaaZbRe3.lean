/- reply: answers as values; those that are bare, by contract. -/
import Derived.Test.YtmapcdmegkfheaaZbRe1
import Derived.Laws.StructEq
namespace Go.Proofs.Ytmapcdmegkfheaa
set_option linter.unusedVariables false
set_option linter.unusedSimpArgs false
open Go.RowKit
theorem rqF_step {P : Program} {d : Nat} {xs ys : Array Value} {f : Field} {fs : List Field} {x y : Value} {r s : Bool} {w : World} (hn : f.name ≠ "_") (hx : (part f.type xs f.offset).run P w = .ok x w) (hy : (part f.type ys f.offset).run P w = .ok y w) (he : (Op.equalIn d f.type x y).run P w = .ok r w) (hr : (Op.eqFields d xs ys fs).run P w = .ok s w) : (Op.eqFields d xs ys (f :: fs)).run P w = .ok (r && s) w := by
  unfold Op.eqFields
  rw [if_pos hn]
  cases r <;> simp [hx, hy, he, hr]
theorem rq_i64 (d : Nat) (a b : Int) (w : World) : (Op.equalIn (d + 1) 3 (.int .i64 a) (.int .i64 b)).run Try.prog w = .ok (decide (a = b)) w := run_equalIn_int w d _ _ _ a b Try.underlying3
theorem rq_rect (d : Nat) (a b c e a' b' c' e' : Int) (w : World) : (Op.equalIn (d + 2) 34 (.agg #[.int .i64 a, .int .i64 b, .int .i64 c, .int .i64 e]) (.agg #[.int .i64 a', .int .i64 b', .int .i64 c', .int .i64 e'])).run Try.prog w = .ok (decide (a = a') && (decide (b = b') && (decide (c = c') && (decide (e = e') && true)))) w := by
  have hS : Try.prog.underlying 34 = some (.struct (Try.prog.fieldsOf 34)) := by kernel_rfl
  have hp : Try.prog.stoodInHeld 34 = false := by kernel_rfl
  rw [run_equalIn_agg w (d + 1) 34 _ _ hS hp]
  simp only [Program.fieldsOf, Try.underlying34]
  exact (rqF_step (by decide) (x := .int .i64 a) (y := .int .i64 a') (by kernel_rfl) (by kernel_rfl) (rq_i64 d _ _ w) (rqF_step (by decide) (x := .int .i64 b) (y := .int .i64 b') (by kernel_rfl) (by kernel_rfl) (rq_i64 d _ _ w) (rqF_step (by decide) (x := .int .i64 c) (y := .int .i64 c') (by kernel_rfl) (by kernel_rfl) (rq_i64 d _ _ w) (rqF_step (by decide) (x := .int .i64 e) (y := .int .i64 e') (by kernel_rfl) (by kernel_rfl) (rq_i64 d _ _ w) rfl))))
theorem rq_pnt (d : Nat) (a b a' b' : Int) (w : World) : (Op.equalIn (d + 2) 30 (.agg #[.int .i64 a, .int .i64 b]) (.agg #[.int .i64 a', .int .i64 b'])).run Try.prog w = .ok (decide (a = a') && (decide (b = b') && true)) w := by
  have hS : Try.prog.underlying 30 = some (.struct (Try.prog.fieldsOf 30)) := by kernel_rfl
  have hp : Try.prog.stoodInHeld 30 = false := by kernel_rfl
  rw [run_equalIn_agg w (d + 1) 30 _ _ hS hp]
  simp only [Program.fieldsOf, Try.underlying30]
  exact (rqF_step (by decide) (x := .int .i64 a) (y := .int .i64 a') (by kernel_rfl) (by kernel_rfl) (rq_i64 d _ _ w) (rqF_step (by decide) (x := .int .i64 b) (y := .int .i64 b') (by kernel_rfl) (by kernel_rfl) (rq_i64 d _ _ w) rfl))
/-- Four numbers are the same. -/
def four (a b c e a' b' c' e' : Int) : Bool := decide (a = a' ∧ b = b' ∧ c = c' ∧ e = e')
theorem rq_rec (a b c e a' b' c' e' : Int) (w : World) : (Op.equalIn 10000 32 (.agg #[.int .i64 a, .int .i64 b, .int .i64 c, .int .i64 e]) (.agg #[.int .i64 a', .int .i64 b', .int .i64 c', .int .i64 e'])).run Try.prog w = .ok (four a b c e a' b' c' e') w := by
  have hS : Try.prog.underlying 32 = some (.struct (Try.prog.fieldsOf 32)) := by kernel_rfl
  have hp : Try.prog.stoodInHeld 32 = false := by kernel_rfl
  rw [show (10000 : Nat) = 9999 + 1 from rfl, run_equalIn_agg w 9999 32 _ _ hS hp]
  simp only [Program.fieldsOf, Try.underlying32]
  refine (show _ = Result.ok _ w from (rqF_step (by decide) (x := .int .i64 a) (y := .int .i64 a') (by kernel_rfl) (by kernel_rfl) (rq_i64 9998 _ _ w) (rqF_step (by decide) (x := .agg #[.int .i64 b, .int .i64 c]) (y := .agg #[.int .i64 b', .int .i64 c']) (by kernel_rfl) (by kernel_rfl) (rq_pnt 9997 _ _ _ _ w) (rqF_step (by decide) (x := .int .i64 e) (y := .int .i64 e') (by kernel_rfl) (by kernel_rfl) (rq_i64 9998 _ _ w) rfl)))).trans ?_
  congr 1
  rw [Bool.eq_iff_iff]
  simp [four, and_assoc]
theorem rq_rect0 (a b c e a' b' c' e' : Int) (w : World) : (Op.equalIn 10000 34 (.agg #[.int .i64 a, .int .i64 b, .int .i64 c, .int .i64 e]) (.agg #[.int .i64 a', .int .i64 b', .int .i64 c', .int .i64 e'])).run Try.prog w = .ok (four a b c e a' b' c' e') w := by
  refine (rq_rect 9998 a b c e a' b' c' e' w).trans ?_
  congr 1
  rw [Bool.eq_iff_iff]
  simp [four]
/-- An answer; its rows as they lie. -/
structure An where
  st : Int
  sec : Nat
  rid : Int
  rx : Int
  ry : Int
  lab : Int
  b0 : Int
  b1 : Int
  b2 : Int
  b3 : Int
  sA : Option Addr
  sn : Nat
  sc : Nat
  eA : Option Addr
  en : Nat
  ec : Nat
def An.cs (a : An) : Array Value := #[.int .i64 a.st, .int .u64 (a.sec : Int), .int .i64 a.rid, .int .i64 a.rx, .int .i64 a.ry, .int .i64 a.lab, .int .i64 a.b0, .int .i64 a.b1, .int .i64 a.b2, .int .i64 a.b3, .slice a.sA a.sn a.sc, .slice a.eA a.en a.ec]
abbrev TA : TypeId := 38
/-- Nothing but its status. -/
def bareB (a : An) : Bool := decide (a.sec = 0) && (four a.rid a.rx a.ry a.lab 0 0 0 0 && (four a.b0 a.b1 a.b2 a.b3 0 0 0 0 && (decide (a.sn = 0) && decide (a.en = 0))))
section
attribute [local go_sem ↓] rq_rec rq_rect0
set_option maxRecDepth 100000 in
set_option maxHeartbeats 4000000 in
theorem bare_any (w : World) (a : An) : Calls Try.prog 33 #[.agg a.cs] w fun e w' => e = .returned (.bool (bareB a)) ∧ Below w.heap.size w w' := by
  have HB0 := Lib.hid (show Below w.heap.size w (w.alloc (.cells a.cs TA)) from (Below.refl _ _).alloc (Nat.le_refl _) _)
  have e0 : a.cs[0]? = some (.int .i64 a.st) := rfl
  have e1 : a.cs[1]? = some (.int .u64 (a.sec : Int)) := rfl
  have e2 : a.cs[2]? = some (.int .i64 a.rid) := rfl
  have e3 : a.cs[3]? = some (.int .i64 a.rx) := rfl
  have e4 : a.cs[4]? = some (.int .i64 a.ry) := rfl
  have e5 : a.cs[5]? = some (.int .i64 a.lab) := rfl
  have e6 : a.cs[6]? = some (.int .i64 a.b0) := rfl
  have e7 : a.cs[7]? = some (.int .i64 a.b1) := rfl
  have e8 : a.cs[8]? = some (.int .i64 a.b2) := rfl
  have e9 : a.cs[9]? = some (.int .i64 a.b3) := rfl
  have e10 : a.cs[10]? = some (.slice a.sA a.sn a.sc) := rfl
  have e11 : a.cs[11]? = some (.slice a.eA a.en a.ec) := rfl
  go_enter Try.func33, Try.ntmps33
  go_wp2_with fail
  all_goals
    go_ret
    refine ⟨ret_bool ?_, HB0.out⟩
    first | (simp [bareB, *]; done) | (simp [bareB, *]; rw [Bool.eq_iff_iff]; simp)
end
end Go.Proofs.Ytmapcdmegkfheaa
