/- wire: requests held against each other. -/
import Derived.Test.YthlmldbgohnpnaaWrE
namespace Go.Proofs.Ythlmldbgohnpnaa
set_option linter.unusedVariables false
set_option linter.unusedSimpArgs false
open Go.RowKit
theorem eqF_step {P : Program} {d : Nat} {xs ys : Array Value} {f : Field} {fs : List Field} {x y : Value} {r s : Bool} {w : World} (hn : f.name ≠ "_") (hx : (part f.type xs f.offset).run P w = .ok x w) (hy : (part f.type ys f.offset).run P w = .ok y w) (he : (Op.equalIn d f.type x y).run P w = .ok r w) (hr : (Op.eqFields d xs ys fs).run P w = .ok s w) : (Op.eqFields d xs ys (f :: fs)).run P w = .ok (r && s) w := by
  unfold Op.eqFields
  rw [if_pos hn]
  cases r <;> simp [hx, hy, he, hr]
theorem eq_i64 (d : Nat) (a b : Int) (w : World) : (Op.equalIn (d + 1) 3 (.int .i64 a) (.int .i64 b)).run Try.prog w = .ok (decide (a = b)) w := run_equalIn_int w d _ _ _ a b Try.underlying3
theorem eq_u64 (d : Nat) (a b : Nat) (w : World) : (Op.equalIn (d + 1) 23 (.int .u64 (a : Int)) (.int .u64 (b : Int))).run Try.prog w = .ok (decide (a = b)) w := by
  rw [run_equalIn_int w d _ _ _ (a : Int) (b : Int) Try.underlying23]
  congr 1
  rw [Bool.eq_iff_iff]; simp; omega
theorem eq_str (d : Nat) (a b : Bs) (w : World) : (Op.equalIn (d + 1) 9 (.string (bs a)) (.string (bs b))).run Try.prog w = .ok (decide (a = b)) w := by
  rw [run_equalIn_string w d _ _ _ Try.underlying9]
  congr 1
  rw [Bool.eq_iff_iff]
  simp only [beq_iff_eq, decide_eq_true_eq]
  constructor
  · intro h
    rw [ByteArray.toList_eq, ByteArray.toList_eq] at h
    simpa [bs] using h
  · rintro rfl; rfl
theorem eq_rect4 (d : Nat) (a b c e a' b' c' e' : Int) (w : World) : (Op.equalIn (d + 2) 25 (.agg #[.int .i64 a, .int .i64 b, .int .i64 c, .int .i64 e]) (.agg #[.int .i64 a', .int .i64 b', .int .i64 c', .int .i64 e'])).run Try.prog w = .ok (decide (a = a') && (decide (b = b') && (decide (c = c') && (decide (e = e') && true)))) w := by
  have hS : Try.prog.underlying 25 = some (.struct (Try.prog.fieldsOf 25)) := by kernel_rfl
  have hp : Try.prog.stoodInHeld 25 = false := by kernel_rfl
  rw [run_equalIn_agg w (d + 1) 25 _ _ hS hp]
  simp only [Program.fieldsOf, Try.underlying25]
  refine eqF_step (by decide) (x := .int .i64 a) (y := .int .i64 a') ?_ ?_ (eq_i64 d _ _ w) (eqF_step (by decide) (x := .int .i64 b) (y := .int .i64 b') ?_ ?_ (eq_i64 d _ _ w) (eqF_step (by decide) (x := .int .i64 c) (y := .int .i64 c') ?_ ?_ (eq_i64 d _ _ w) (eqF_step (by decide) (x := .int .i64 e) (y := .int .i64 e') ?_ ?_ (eq_i64 d _ _ w) rfl)))
  all_goals kernel_rfl
theorem eq_pnt2 (d : Nat) (a b a' b' : Int) (w : World) : (Op.equalIn (d + 2) 29 (.agg #[.int .i64 a, .int .i64 b]) (.agg #[.int .i64 a', .int .i64 b'])).run Try.prog w = .ok (decide (a = a') && (decide (b = b') && true)) w := by
  have hS : Try.prog.underlying 29 = some (.struct (Try.prog.fieldsOf 29)) := by kernel_rfl
  have hp : Try.prog.stoodInHeld 29 = false := by kernel_rfl
  rw [run_equalIn_agg w (d + 1) 29 _ _ hS hp]
  simp only [Program.fieldsOf, Try.underlying29]
  exact (eqF_step (by decide) (x := .int .i64 a) (y := .int .i64 a') (by kernel_rfl) (by kernel_rfl) (eq_i64 d _ _ w) (eqF_step (by decide) (x := .int .i64 b) (y := .int .i64 b') (by kernel_rfl) (by kernel_rfl) (eq_i64 d _ _ w) rfl))
theorem eq_prof2 (d : Nat) (a : Int) (b : Nat) (a' : Int) (b' : Nat) (w : World) : (Op.equalIn (d + 2) 27 (.agg #[.int .i64 a, .int .u64 (b : Int)]) (.agg #[.int .i64 a', .int .u64 (b' : Int)])).run Try.prog w = .ok (decide (a = a') && (decide (b = b') && true)) w := by
  have hS : Try.prog.underlying 27 = some (.struct (Try.prog.fieldsOf 27)) := by kernel_rfl
  have hp : Try.prog.stoodInHeld 27 = false := by kernel_rfl
  rw [run_equalIn_agg w (d + 1) 27 _ _ hS hp]
  simp only [Program.fieldsOf, Try.underlying27]
  exact (eqF_step (by decide) (x := .int .i64 a) (y := .int .i64 a') (by kernel_rfl) (by kernel_rfl) (eq_i64 d _ _ w) (eqF_step (by decide) (x := .int .u64 (b : Int)) (y := .int .u64 (b' : Int)) (by kernel_rfl) (by kernel_rfl) (eq_u64 d _ _ w) rfl))
def eqQ (a b : Rq) : Bool := decide (a.op = b.op) && decide (a.ten = b.ten) && decide (a.usr = b.usr) && decide (a.sec = b.sec) && decide (a.m = b.m) && decide (a.who = b.who) && decide (a.role = b.role) && decide (a.tier = b.tier) && decide (a.quota = b.quota) && decide (a.text = b.text) && decide (a.rights = b.rights) && decide (a.zoom = b.zoom) && decide (a.x0 = b.x0) && decide (a.y0 = b.y0) && decide (a.x1 = b.x1) && decide (a.y1 = b.y1) && decide (a.til = b.til) && decide (a.oth = b.oth) && decide (a.k = b.k) && decide (a.area = b.area) && decide (a.px = b.px) && decide (a.py = b.py) && decide (a.lab = b.lab) && decide (a.fro = b.fro)
theorem eqQ_iff (a b : Rq) : eqQ a b = true ↔ a = b := by
  constructor
  · intro h
    cases a
    cases b
    simpa [eqQ, and_assoc] using h
  · rintro rfl; simp [eqQ]
theorem eq_req (a b : Rq) (w : World) : (Op.equalIn 10000 TQ (.agg a.cs) (.agg b.cs)).run Try.prog w = .ok (eqQ a b) w := by
  have hS : Try.prog.underlying 31 = some (.struct (Try.prog.fieldsOf 31)) := by kernel_rfl
  have hp : Try.prog.stoodInHeld 31 = false := by kernel_rfl
  rw [show (10000 : Nat) = 9999 + 1 from rfl, run_equalIn_agg w 9999 31 _ _ hS hp]
  simp only [Program.fieldsOf, Try.underlying31]
  refine (show _ = Result.ok _ w from (eqF_step (by decide) (x := .int .i64 a.op) (y := .int .i64 b.op) (by kernel_rfl) (by kernel_rfl) (eq_i64 9998 _ _ w) (eqF_step (by decide) (x := .int .i64 a.ten) (y := .int .i64 b.ten) (by kernel_rfl) (by kernel_rfl) (eq_i64 9998 _ _ w) (eqF_step (by decide) (x := .int .i64 a.usr) (y := .int .i64 b.usr) (by kernel_rfl) (by kernel_rfl) (eq_i64 9998 _ _ w) (eqF_step (by decide) (x := .int .u64 (a.sec : Int)) (y := .int .u64 (b.sec : Int)) (by kernel_rfl) (by kernel_rfl) (eq_u64 9998 _ _ w) (eqF_step (by decide) (x := .int .i64 a.m) (y := .int .i64 b.m) (by kernel_rfl) (by kernel_rfl) (eq_i64 9998 _ _ w) (eqF_step (by decide) (x := .int .i64 a.who) (y := .int .i64 b.who) (by kernel_rfl) (by kernel_rfl) (eq_i64 9998 _ _ w) (eqF_step (by decide) (x := .int .i64 a.role) (y := .int .i64 b.role) (by kernel_rfl) (by kernel_rfl) (eq_i64 9998 _ _ w) (eqF_step (by decide) (x := .int .i64 a.tier) (y := .int .i64 b.tier) (by kernel_rfl) (by kernel_rfl) (eq_i64 9998 _ _ w) (eqF_step (by decide) (x := .int .i64 a.quota) (y := .int .i64 b.quota) (by kernel_rfl) (by kernel_rfl) (eq_i64 9998 _ _ w) (eqF_step (by decide) (x := .string (bs a.text)) (y := .string (bs b.text)) (by kernel_rfl) (by kernel_rfl) (eq_str 9998 _ _ w) (eqF_step (by decide) (x := .int .i64 a.rights) (y := .int .i64 b.rights) (by kernel_rfl) (by kernel_rfl) (eq_i64 9998 _ _ w) (eqF_step (by decide) (x := .int .i64 a.zoom) (y := .int .i64 b.zoom) (by kernel_rfl) (by kernel_rfl) (eq_i64 9998 _ _ w) (eqF_step (by decide) (x := .agg #[.int .i64 a.x0, .int .i64 a.y0, .int .i64 a.x1, .int .i64 a.y1]) (y := .agg #[.int .i64 b.x0, .int .i64 b.y0, .int .i64 b.x1, .int .i64 b.y1]) (by kernel_rfl) (by kernel_rfl) (eq_rect4 9997 _ _ _ _ _ _ _ _ w) (eqF_step (by decide) (x := .int .i64 a.til) (y := .int .i64 b.til) (by kernel_rfl) (by kernel_rfl) (eq_i64 9998 _ _ w) (eqF_step (by decide) (x := .int .u64 (a.oth : Int)) (y := .int .u64 (b.oth : Int)) (by kernel_rfl) (by kernel_rfl) (eq_u64 9998 _ _ w) (eqF_step (by decide) (x := .agg #[.int .i64 a.k, .int .u64 (a.area : Int)]) (y := .agg #[.int .i64 b.k, .int .u64 (b.area : Int)]) (by kernel_rfl) (by kernel_rfl) (eq_prof2 9997 _ _ _ _ w) (eqF_step (by decide) (x := .agg #[.int .i64 a.px, .int .i64 a.py]) (y := .agg #[.int .i64 b.px, .int .i64 b.py]) (by kernel_rfl) (by kernel_rfl) (eq_pnt2 9997 _ _ _ _ w) (eqF_step (by decide) (x := .int .i64 a.lab) (y := .int .i64 b.lab) (by kernel_rfl) (by kernel_rfl) (eq_i64 9998 _ _ w) (eqF_step (by decide) (x := .int .i64 a.fro) (y := .int .i64 b.fro) (by kernel_rfl) (by kernel_rfl) (eq_i64 9998 _ _ w) rfl)))))))))))))))))))).trans ?_
  congr 1
  simp [eqQ, Bool.and_assoc]
end Go.Proofs.Ythlmldbgohnpnaa
