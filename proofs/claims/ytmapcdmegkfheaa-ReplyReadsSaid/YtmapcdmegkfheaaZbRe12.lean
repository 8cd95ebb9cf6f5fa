/- reply: Fits of any answer, by contract. -/
import Derived.Test.YtmapcdmegkfheaaZbRe11
namespace Go.Proofs.Ytmapcdmegkfheaa
set_option linter.unusedVariables false
set_option linter.unusedSimpArgs false
open Go.RowKit
set_option maxRecDepth 100000 in
set_option maxHeartbeats 4000000 in
theorem holds_where (w : World) (m : Int) (a : An) :
    Calls Try.prog 34 #[.int .i64 12, .int .i64 m, .agg a.cs] w fun e w' => e = .returned (.bool (decide (a.rid = 0) && (fitsB a.rx a.ry && withinB a.lab 0 7))) ∧ Below w.heap.size w w' := by
  have HB0 := Lib.hid (show Below w.heap.size w (w.alloc (.cells a.cs TA)) from (Below.refl _ _).alloc (Nat.le_refl _) _)
  have e0 : a.cs[0]? = some (.int .i64 a.st) := rfl
  have e1 : a.cs[1]? = some (.int .u64 (a.sec : Int)) := rfl
  have e2 : a.cs[2]? = some (.int .i64 a.rid) := rfl
  have e3 : a.cs[3]? = some (.int .i64 a.rx) := rfl
  have e4 : a.cs[4]? = some (.int .i64 a.ry) := rfl
  have e5 : a.cs[5]? = some (.int .i64 a.lab) := rfl
  have e6 : a.cs[6]? = some (.int .i64 a.b0) := rfl
  have e7 : a.cs[7]? = some (.int .i64 a.b1) := rfl
  have e8 : a.cs[8]? = some (.int .i64 a.b2) := rfl
  have e9 : a.cs[9]? = some (.int .i64 a.b3) := rfl
  have e10 : a.cs[10]? = some (.slice a.sA a.sn a.sc) := rfl
  have e11 : a.cs[11]? = some (.slice a.eA a.en a.ec) := rfl
  have HF := Lib.hid (fun W => fits_any a.rx a.ry W)
  have HL := Lib.hid (fun W => within_q a.lab 0 7 W)
  by_cases hr : a.rid = 0
  · have hd : Hid (decide (a.rid = 0) = true) := decide_eq_true hr
    go_enter Try.func34, Try.ntmps34
    go_wp2_with fail
    refine (HF.out _).mono ?_
    rintro e w2 ⟨rfl, hb2⟩
    have HB2 := Lib.hid (below_trans HB0.out hb2)
    have h5 := Lib.hid (((Blk.new w TA a.cs).thru0 hb2).cell 5)
    obtain ⟨b, hb⟩ : ∃ b, fitsB a.rx a.ry = b := ⟨_, rfl⟩
    rw [hb]
    have HBB := Lib.hid hb
    clear hb hb2
    have h5' := h5.out
    simp only [e5] at h5'
    cases b
    case false =>
      go_wp2_with fail
      go_ret
      exact ⟨by rw [hd.out, HBB.out]; rfl, HB2.out⟩
    case true =>
      go_wp2_with fail
      refine (HL.out _).mono ?_
      rintro e w3 ⟨rfl, hw3⟩
      subst hw3
      go_wp2_with fail
      go_ret
      exact ⟨by rw [hd.out, HBB.out]; rfl, HB2.out⟩
  · have hd : Hid (decide (a.rid = 0) = false) := decide_eq_false hr
    go_enter Try.func34, Try.ntmps34
    go_wp2_with fail
    go_ret
    exact ⟨by rw [hd.out]; rfl, HB0.out⟩
/-- What an operation's answer has may be. -/
def holdsB (op m : Int) (a : An) (L : List Snt) (M : List Evt) : Bool :=
  if op = 12 then decide (a.rid = 0) && (fitsB a.rx a.ry && withinB a.lab 0 7)
  else if op = 10 then rightB a.b0 a.b1 a.b2 a.b3
  else if op = 13 ∨ op = 14 ∨ op = 15 ∨ op = 16 then decide ((a.sn : Int) ≤ m) && L.all snB
  else if op = 17 ∨ op = 18 then decide ((a.en : Int) ≤ m) && M.all evB
  else true
/-- An answer, what an operation's answer has taken out of it. -/
def outA (op : Int) (a : An) : An :=
  if op = 4 ∨ op = 5 then { a with sec := 0 }
  else if op = 12 then { a with rid := 0, rx := 0, ry := 0, lab := 0 }
  else if op = 10 then { a with b0 := 0, b1 := 0, b2 := 0, b3 := 0 }
  else if op = 13 ∨ op = 14 ∨ op = 15 ∨ op = 16 then { a with sA := none, sn := 0, sc := 0 }
  else if op = 17 ∨ op = 18 then { a with eA := none, en := 0, ec := 0 }
  else a
/-- The rows of an answer. -/
structure AnR (w : World) (a : An) (L : List Snt) (M : List Evt) : Prop where
  seen : ERd elOS w (.slice a.sA a.sn a.sc) L
  evs : ERd elOE w (.slice a.eA a.en a.ec) M
  sl : L.length = a.sn
  el : M.length = a.en
  sm : L.length ≤ 9223372036854775807
  em : M.length ≤ 9223372036854775807
theorem AnR.below {w w' : World} {a : An} {L : List Snt} {M : List Evt} (h : AnR w a L M) (hb : Below w.heap.size w w') : AnR w' a L M := ⟨h.seen.below hb, h.evs.below hb, h.sl, h.el, h.sm, h.em⟩
theorem holds_all (w : World) (op m : Int) (a : An) (L : List Snt) (M : List Evt) (h : AnR w a L M) :
    Calls Try.prog 34 #[.int .i64 op, .int .i64 m, .agg a.cs] w fun e w' => e = .returned (.bool (holdsB op m a L M)) ∧ Below w.heap.size w w' := by
  unfold holdsB
  by_cases h12 : op = 12
  · subst h12; rw [if_pos rfl]; exact holds_where w m a
  · by_cases h10 : op = 10
    · subst h10; rw [if_neg (by decide), if_pos rfl]; exact holds_publish w m a
    · rw [if_neg h12, if_neg h10]
      by_cases hs : op = 13 ∨ op = 14 ∨ op = 15 ∨ op = 16
      · rw [if_pos hs]; exact holds_seen w op m a L hs h.seen h.sl h.sm
      · rw [if_neg hs]
        by_cases he : op = 17 ∨ op = 18
        · rw [if_pos he]; exact holds_events w op m a M he h.evs h.el h.em
        · rw [if_neg he]
          exact holds_else w op m a h12 h10 (by omega) (by omega) (by omega) (by omega) (by omega) (by omega)
theorem without_all (w : World) (op : Int) (a : An) :
    Calls Try.prog 35 #[.int .i64 op, .agg a.cs] w fun e w' => e = .returned (.agg (outA op a).cs) ∧ Below w.heap.size w w' := by
  unfold outA
  by_cases h4 : op = 4 ∨ op = 5
  · rw [if_pos h4]; exact without_secret w op a h4
  · rw [if_neg h4]
    by_cases h12 : op = 12
    · rw [if_pos h12]; exact without_where w op a h12
    · rw [if_neg h12]
      by_cases h10 : op = 10
      · rw [if_pos h10]; exact without_box w op a h10
      · rw [if_neg h10]
        by_cases hs : op = 13 ∨ op = 14 ∨ op = 15 ∨ op = 16
        · rw [if_pos hs]; exact without_seen w op a hs
        · rw [if_neg hs]
          by_cases he : op = 17 ∨ op = 18
          · rw [if_pos he]; exact without_events w op a he
          · rw [if_neg he]
            exact without_else w op a (by omega) (by omega) h10 h12 (by omega) (by omega) (by omega) (by omega) (by omega) (by omega)
def restB (op m : Int) (a : An) (L : List Snt) (M : List Evt) : Bool := if a.st = 0 then holdsB op m a L M && bareB (outA op a) else bareB a
/-- What may be an answer to op. -/
def mayB (op m : Int) (a : An) (L : List Snt) (M : List Evt) : Bool :=
  opB op && (mB m && (withinB a.st 0 12 && restB op m a L M))
end Go.Proofs.Ytmapcdmegkfheaa
