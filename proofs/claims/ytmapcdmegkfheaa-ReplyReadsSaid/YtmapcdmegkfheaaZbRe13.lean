/- reply: Fits of any answer, by contract. -/
import Derived.Test.YtmapcdmegkfheaaZbRe12
namespace Go.Proofs.Ytmapcdmegkfheaa
set_option linter.unusedVariables false
set_option linter.unusedSimpArgs false
open Go.RowKit
set_option maxRecDepth 100000 in
set_option maxHeartbeats 4000000 in
theorem rfits_any (w : World) (op m : Int) (a : An) (L : List Snt) (M : List Evt) (h : AnR w a L M) :
    Calls Try.prog 16 #[.int .i64 op, .int .i64 m, .agg a.cs] w fun e w' => e = .returned (.bool (mayB op m a L M)) ∧ Below w.heap.size w w' := by
  have HB0 := Lib.hid (show Below w.heap.size w (w.alloc (.cells a.cs TA)) from (Below.refl _ _).alloc (Nat.le_refl _) _)
  have e0 : a.cs[0]? = some (.int .i64 a.st) := rfl
  have e1 : a.cs[1]? = some (.int .u64 (a.sec : Int)) := rfl
  have e2 : a.cs[2]? = some (.int .i64 a.rid) := rfl
  have e3 : a.cs[3]? = some (.int .i64 a.rx) := rfl
  have e4 : a.cs[4]? = some (.int .i64 a.ry) := rfl
  have e5 : a.cs[5]? = some (.int .i64 a.lab) := rfl
  have e6 : a.cs[6]? = some (.int .i64 a.b0) := rfl
  have e7 : a.cs[7]? = some (.int .i64 a.b1) := rfl
  have e8 : a.cs[8]? = some (.int .i64 a.b2) := rfl
  have e9 : a.cs[9]? = some (.int .i64 a.b3) := rfl
  have e10 : a.cs[10]? = some (.slice a.sA a.sn a.sc) := rfl
  have e11 : a.cs[11]? = some (.slice a.eA a.en a.ec) := rfl
  have HT := Lib.hid (fun W => rthere_any op W)
  have HM := Lib.hid (fun W => bound_any m W)
  have HS := Lib.hid (fun W => within_q a.st 0 12 W)
  have HBA := Lib.hid (fun W => bare_any W a)
  have HBO := Lib.hid (fun W => bare_any W (outA op a))
  have HH := Lib.hid (fun W (hW : Below w.heap.size w W) => holds_all W op m a L M (h.below hW))
  have HW := Lib.hid (fun W => without_all W op a)
  have HK := Lib.hid (Blk.new w TA a.cs)
  have HE : Hid (mayB op m a L M = (opB op && (mB m && (withinB a.st 0 12 && restB op m a L M)))) := Lib.hid rfl
  rw [HE.out]
  clear h HE
  generalize opB op = c1 at *
  generalize mB m = c2 at *
  generalize withinB a.st 0 12 = c3 at *
  cases c1
  case false =>
    go_enter Try.func16, Try.ntmps16
    go_wp2_with fail
    refine (HT.out _).mono ?_
    rintro e w2 ⟨rfl, rfl⟩
    go_wp2_with fail
    go_ret
    exact ⟨rfl, HB0.out⟩
  case true =>
  cases c2
  case false =>
    go_enter Try.func16, Try.ntmps16
    go_wp2_with fail
    refine (HT.out _).mono ?_
    rintro e w2 ⟨rfl, rfl⟩
    go_wp2_with fail
    refine (HM.out _).mono ?_
    rintro e w2 ⟨rfl, rfl⟩
    go_wp2_with fail
    go_ret
    exact ⟨rfl, HB0.out⟩
  case true =>
  cases c3
  case false =>
    go_enter Try.func16, Try.ntmps16
    go_wp2_with fail
    refine (HT.out _).mono ?_
    rintro e w2 ⟨rfl, rfl⟩
    go_wp2_with fail
    refine (HM.out _).mono ?_
    rintro e w2 ⟨rfl, rfl⟩
    go_wp2_with fail
    refine (HS.out _).mono ?_
    rintro e w2 ⟨rfl, rfl⟩
    go_wp2_with fail
    go_ret
    exact ⟨rfl, HB0.out⟩
  case true =>
  by_cases hst : a.st = 0
  · rw [show restB op m a L M = (holdsB op m a L M && bareB (outA op a)) from by unfold restB; rw [if_pos hst]]
    clear e0 e1 e2 e3 e4 e5 e6 e7 e8 e9 e10 e11
    generalize holdsB op m a L M = c4 at *
    generalize outA op a = o at *
    generalize bareB o = c5 at *
    obtain ⟨st, sec, rid, rx, ry, lab, b0, b1, b2, b3, sA, sn, sc, eA, en, ec⟩ := a
    simp only at hst
    subst hst
    have hcs : An.cs ⟨0, sec, rid, rx, ry, lab, b0, b1, b2, b3, sA, sn, sc, eA, en, ec⟩ = #[.int .i64 0, .int .u64 (sec : Int), .int .i64 rid, .int .i64 rx, .int .i64 ry, .int .i64 lab, .int .i64 b0, .int .i64 b1, .int .i64 b2, .int .i64 b3, .slice sA sn sc, .slice eA en ec] := rfl
    simp only [hcs] at *
    clear hcs HBA
    go_enter Try.func16, Try.ntmps16
    go_wp2_with fail
    refine (HT.out _).mono ?_
    rintro e w2 ⟨rfl, rfl⟩
    go_wp2_with fail
    refine (HM.out _).mono ?_
    rintro e w2 ⟨rfl, rfl⟩
    go_wp2_with fail
    refine (HS.out _).mono ?_
    rintro e w2 ⟨rfl, rfl⟩
    go_wp2_with fail
    refine (HH.out _ HB0.out).mono ?_
    rintro e w2 ⟨rfl, hb2⟩
    have HB2 := Lib.hid (below_trans HB0.out hb2)
    cases c4
    case false =>
      clear hb2
      go_wp2_with fail
      go_ret
      exact ⟨rfl, HB2.out⟩
    case true =>
      have k0 := (HK.out.thru0 hb2).cell 0
      have k1 := (HK.out.thru0 hb2).cell 1
      have k2 := (HK.out.thru0 hb2).cell 2
      have k3 := (HK.out.thru0 hb2).cell 3
      have k4 := (HK.out.thru0 hb2).cell 4
      have k5 := (HK.out.thru0 hb2).cell 5
      have k6 := (HK.out.thru0 hb2).cell 6
      have k7 := (HK.out.thru0 hb2).cell 7
      have k8 := (HK.out.thru0 hb2).cell 8
      have k9 := (HK.out.thru0 hb2).cell 9
      have k10 := (HK.out.thru0 hb2).cell 10
      have k11 := (HK.out.thru0 hb2).cell 11
      simp only [List.getElem?_toArray, List.getElem?_cons_zero, List.getElem?_cons_succ] at k0 k1 k2 k3 k4 k5 k6 k7 k8 k9 k10 k11
      clear hb2
      go_wp2_with fail
      refine (HW.out _).mono ?_
      rintro e w3 ⟨rfl, hb3⟩
      have HB3 := Lib.hid (below_trans HB2.out hb3)
      clear hb3 k0 k1 k2 k3 k4 k5 k6 k7 k8 k9 k10 k11
      go_wp2_with fail
      refine (HBO.out _).mono ?_
      rintro e w4 ⟨rfl, hb4⟩
      have HB4 := Lib.hid (below_trans HB3.out hb4)
      clear hb4
      go_wp2_with fail
      go_ret
      exact ⟨rfl, HB4.out⟩
  · rw [show restB op m a L M = bareB a from by unfold restB; rw [if_neg hst]]
    go_enter Try.func16, Try.ntmps16
    go_wp2_with fail
    refine (HT.out _).mono ?_
    rintro e w2 ⟨rfl, rfl⟩
    go_wp2_with fail
    refine (HM.out _).mono ?_
    rintro e w2 ⟨rfl, rfl⟩
    go_wp2_with fail
    refine (HS.out _).mono ?_
    rintro e w2 ⟨rfl, rfl⟩
    go_wp2_with fail
    refine (HBA.out _).mono ?_
    rintro e w2 ⟨rfl, hb2⟩
    have HB2 := Lib.hid (below_trans HB0.out hb2)
    clear hb2
    go_wp2_with fail
    go_ret
    exact ⟨rfl, HB2.out⟩
end Go.Proofs.Ytmapcdmegkfheaa
