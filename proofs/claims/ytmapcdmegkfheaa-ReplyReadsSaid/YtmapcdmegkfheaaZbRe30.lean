/- reply: answers that are the same are told so, by contract. -/
import Derived.Test.YtmapcdmegkfheaaZbRe13
import Derived.Deep.Cut
namespace Go.Proofs.Ytmapcdmegkfheaa
set_option linter.unusedVariables false
set_option linter.unusedSimpArgs false
open Go.RowKit
theorem four_self (a b c d : Int) : four a b c d a b c d = true := by simp [four]
section
attribute [local go_sem ↓] rq_rec rq_rect0
set_option maxRecDepth 100000 in
set_option maxHeartbeats 8000000 in
theorem rsame_ans (w : World) (a : An) (L : List Snt) (M : List Evt) (tA : Option Addr) (tc : Nat) (fA : Option Addr) (fc : Nat) (h : AnR w a L M) (h2 : ERd elOS w (.slice tA a.sn tc) L) (h3 : ERd elOE w (.slice fA a.en fc) M) :
    Calls Try.prog 19 #[.agg a.cs, .agg ({ a with sA := tA, sc := tc, eA := fA, ec := fc } : An).cs] w fun e w' => e = .returned (.bool true) ∧ Below w.heap.size w w' := by
  obtain ⟨sn, hsn⟩ : ∃ n, n = a.sn := ⟨_, rfl⟩
  obtain ⟨en, hen⟩ : ∃ n, n = a.en := ⟨_, rfl⟩
  obtain ⟨sA, hsA⟩ : ∃ n, n = a.sA := ⟨_, rfl⟩
  obtain ⟨eA, heA⟩ : ∃ n, n = a.eA := ⟨_, rfl⟩
  have hca : a.cs = #[.int .i64 a.st, .int .u64 (a.sec : Int), .int .i64 a.rid, .int .i64 a.rx, .int .i64 a.ry, .int .i64 a.lab, .int .i64 a.b0, .int .i64 a.b1, .int .i64 a.b2, .int .i64 a.b3, .slice sA sn a.sc, .slice eA en a.ec] := by rw [hsA, heA, hsn, hen]; rfl
  have hcb : ({ a with sA := tA, sc := tc, eA := fA, ec := fc } : An).cs = #[.int .i64 a.st, .int .u64 (a.sec : Int), .int .i64 a.rid, .int .i64 a.rx, .int .i64 a.ry, .int .i64 a.lab, .int .i64 a.b0, .int .i64 a.b1, .int .i64 a.b2, .int .i64 a.b3, .slice tA sn tc, .slice fA en fc] := by rw [hsn, hen]; rfl
  rw [hca, hcb]
  obtain ⟨W, hW⟩ : ∃ W, W = (w.alloc (.cells #[.int .i64 a.st, .int .u64 (a.sec : Int), .int .i64 a.rid, .int .i64 a.rx, .int .i64 a.ry, .int .i64 a.lab, .int .i64 a.b0, .int .i64 a.b1, .int .i64 a.b2, .int .i64 a.b3, .slice sA sn a.sc, .slice eA en a.ec] TA)).alloc (.cells #[.int .i64 a.st, .int .u64 (a.sec : Int), .int .i64 a.rid, .int .i64 a.rx, .int .i64 a.ry, .int .i64 a.lab, .int .i64 a.b0, .int .i64 a.b1, .int .i64 a.b2, .int .i64 a.b3, .slice tA sn tc, .slice fA en fc] TA) := ⟨_, rfl⟩
  have hb0 : Below w.heap.size w W := by rw [hW]; exact ((Below.refl _ _).alloc (Nat.le_refl _) _).alloc (by simp) _
  have K1 : Blk W w.heap.size TA #[.int .i64 a.st, .int .u64 (a.sec : Int), .int .i64 a.rid, .int .i64 a.rx, .int .i64 a.ry, .int .i64 a.lab, .int .i64 a.b0, .int .i64 a.b1, .int .i64 a.b2, .int .i64 a.b3, .slice sA sn a.sc, .slice eA en a.ec] := by rw [hW]; exact (Blk.new w TA _).alloc _
  have K2 : Blk W (w.heap.size + 1) TA #[.int .i64 a.st, .int .u64 (a.sec : Int), .int .i64 a.rid, .int .i64 a.rx, .int .i64 a.ry, .int .i64 a.lab, .int .i64 a.b0, .int .i64 a.b1, .int .i64 a.b2, .int .i64 a.b3, .slice tA sn tc, .slice fA en fc] := by rw [hW]; exact Blk.newAt (by simp)
  have HB0 := Lib.hid hb0
  have HRA : Hid (ERd elOS W (.slice sA sn a.sc) L) := Lib.hid (by rw [hsA, hsn]; exact h.seen.below hb0)
  have HRB : Hid (ERd elOS W (.slice tA sn tc) L) := Lib.hid (by rw [hsn]; exact h2.below hb0)
  have HEA : Hid (ERd elOE W (.slice eA en a.ec) M) := Lib.hid (by rw [heA, hen]; exact h.evs.below hb0)
  have HEB : Hid (ERd elOE W (.slice fA en fc) M) := Lib.hid (by rw [hen]; exact h3.below hb0)
  have HN1 : Hid (sn = L.length) := Lib.hid (hsn.trans h.sl.symm)
  have HN2 : Hid (en = M.length) := Lib.hid (hen.trans h.el.symm)
  have hq1 : sn ≤ 9223372036854775807 := by rw [HN1.out]; exact h.sm
  have hq2 : en ≤ 9223372036854775807 := by rw [HN2.out]; exact h.em
  have hWs := hW.symm
  clear hW hb0 h h2 h3 hsn hen hsA heA hca hcb
  have s0 := K1.cell 0
  have s1 := K1.cell 1
  have s2 := K1.cell 2
  have s3 := K1.cell 3
  have s4 := K1.cell 4
  have s5 := K1.cell 5
  have s6 := K1.cell 6
  have s7 := K1.cell 7
  have s8 := K1.cell 8
  have s9 := K1.cell 9
  have s10 := K1.cell 10
  have s11 := K1.cell 11
  simp only [List.getElem?_toArray, List.getElem?_cons_zero, List.getElem?_cons_succ] at s0 s1 s2 s3 s4 s5 s6 s7 s8 s9 s10 s11
  have t0 := K2.cell 0
  have t1 := K2.cell 1
  have t2 := K2.cell 2
  have t3 := K2.cell 3
  have t4 := K2.cell 4
  have t5 := K2.cell 5
  have t6 := K2.cell 6
  have t7 := K2.cell 7
  have t8 := K2.cell 8
  have t9 := K2.cell 9
  have t10 := K2.cell 10
  have t11 := K2.cell 11
  simp only [List.getElem?_toArray, List.getElem?_cons_zero, List.getElem?_cons_succ] at t0 t1 t2 t3 t4 t5 t6 t7 t8 t9 t10 t11
  have KA1 := Lib.hid s10
  have KB1 := Lib.hid t10
  have KA2 := Lib.hid s11
  have KB2 := Lib.hid t11
  have f1 := four_self a.rid a.rx a.ry a.lab
  have f2 := four_self a.b0 a.b1 a.b2 a.b3
  have e20 : (a.st == a.st) = true := by simp
  have e21 : ((a.sec : Int) == (a.sec : Int)) = true := by simp
  clear K1 K2
  go_enter Try.func19, Try.ntmps19
  go_wp2_with fail
  clear s0 s1 s2 s3 s4 s5 s6 s7 s8 s9 s10 s11 t0 t1 t2 t3 t4 t5 t6 t7 t8 t9 t10 t11 hWs
  go_loopw [5] (fun i wr => ∃ k : Nat, k ≤ sn ∧ i = .int .i64 k ∧ Hid (Below W.heap.size W wr)) (fun i _ => sn - (intOf i).toNat)
  case atStart => exact ⟨0, Nat.zero_le _, rfl, Below.refl _ _⟩
  case round =>
    rename World => wr
    obtain ⟨k, hk, rfl, HQ⟩ := hrel
    have ca := cell_later HQ.out KA1.out
    have cb := cell_later HQ.out KB1.out
    by_cases hlt : k < sn
    · have hkl : k < L.length := by rw [← HN1.out]; exact hlt
      have hx : L[k]? = some L[k] := List.getElem?_eq_getElem hkl
      obtain ⟨g, o, hg, a0, a1, a2, a3, a4, a5⟩ := elOS_at (HRA.out.below HQ.out) hx
      obtain ⟨g', o', hg', b0, b1, b2, b3, b4, b5⟩ := elOS_at (HRB.out.below HQ.out) hx
      subst hg
      subst hg'
      generalize L[k] = x at *
      clear hx
      obtain ⟨x0, x1, x2, x3, x4, x5⟩ := x
      simp only at a0 a1 a2 a3 a4 a5 b0 b1 b2 b3 b4 b5
      have hlt2 : (k : Int) < sn := by omega
      go_upto_region 6 with fail
      have e0 : (x0 == x0) = true := by simp
      have e1 : (x1 == x1) = true := by simp
      have e2 : (x2 == x2) = true := by simp
      have e3 : (x3 == x3) = true := by simp
      have e4 : (x4 == x4) = true := by simp
      have e5 : (x5 == x5) = true := by simp
      go_region
      clear a0 a1 a2 a3 a4 a5 b0 b1 b2 b3 b4 b5 ca cb
      go_wp2
      go_roundw
      case rel => exact ⟨k + 1, by omega, by go_num, Lib.hid (by have h9 := HQ.out; first | exact below_drawn h9 1 | exact h9)⟩
      case measure => simp [intOf]; omega
    · obtain rfl : k = sn := by omega
      have da := cell_later HQ.out KA2.out
      have db := cell_later HQ.out KB2.out
      have HX := Lib.hid HQ.out
      go_wp2_with fail
      clear ca cb da db
      go_loopw [6] (fun i wr => ∃ k : Nat, k ≤ en ∧ i = .int .i64 k ∧ Hid (Below W.heap.size W wr)) (fun i _ => en - (intOf i).toNat)
      case atStart => exact ⟨0, Nat.zero_le _, rfl, HX⟩
      case round =>
        rename World => wr
        obtain ⟨k, hk, rfl, HQ⟩ := hrel
        have ca := cell_later HQ.out KA2.out
        have cb := cell_later HQ.out KB2.out
        by_cases hlt : k < en
        · have hkl : k < M.length := by rw [← HN2.out]; exact hlt
          have hx : M[k]? = some M[k] := List.getElem?_eq_getElem hkl
          obtain ⟨g, o, hg, a0, a1, a2, a3⟩ := elOE_at (HEA.out.below HQ.out) hx
          obtain ⟨g', o', hg', b0, b1, b2, b3⟩ := elOE_at (HEB.out.below HQ.out) hx
          subst hg
          subst hg'
          generalize M[k] = x at *
          clear hx
          obtain ⟨x0, x1, x2, x3⟩ := x
          simp only at a0 a1 a2 a3 b0 b1 b2 b3
          have hlt2 : (k : Int) < en := by omega
          go_upto_region 11 with fail
          have e0 : (x0 == x0) = true := by simp
          have e1 : (x1 == x1) = true := by simp
          have e2 : (x2 == x2) = true := by simp
          have e3 : (x3 == x3) = true := by simp
          go_region
          clear a0 a1 a2 a3 b0 b1 b2 b3 ca cb
          go_wp2
          go_roundw
          case rel => exact ⟨k + 1, by omega, by go_num, Lib.hid (by have h9 := HQ.out; first | exact below_drawn h9 1 | exact h9)⟩
          case measure => simp [intOf]; omega
        · obtain rfl : k = en := by omega
          go_wp2
          go_ret
          exact ⟨rfl, below_trans HB0.out HQ.out⟩
end
end Go.Proofs.Ytmapcdmegkfheaa
