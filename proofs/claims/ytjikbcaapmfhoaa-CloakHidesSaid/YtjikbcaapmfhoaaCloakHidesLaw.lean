/- CloakHides: (P9.3) a cloak has the point, as many points and as great an area as asked; it is a cell's box or that of two children of one cell. Conditions: none. -/
import Derived.Test.YtjikbcaapmfhoaaCk9
import Derived.Lib.SmallJoins
namespace Go.Proofs.Ytjikbcaapmfhoaa.cloakHides
set_option linter.unusedVariables false
set_option linter.unusedSimpArgs false
open Go.ChangeShapes Go.WideShapes Go.ChangeAt Go.RowKit
open Go.ChangeMaps (open_string shut_string)
theorem below_drew1 {B : Nat} {a w : World} (h : Below B a w) : Below B a w.drew := ⟨h.os, h.tape, h.output, h.size, h.block⟩
theorem shape_in {k : Ck} (ho : okC k.L k.x k.y = true) (h : Shape k) : insB (b0 k.L k.x k.y) (b1 k.L k.x k.y) (b2 k.L k.x k.y) (b3 k.L k.x k.y) k.a k.b k.c k.d = true := by
  rcases h with ⟨_, h0, h1, h2, h3⟩ | ⟨_, _, h, _⟩
  · have hr := (rightB_iff _ _ _ _).1 (cbox_right _ _ _ ho)
    rw [h0, h1, h2, h3]
    simp only [insB, decide_eq_true_eq]
    omega
  · exact h
theorem area_bd (a b c d : Int) : 0 ≤ areaU a b c d ∧ areaU a b c d ≤ 4294967296 := by
  unfold areaU
  split
  · rename_i h
    rw [rightB_iff] at h
    exact mul_bd (c - a + 1) (d - b + 1) (by omega) (by omega) (by omega) (by omega)
  · omega
def Two_ (w0 : World) (px py K A : Int) (W : World) : Prop := Blk W w0.heap.size 24 #[.int .i64 px, .int .i64 py] ∧ Blk W (w0.heap.size + 1) 27 #[.int .i64 K, .int .u64 A]
theorem Two_.below {w0 W X : World} {px py K A : Int} (h : Two_ w0 px py K A W) (hb : Below W.heap.size W X) : Two_ w0 px py K A X := ⟨h.1.thru0 hb, h.2.thru0 hb⟩
attribute [local go_sem] eq_rectV
set_option maxRecDepth 100000 in
set_option maxHeartbeats 8000000 in
theorem walk (a : Option Addr) (len cap0 : Nat) (px py K A : Int) (w : World) (h : IsSl w 2 (PntOk w) a len cap0) (c0 : -9223372036854775808 ≤ px ∧ px ≤ 9223372036854775807) (c1 : -9223372036854775808 ≤ py ∧ py ≤ 9223372036854775807) (c2 : -9223372036854775808 ≤ K ∧ K ≤ 9223372036854775807) (c3 : 0 ≤ A ∧ A ≤ 18446744073709551615) :
    Calls Try.prog 4 #[.slice a len cap0, .agg #[.int .i64 px, .int .i64 py], .agg #[.int .i64 K, .int .u64 A]] w fun e w' => e = .returned (.bool true) ∧ Below w.heap.size w w' := by
  have hlc := h.le
  obtain ⟨hlc1, hlc2⟩ := hlc
  unfold maxLen at hlc2
  obtain ⟨S, hS⟩ := rd_of h
  clear h c0 c1 c2 c3
  have hA : Below w.heap.size w ((w.alloc (.cells #[.int .i64 px, .int .i64 py] 24)).alloc (.cells #[.int .i64 K, .int .u64 A] 27)) := ((Below.refl _ _).alloc (Nat.le_refl _) _).alloc (by simp) _
  have HK : Hid (Two_ w px py K A ((w.alloc (.cells #[.int .i64 px, .int .i64 py] 24)).alloc (.cells #[.int .i64 K, .int .u64 A] 27))) := Lib.hid (blk_two w 24 27 #[.int .i64 px, .int .i64 py] #[.int .i64 K, .int .u64 A])
  have HR := Lib.hid (hS.below hA)
  have HA := Lib.hid hA
  clear hS hA
  by_cases hbig : 60 < len
  · have hbi : (60 : Int) < (len : Int) := by omega
    go_enter Try.func4, Try.ntmps4
    go_wp2_with fail
    refine (built_big a len cap0 _ hbig).mono ?_
    rintro e w1 ⟨rfl, hb1⟩
    have HB := Lib.hid (below_trans HA.out hb1)
    clear hb1
    go_wp2_with fail
    refine (ckknown_any _).mono ?_
    rintro e w5 ⟨rfl, hb5⟩
    have HB5 := Lib.hid (below_trans HB.out hb5)
    clear hb5
    go_wp2
    go_ret
    exact ⟨rfl, HB5.out⟩
  · have hbi : (len : Int) ≤ 60 := by omega
    have HBT := Lib.hid (built_any a len cap0 S _ HR.out (by omega))
    have hlen := haveK_len S len
    have hfit := haveK_fit S len
    go_enter Try.func4, Try.ntmps4
    go_wp2_with fail
    refine HBT.out.mono ?_
    rintro e w1 ⟨y, cs, A1, c1', rfl, hp⟩
    have HB1 := Lib.hid (below_trans HA.out hp.2.2.1)
    have HPY := Lib.hid hp.1
    have HRD := Lib.hid hp.2.1.rd
    replace HK := Lib.hid (HK.out.below hp.2.2.1)
    clear hp HBT HR HA
    have HL : Hid ((haveK S len).length ≤ 500000) := Lib.hid (by omega)
    have HF := Lib.hid hfit
    clear hlen hfit
    generalize haveK S len = H at *
    have p0 := HK.out.1.cell 0
    have p1 := HK.out.1.cell 1
    have f0 := HK.out.2.cell 0
    have f1 := HK.out.2.cell 1
    simp only [List.getElem?_toArray, List.getElem?_cons_zero, List.getElem?_cons_succ] at p0 p1 f0 f1
    have HHI := Lib.hid (hides HF.out (K := K) (A := A) (px := px) (py := py))
    have HFA := Lib.hid (find_any y cs H (17 * len) px py K A w1 HPY.out HL.out)
    unfold FindP at HFA
    go_wp2_with fail
    refine HFA.out.mono ?_
    rintro e w2 ⟨rfl, hb2⟩
    generalize (findK H K A px py).getD ck0 = ka at *
    generalize findE H K A px py = ea at *
    have hA2 : Below w2.heap.size w2 (w2.alloc (.cells #[.int .i64 ka.a, .int .i64 ka.b, .int .i64 ka.c, .int .i64 ka.d, .int .i64 ka.L, .int .i64 ka.x, .int .i64 ka.y, .int .i64 ka.kd, .int .i64 ka.n] 37)) := (Below.refl _ _).alloc (Nat.le_refl _) _
    have HB2 := Lib.hid (below_trans (below_trans HB1.out hb2) hA2)
    replace HK := Lib.hid ((HK.out.below hb2).below hA2)
    replace HRD := Lib.hid ((HRD.out.below hb2).below hA2)
    have HQ := Lib.hid (Blk.new w2 37 #[.int .i64 ka.a, .int .i64 ka.b, .int .i64 ka.c, .int .i64 ka.d, .int .i64 ka.L, .int .i64 ka.x, .int .i64 ka.y, .int .i64 ka.kd, .int .i64 ka.n])
    clear hb2 hA2 HFA HPY HB1
    clear p0 p1 f0 f1
    have p0 := HK.out.1.cell 0
    have p1 := HK.out.1.cell 1
    have f0 := HK.out.2.cell 0
    have f1 := HK.out.2.cell 1
    simp only [List.getElem?_toArray, List.getElem?_cons_zero, List.getElem?_cons_succ] at p0 p1 f0 f1
    unfold Ck.val
    go_upto_region 5 with fail
    generalize hp9 : w2.heap.size = p9 at *
    generalize (w2.alloc (.cells #[.int .i64 ka.a, .int .i64 ka.b, .int .i64 ka.c, .int .i64 ka.d, .int .i64 ka.L, .int .i64 ka.x, .int .i64 ka.y, .int .i64 ka.kd, .int .i64 ka.n] 37)) = W at *
    by_cases h0 : ea = 0
    · subst h0
      obtain ⟨i1, i2, i3, i4, i5, i6⟩ := HHI.out rfl
      clear HHI
      have HHP := Lib.hid (ref_has ka.a ka.b ka.c ka.d px py)
      rw [i1] at HHP
      have HHS := Lib.hid (fun W' hW => rhas_any A1 H.length c1' H ka.a ka.b ka.c ka.d W' (HRD.out.below hW) (by have := HL.out; omega))
      have HAR := Lib.hid (rarea_u ka.a ka.b ka.c ka.d)
      generalize hasN ka.a ka.b ka.c ka.d H = hn at *
      have HOK := Lib.hid i5
      have HSH := Lib.hid i6
      have q8 : W.cell? ⟨p9, 8, none⟩ = some (.int .i64 (hn : Int)) := by rw [← i3]; exact HQ.out.cell 8
      have q0 : W.cell? ⟨p9, 0, none⟩ = some (.int .i64 ka.a) := HQ.out.cell 0
      have q1 : W.cell? ⟨p9, 1, none⟩ = some (.int .i64 ka.b) := HQ.out.cell 1
      have q2 : W.cell? ⟨p9, 2, none⟩ = some (.int .i64 ka.c) := HQ.out.cell 2
      have q3 : W.cell? ⟨p9, 3, none⟩ = some (.int .i64 ka.d) := HQ.out.cell 3
      have dK : decide ((hn : Int) < K) = false := decide_eq_false (by omega)
      have nK : ¬ (hn : Int) < K := by omega
      have HAA := Lib.hid i4
      clear i1 i2 i3 i4 i5 i6
      generalize harr : areaU ka.a ka.b ka.c ka.d = ar at *
      have nA : ¬ ar < A := by have := HAA.out; omega
      have dA : decide (ar < A) = false := decide_eq_false nA
      have HARR := Lib.hid harr
      clear harr
      have hbW := Below.refl W.heap.size W
      generalize hp5 : w.heap.size + 1 = p5 at *
      generalize hp4 : w.heap.size = p4 at *
      go_upto_region 7 with fail
      go_cut [70] (fun s70 wx => s70 = .bool false ∧ Hid (Below W.heap.size W wx))
      case first =>
        go_region_held3 (fun w' => w'.cell? ⟨p4, 0, none⟩ = some (.int .i64 px) ∧ w'.cell? ⟨p4, 1, none⟩ = some (.int .i64 py) ∧ w'.cell? ⟨p5, 0, none⟩ = some (.int .i64 K) ∧ w'.cell? ⟨p5, 1, none⟩ = some (.int .u64 A) ∧ w'.cell? ⟨p9, 0, none⟩ = some (.int .i64 ka.a) ∧ w'.cell? ⟨p9, 1, none⟩ = some (.int .i64 ka.b) ∧ w'.cell? ⟨p9, 2, none⟩ = some (.int .i64 ka.c) ∧ w'.cell? ⟨p9, 3, none⟩ = some (.int .i64 ka.d) ∧ w'.cell? ⟨p9, 8, none⟩ = some (.int .i64 (hn : Int)) ∧ Below W.heap.size W w') (first | (refine ⟨?_, ?_, ?_, ?_, ?_, ?_, ?_, ?_, ?_, ?_⟩ <;> first | assumption | (exact cell_later (by assumption) (by assumption)) | (exact below_drew1 (by assumption)) | (exact below_trans (by assumption) (by assumption))) | (go_split_ands; refine ⟨?_, ?_, ?_, ?_, ?_, ?_, ?_, ?_, ?_, ?_⟩ <;> first | (exact cell_later (by assumption) (by assumption)) | (exact below_trans (by assumption) (by assumption)) | go_keep))
          (first
            | (go_at_call 15; refine (HHP.out _).mono ?_; rintro e w9 ⟨rfl, hb9⟩)
            | (go_at_call 16; refine (HHS.out _ (by first | assumption | (go_split_ands; assumption))).mono ?_; rintro e w9 ⟨rfl, hb9⟩)
            | (go_at_call 17; refine (HAR.out _).mono ?_; rintro e w9 ⟨rfl, hb9⟩))
        all_goals
          go_split_ands
          go_wp2
          go_meet
          exact ⟨rfl, Lib.hid (by assumption)⟩
      case rest =>
        obtain ⟨rfl, HBW⟩ := hcut
        have HQ2 := Lib.hid (HQ.out.thru0 HBW.out)
        have k4 : wc.cell? ⟨p9, 4, none⟩ = some (.int .i64 ka.L) := HQ2.out.cell 4
        have k5 : wc.cell? ⟨p9, 5, none⟩ = some (.int .i64 ka.x) := HQ2.out.cell 5
        have k6 : wc.cell? ⟨p9, 6, none⟩ = some (.int .i64 ka.y) := HQ2.out.cell 6
        clear q0 q1 q2 q3 q8
        have HBX := Lib.hid (rbox_u ka.L ka.x ka.y)
        rw [HOK.out] at HBX
        have HIN := Lib.hid (ref_in (b0 ka.L ka.x ka.y) (b1 ka.L ka.x ka.y) (b2 ka.L ka.x ka.y) (b3 ka.L ka.x ka.y) ka.a ka.b ka.c ka.d)
        rw [shape_in HOK.out HSH.out] at HIN
        have HSP := Lib.hid (show (ka.kd = 0 ∧ (ka.a == b0 ka.L ka.x ka.y) = true ∧ (ka.b == b1 ka.L ka.x ka.y) = true ∧ (ka.c == b2 ka.L ka.x ka.y) = true ∧ (ka.d == b3 ka.L ka.x ka.y) = true) ∨ (ka.kd ≠ 0 ∧ okB ka.L ka.x ka.y = true ∧ insB ka.a ka.b ka.c ka.d (b0 (ka.L - 1) (ka.x / 2) (ka.y / 2)) (b1 (ka.L - 1) (ka.x / 2) (ka.y / 2)) (b2 (ka.L - 1) (ka.x / 2) (ka.y / 2)) (b3 (ka.L - 1) (ka.x / 2) (ka.y / 2)) = true ∧ ar = 2 * areaU (b0 ka.L ka.x ka.y) (b1 ka.L ka.x ka.y) (b2 ka.L ka.x ka.y) (b3 ka.L ka.x ka.y)) from by
          rcases HSH.out with ⟨e, e0, e1, e2, e3⟩ | ⟨e, e0, _, e1, e2⟩
          · exact .inl ⟨e, beq_iff_eq.2 e0, beq_iff_eq.2 e1, beq_iff_eq.2 e2, beq_iff_eq.2 e3⟩
          · exact .inr ⟨e, e0, e1, by rw [← HARR.out]; exact e2⟩)
        have HA2 := Lib.hid (rarea_u (b0 ka.L ka.x ka.y) (b1 ka.L ka.x ka.y) (b2 ka.L ka.x ka.y) (b3 ka.L ka.x ka.y))
        have HAB := Lib.hid (area_bd (b0 ka.L ka.x ka.y) (b1 ka.L ka.x ka.y) (b2 ka.L ka.x ka.y) (b3 ka.L ka.x ka.y))
        clear HARR HSH
        generalize areaU (b0 ka.L ka.x ka.y) (b1 ka.L ka.x ka.y) (b2 ka.L ka.x ka.y) (b3 ka.L ka.x ka.y) = ab at *
        generalize b0 ka.L ka.x ka.y = r0 at *
        generalize b1 ka.L ka.x ka.y = r1 at *
        generalize b2 ka.L ka.x ka.y = r2 at *
        generalize b3 ka.L ka.x ka.y = r3 at *
        go_wp2_with fail
        refine (HBX.out _).mono ?_
        rintro e w3 ⟨rfl, hb3⟩
        have hA3 : Below w3.heap.size w3 (w3.alloc (.cells #[.int .i64 r0, .int .i64 r1, .int .i64 r2, .int .i64 r3] 33)) := (Below.refl _ _).alloc (Nat.le_refl _) _
        have HB3 := Lib.hid (below_trans (below_trans HBW.out hb3) hA3)
        have HQ3 := Lib.hid ((HQ2.out.thru0 hb3).thru0 hA3)
        have HX3 := Lib.hid (Blk.new w3 33 #[.int .i64 r0, .int .i64 r1, .int .i64 r2, .int .i64 r3])
        clear hb3 hA3 k4 k5 k6 HQ2 HBX
        go_upto_region 10 with fail
        generalize hp11 : w3.heap.size = p11 at *
        generalize (w3.alloc (.cells #[.int .i64 r0, .int .i64 r1, .int .i64 r2, .int .i64 r3] 33)) = W3 at *
        have k0 : W3.cell? ⟨p9, 0, none⟩ = some (.int .i64 ka.a) := HQ3.out.cell 0
        have k1 : W3.cell? ⟨p9, 1, none⟩ = some (.int .i64 ka.b) := HQ3.out.cell 1
        have k2 : W3.cell? ⟨p9, 2, none⟩ = some (.int .i64 ka.c) := HQ3.out.cell 2
        have k3 : W3.cell? ⟨p9, 3, none⟩ = some (.int .i64 ka.d) := HQ3.out.cell 3
        have k4 : W3.cell? ⟨p9, 4, none⟩ = some (.int .i64 ka.L) := HQ3.out.cell 4
        have k5 : W3.cell? ⟨p9, 5, none⟩ = some (.int .i64 ka.x) := HQ3.out.cell 5
        have k6 : W3.cell? ⟨p9, 6, none⟩ = some (.int .i64 ka.y) := HQ3.out.cell 6
        have k7 : W3.cell? ⟨p9, 7, none⟩ = some (.int .i64 ka.kd) := HQ3.out.cell 7
        have m0 : W3.cell? ⟨p11, 0, none⟩ = some (.int .i64 r0) := HX3.out.cell 0
        have m1 : W3.cell? ⟨p11, 1, none⟩ = some (.int .i64 r1) := HX3.out.cell 1
        have m2 : W3.cell? ⟨p11, 2, none⟩ = some (.int .i64 r2) := HX3.out.cell 2
        have m3 : W3.cell? ⟨p11, 3, none⟩ = some (.int .i64 r3) := HX3.out.cell 3
        go_wp2_with fail
        refine (HIN.out _).mono ?_
        rintro e w4 ⟨rfl, hb4⟩
        have HB4 := Lib.hid (below_trans HB3.out hb4)
        have HQ4 := Lib.hid (HQ3.out.thru0 hb4)
        have HX4 := Lib.hid (HX3.out.thru0 hb4)
        clear hb4 HQ3 HX3 k0 k1 k2 k3 k4 k5 k6 k7 m0 m1 m2 m3
        have k0 : w4.cell? ⟨p9, 0, none⟩ = some (.int .i64 ka.a) := HQ4.out.cell 0
        have k1 : w4.cell? ⟨p9, 1, none⟩ = some (.int .i64 ka.b) := HQ4.out.cell 1
        have k2 : w4.cell? ⟨p9, 2, none⟩ = some (.int .i64 ka.c) := HQ4.out.cell 2
        have k3 : w4.cell? ⟨p9, 3, none⟩ = some (.int .i64 ka.d) := HQ4.out.cell 3
        have k4 : w4.cell? ⟨p9, 4, none⟩ = some (.int .i64 ka.L) := HQ4.out.cell 4
        have k5 : w4.cell? ⟨p9, 5, none⟩ = some (.int .i64 ka.x) := HQ4.out.cell 5
        have k6 : w4.cell? ⟨p9, 6, none⟩ = some (.int .i64 ka.y) := HQ4.out.cell 6
        have k7 : w4.cell? ⟨p9, 7, none⟩ = some (.int .i64 ka.kd) := HQ4.out.cell 7
        have m0 : w4.cell? ⟨p11, 0, none⟩ = some (.int .i64 r0) := HX4.out.cell 0
        have m1 : w4.cell? ⟨p11, 1, none⟩ = some (.int .i64 r1) := HX4.out.cell 1
        have m2 : w4.cell? ⟨p11, 2, none⟩ = some (.int .i64 r2) := HX4.out.cell 2
        have m3 : w4.cell? ⟨p11, 3, none⟩ = some (.int .i64 r3) := HX4.out.cell 3
        rcases HSP.out with ⟨hkd, z0, z1, z2, z3⟩ | ⟨hkd, hob, hin, har⟩
        · have hkb : (ka.kd == 0) = true := beq_iff_eq.2 hkd
          go_wp2_with fail
          refine (ckknown_any _).mono ?_
          rintro e w9 ⟨rfl, hb9⟩
          have HB9 := Lib.hid (below_trans HB4.out hb9)
          clear hb9
          go_wp2
          go_ret
          exact ⟨rfl, by subst hp4; exact below_trans HB2.out HB9.out⟩
        · have hkb : (ka.kd == 0) = false := beq_eq_false_iff_ne.2 hkd
          obtain ⟨hpo, _, hpA, hp0, hp1, hp2⟩ := par_ok hob
          have HLB := Lib.hid (okC_16 _ _ _ HOK.out)
          have hwr : IntKind.i64.wrap (ka.L - 1) = ka.L - 1 := by have := HLB.out; rw [IntKind.wrap_i64]; omega
          have HAV := Lib.hid (rabove_u ka.L ka.x ka.y (ka.L - 1))
          rw [hpA, hp0, hp1, hp2] at HAV
          have HPX := Lib.hid (rbox_u (ka.L - 1) (ka.x / 2) (ka.y / 2))
          rw [hpo] at HPX
          have HII := Lib.hid (ref_in ka.a ka.b ka.c ka.d (b0 (ka.L - 1) (ka.x / 2) (ka.y / 2)) (b1 (ka.L - 1) (ka.x / 2) (ka.y / 2)) (b2 (ka.L - 1) (ka.x / 2) (ka.y / 2)) (b3 (ka.L - 1) (ka.x / 2) (ka.y / 2)))
          rw [hin] at HII
          clear hpo hpA hp0 hp1 hp2 hin hob hkd
          generalize b0 (ka.L - 1) (ka.x / 2) (ka.y / 2) = t0 at *
          generalize b1 (ka.L - 1) (ka.x / 2) (ka.y / 2) = t1 at *
          generalize b2 (ka.L - 1) (ka.x / 2) (ka.y / 2) = t2 at *
          generalize b3 (ka.L - 1) (ka.x / 2) (ka.y / 2) = t3 at *
          have hwa : IntKind.u64.wrap (2 * ab) = 2 * ab := by have := HAB.out; rw [IntKind.wrap_u64]; omega
          have hqa : (ar == 2 * ab) = true := beq_iff_eq.2 har
          clear har
          go_wp2_with fail
          refine (HAV.out _).mono ?_
          rintro e w5 ⟨rfl, hb5⟩
          have hA5 : Below w5.heap.size w5 (w5.alloc (.cells #[.int .i64 (ka.L - 1), .int .i64 (ka.x / 2), .int .i64 (ka.y / 2)] 35)) := (Below.refl _ _).alloc (Nat.le_refl _) _
          have HB5 := Lib.hid (below_trans (below_trans HB4.out hb5) hA5)
          have HQ5 := Lib.hid ((HQ4.out.thru0 hb5).thru0 hA5)
          have HX5 := Lib.hid ((HX4.out.thru0 hb5).thru0 hA5)
          have HC5 := Lib.hid (Blk.new w5 35 #[.int .i64 (ka.L - 1), .int .i64 (ka.x / 2), .int .i64 (ka.y / 2)])
          clear hb5 hA5 HQ4 HX4 k0 k1 k2 k3 k4 k5 k6 k7 m0 m1 m2 m3
          go_upto_region 15 with fail
          generalize hp13 : w5.heap.size = p13 at *
          generalize (w5.alloc (.cells #[.int .i64 (ka.L - 1), .int .i64 (ka.x / 2), .int .i64 (ka.y / 2)] 35)) = W5 at *
          have k0 : W5.cell? ⟨p13, 0, none⟩ = some (.int .i64 (ka.L - 1)) := HC5.out.cell 0
          have k1 : W5.cell? ⟨p13, 1, none⟩ = some (.int .i64 (ka.x / 2)) := HC5.out.cell 1
          have k2 : W5.cell? ⟨p13, 2, none⟩ = some (.int .i64 (ka.y / 2)) := HC5.out.cell 2
          go_wp2_with fail
          refine (HPX.out _).mono ?_
          rintro e w6 ⟨rfl, hb6⟩
          have hA6 : Below w6.heap.size w6 (w6.alloc (.cells #[.int .i64 t0, .int .i64 t1, .int .i64 t2, .int .i64 t3] 33)) := (Below.refl _ _).alloc (Nat.le_refl _) _
          have HB6 := Lib.hid (below_trans (below_trans HB5.out hb6) hA6)
          have HQ6 := Lib.hid ((HQ5.out.thru0 hb6).thru0 hA6)
          have HX6 := Lib.hid ((HX5.out.thru0 hb6).thru0 hA6)
          have HT6 := Lib.hid (Blk.new w6 33 #[.int .i64 t0, .int .i64 t1, .int .i64 t2, .int .i64 t3])
          clear hb6 hA6 HQ5 HX5 HC5 k0 k1 k2
          go_upto_region 16 with fail
          generalize hp15 : w6.heap.size = p15 at *
          generalize (w6.alloc (.cells #[.int .i64 t0, .int .i64 t1, .int .i64 t2, .int .i64 t3] 33)) = V at *
          have k0 : V.cell? ⟨p9, 0, none⟩ = some (.int .i64 ka.a) := HQ6.out.cell 0
          have k1 : V.cell? ⟨p9, 1, none⟩ = some (.int .i64 ka.b) := HQ6.out.cell 1
          have k2 : V.cell? ⟨p9, 2, none⟩ = some (.int .i64 ka.c) := HQ6.out.cell 2
          have k3 : V.cell? ⟨p9, 3, none⟩ = some (.int .i64 ka.d) := HQ6.out.cell 3
          have m0 : V.cell? ⟨p11, 0, none⟩ = some (.int .i64 r0) := HX6.out.cell 0
          have m1 : V.cell? ⟨p11, 1, none⟩ = some (.int .i64 r1) := HX6.out.cell 1
          have m2 : V.cell? ⟨p11, 2, none⟩ = some (.int .i64 r2) := HX6.out.cell 2
          have m3 : V.cell? ⟨p11, 3, none⟩ = some (.int .i64 r3) := HX6.out.cell 3
          have n0 : V.cell? ⟨p15, 0, none⟩ = some (.int .i64 t0) := HT6.out.cell 0
          have n1 : V.cell? ⟨p15, 1, none⟩ = some (.int .i64 t1) := HT6.out.cell 1
          have n2 : V.cell? ⟨p15, 2, none⟩ = some (.int .i64 t2) := HT6.out.cell 2
          have n3 : V.cell? ⟨p15, 3, none⟩ = some (.int .i64 t3) := HT6.out.cell 3
          have hbV := Below.refl V.heap.size V
          go_region_held3 (fun w' => w'.cell? ⟨p9, 0, none⟩ = some (.int .i64 ka.a) ∧ w'.cell? ⟨p9, 1, none⟩ = some (.int .i64 ka.b) ∧ w'.cell? ⟨p9, 2, none⟩ = some (.int .i64 ka.c) ∧ w'.cell? ⟨p9, 3, none⟩ = some (.int .i64 ka.d) ∧ w'.cell? ⟨p11, 0, none⟩ = some (.int .i64 r0) ∧ w'.cell? ⟨p11, 1, none⟩ = some (.int .i64 r1) ∧ w'.cell? ⟨p11, 2, none⟩ = some (.int .i64 r2) ∧ w'.cell? ⟨p11, 3, none⟩ = some (.int .i64 r3) ∧ w'.cell? ⟨p15, 0, none⟩ = some (.int .i64 t0) ∧ w'.cell? ⟨p15, 1, none⟩ = some (.int .i64 t1) ∧ w'.cell? ⟨p15, 2, none⟩ = some (.int .i64 t2) ∧ w'.cell? ⟨p15, 3, none⟩ = some (.int .i64 t3) ∧ Below V.heap.size V w') (first | (refine ⟨?_, ?_, ?_, ?_, ?_, ?_, ?_, ?_, ?_, ?_, ?_, ?_, ?_⟩ <;> first | assumption | (exact cell_later (by assumption) (by assumption)) | (exact below_drew1 (by assumption)) | (exact below_trans (by assumption) (by assumption))) | (go_split_ands; refine ⟨?_, ?_, ?_, ?_, ?_, ?_, ?_, ?_, ?_, ?_, ?_, ?_, ?_⟩ <;> first | (exact cell_later (by assumption) (by assumption)) | (exact below_trans (by assumption) (by assumption)) | go_keep))
            (first
              | (go_at_call 19; refine (HII.out _).mono ?_; rintro e w9 ⟨rfl, hb9⟩)
              | (go_at_call 17; first | (with_reducible refine (HAR.out _).mono ?_; rintro e w9 ⟨rfl, hb9⟩) | (with_reducible refine (HA2.out _).mono ?_; rintro e w9 ⟨rfl, hb9⟩))
              | (go_at_call 10; refine (ckknown_any _).mono ?_; rintro e w9 ⟨rfl, hb9⟩))
          all_goals
            go_split_ands
            go_wp2
            go_ret
            exact ⟨rfl, by subst hp4; exact below_trans HB2.out (below_trans HB6.out (by assumption))⟩
    · have hb0 : (ea != 0) = true := by simpa using h0
      clear HHI
      go_wp2_with fail
      refine (ckknown_any _).mono ?_
      rintro e w5 ⟨rfl, hb5⟩
      have HB5 := Lib.hid (below_trans HB2.out hb5)
      clear hb5
      go_wp2
      go_ret
      exact ⟨rfl, HB5.out⟩

theorem own : ownKnob Try.prog.godebug = none := by kernel_rfl
theorem laidOut : laidOutB Try.prog = true := by kernel_rfl
set_option maxRecDepth 100000 in
theorem lifted (os : Os) (started : os.Started) (H : Type) (enc : TypeId × Value → H) :
    ReturnsInHanded {} Try.checked os 4 .any (Rows.cloakHidesSpec.pre6 enc Try.prog Try.f4 Rows.cloakHidesRow.domain false) (Rows.cloakHidesSpec.post enc Try.prog Try.f4 false true false false) := by
  refine returnsInHanded_of_change_sized (C := Try.checked) own started (by kernel_rfl) Try.func4
    (ChangeSpec.witness6 (enc := enc) (C := Try.checked) false ⟨#[], #[.slice none 0 0, .agg #[.int .i64 0, .int .i64 0], .agg #[.int .i64 0, .int .u64 0]], []⟩ 8 (by kernel_rfl) (by kernel_rfl) (by kernel_rfl) (by kernel_rfl)) ?_
  intro W base args ds gs before hval0 hW hcnd hsz0 _
  have hval : ∀ (j : Nat) t v, Try.f4.params[j]? = some t → args[j]? = some v → Value.okWide Try.prog W .any base t v := hval0
  have hW' := hW
  obtain ⟨p, q, hA0, hV, rfl, hfz, hnd⟩ := hW
  have hA : DataW.TrodAll enc Try.prog W 0 (fun _ => true) true Try.f4.params.toList args.toList ds p := hA0
  rw [Try.params4] at hA hval
  obtain ⟨v0, vs0, d0, ds0, p0, q0, hargs, rfl, rfl, h0, r0⟩ := trodAll_cons hA
  obtain ⟨v1, vs1, d1, ds1, p1, q1, rfl, rfl, rfl, h1, r1⟩ := trodAll_cons r0
  obtain ⟨v2, vs2, d2, ds2, p2, q2, rfl, rfl, rfl, h2, r2⟩ := trodAll_cons r1
  obtain ⟨rfl, rfl, rfl⟩ := trodAll_nil r2
  obtain rfl : args = #[v0, v1, v2] := by cases args; simp_all
  obtain ⟨rfl, rfl⟩ := trodVars_none hV
  have k0 := h0
  have lt0 : ∀ x ∈ p0, x.block < W.heap.size := by obtain ⟨m, hm⟩ := k0; exact DataW.trod_lt m _ _ _ hm
  obtain ⟨a0, len0, cap0, rfl⟩ := okWide_slice Try.underlying22 (hval 0 22 v0 rfl rfl)
  have w0 : IsSl W 2 (PntOk W) a0 len0 cap0 := by
    obtain ⟨fuel, hf⟩ := h0
    exact isSl_of Try.underlying22 (by kernel_rfl) pntOk_of hf (fun n hn => of_decide_eq_true (List.all_eq_true.1 hsz0 n (DataW.weights_mem_each (j := 0) (t := 22) (d := d0) rfl rfl n hn)))
  have k1 := h1
  have lt1 : ∀ x ∈ p1, x.block < W.heap.size := by obtain ⟨m, hm⟩ := k1; exact DataW.trod_lt m _ _ _ hm
  obtain ⟨c1_0, c1_1, y1_0, y1_1, m1, rfl, rfl, rfl, hy1_0, hy1_1⟩ := Joins.open_agg2 Try.underlying24 (by kernel_rfl) (by kernel_rfl) (hval 1 24 v1 rfl rfl) h1
  obtain ⟨a1_0, e1_0, rfl, w1_0⟩ := DataW.trod_int Try.underlying3 hy1_0
  simp only [List.cons.injEq, and_true] at e1_0
  subst e1_0
  obtain ⟨a1_1, e1_1, rfl, w1_1⟩ := DataW.trod_int Try.underlying3 hy1_1
  simp only [List.cons.injEq, and_true] at e1_1
  subst e1_1
  have k2 := h2
  have lt2 : ∀ x ∈ p2, x.block < W.heap.size := by obtain ⟨m, hm⟩ := k2; exact DataW.trod_lt m _ _ _ hm
  obtain ⟨c2_0, c2_1, y2_0, y2_1, m2, rfl, rfl, rfl, hy2_0, hy2_1⟩ := Joins.open_agg2 Try.underlying27 (by kernel_rfl) (by kernel_rfl) (hval 2 27 v2 rfl rfl) h2
  obtain ⟨a2_0, e2_0, rfl, w2_0⟩ := DataW.trod_int Try.underlying3 hy2_0
  simp only [List.cons.injEq, and_true] at e2_0
  subst e2_0
  obtain ⟨a2_1, e2_1, rfl, w2_1⟩ := DataW.trod_int Try.underlying25 hy2_1
  simp only [List.cons.injEq, and_true] at e2_1
  subst e2_1
  clear hA0 hval0
  refine (walk a0 len0 cap0 a1_0 a1_1 a2_0 a2_1 W w0 (bounds_i64 w1_0) (bounds_i64 w1_1) (bounds_i64 w2_0) (bounds_u64 w2_1)).mono fun e W' ⟨he, bel⟩ => ?_
  subst he
  exact ⟨_, rfl, _, _, _, [], _, [], hW', trodAll_mk1 (shut_bool Try.underlying4 _), (trodAll_cons_mk (Below.trod laidOut (by kernel_rfl) (of_decide_eq_true (by kernel_rfl)) k0 bel lt0) (trodAll_cons_mk (Below.trod laidOut (by kernel_rfl) (of_decide_eq_true (by kernel_rfl)) k1 bel lt1) (trodAll_cons_mk (Below.trod laidOut (by kernel_rfl) (of_decide_eq_true (by kernel_rfl)) k2 bel lt2) trodAll_mk0))), rfl, bel.frame _, fun h => by cases h⟩
theorem over : Rows.cloakHidesRow.holds Try.pinned (OpenSpec.ofChange Rows.cloakHidesSpec) :=
  OpenClaim.holds_of_wide 4 Try.f4 rfl rfl rfl rfl rfl rfl rfl ⟨rfl, rfl, rfl, rfl, rfl⟩ rfl rfl rfl rfl rfl (by kernel_rfl) Try.func4 (by kernel_rfl)
    (of_decide_eq_true (by kernel_rfl)) (by unfold Func.isWrapper; first | (rw [if_pos (by decide +kernel)]; kernel_rfl) | (rw [if_neg (by decide +kernel)]; exact ⟨rfl, rfl⟩))
    (fun os started H enc _ => lifted os started H enc)
/-- The statement. -/
theorem proved : Rows.CloakHidesSaid := over
#print axioms proved
end Go.Proofs.Ytjikbcaapmfhoaa.cloakHides
