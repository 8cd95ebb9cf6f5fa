/- token: Live; calls of a nil table, by contract. -/
import Derived.Test.YtmlmndaflgfdkaaTo13
namespace Go.Proofs.Ytmlmndaflgfdkaa
set_option linter.unusedVariables false
set_option linter.unusedSimpArgs false
open Go.RowKit
/-- What Live tells. -/
def livG (L : List Tk) (s : Nat) : Gt := if fnd (secs L) s < 0 then Gt.zero else grI L L.length (fnd (secs L) s).toNat
def livB (L : List Tk) (s : Nat) : Bool := decide (0 ≤ fnd (secs L) s)
def LivP (y : Nat) (v : Value) (g : Gt) (b : Bool) (L' : List Tk) (w : World) (e : Ending) (w' : World) : Prop := ∃ v', e = .returned (.tuple #[g.V, .bool b]) ∧ TS y v w v' L' w'
set_option maxRecDepth 100000 in
set_option maxHeartbeats 8000000 in
theorem live_any (w : World) (y s : Nat) (v : Value) (L : List Tk) (now : Int) (h : TB w y v L) (hl : L.length ≤ 1000) (hs : SecOk L) (hO : OrdT (leftC now L)) (hss : s ≤ 18446744073709551615) :
    Calls Try.prog 18 #[ptrA y, .int .u64 s, .int .i64 now] w (LivP y v (livG (leftC now L) s) (livB (leftC now L) s) (leftC now L) w) := by
  have H := Lib.hid h
  have HL := Lib.hid (hs.left now)
  have HLL := Lib.hid (Nat.le_trans (leftC_le now L) hl)
  have HLA := Lib.hid (lapse_any _ y v L now (h.alloc (.cells #[.int .i64 0, .int .i64 0, .int .i64 0, .int .i64 0, .int .i64 0, .int .i64 0, .bool false, .int .i64 0] 30)) hl hs)
  have HOO := Lib.hid hO
  clear h hO
  go_enter Try.func18, Try.ntmps18
  go_wp2_with fail
  refine HLA.out.mono ?_
  rintro e w1 ⟨v1, rfl, hT⟩
  have hN := TS.new H.out hT
  have HB := Lib.hid hN.1
  have HT := Lib.hid hN.2.1
  have HV := Lib.hid hN.2.2.1
  have HY := Lib.hid hN.2.2.2
  clear hT hN HLA
  generalize leftC now L = L1 at *
  have HF := Lib.hid (tfind_any w1 y v1 L1 s hss HT.out.tb HLL.out HL.out)
  have HFL := Lib.hid (fnd_lt (secs L1) s)
  obtain ⟨p, hp⟩ : ∃ p, fnd (secs L1) s = p := ⟨_, rfl⟩
  rw [hp] at HF HFL
  have HP := Lib.hid hp
  clear hp
  by_cases hp0 : p < 0
  · have HE := Lib.hid (show livG L1 s = ⟨0, 0, 0, 0, 0, 0, false, 0⟩ from if_pos (by rw [HP.out]; exact hp0))
    have HD := Lib.hid (show livB L1 s = false by rw [livB, HP.out]; simpa using hp0)
    go_wp2_with fail
    refine HF.out.mono ?_
    rintro e w2 ⟨rfl, hb2⟩
    have HB2 := Lib.hid (HT.out.below hb2)
    have HR2 := Lib.hid (Blk.thru0 HB.out hb2)
    clear hb2
    have q0 := HR2.out.cell 0
    have q1 := HR2.out.cell 1
    have q2 := HR2.out.cell 2
    have q3 := HR2.out.cell 3
    have q4 := HR2.out.cell 4
    have q5 := HR2.out.cell 5
    have q6 := HR2.out.cell 6
    have q7 := HR2.out.cell 7
    simp only [List.getElem?_toArray, List.getElem?_cons_zero, List.getElem?_cons_succ] at q0 q1 q2 q3 q4 q5 q6 q7
    have fq0 := HR2.out.frozen 0
    have fq1 := HR2.out.frozen 1
    have fq2 := HR2.out.frozen 2
    have fq3 := HR2.out.frozen 3
    have fq4 := HR2.out.frozen 4
    have fq5 := HR2.out.frozen 5
    have fq6 := HR2.out.frozen 6
    have fq7 := HR2.out.frozen 7
    go_wp2
    refine bodyPost_ret (v := .tuple #[Gt.V ⟨0, 0, 0, 0, 0, 0, false, 0⟩, .bool false]) ?_ rfl ⟨v1, by rw [HE.out, HD.out], ?_⟩
    · simp [results, Try.results18, go_sem, *]
    · iterate 8 with_reducible refine TS.setFar ?_ (Nat.le_refl _) (Ne.symm HY.out) HV.out _ _
      exact HB2.out
  · have HG := Lib.hid (granted_any L1 y v1 HLL.out HL.out HOO.out L1.length p.toNat)
    have HE := Lib.hid (show livG L1 s = grI L1 L1.length p.toNat by rw [livG, HP.out, if_neg hp0])
    have HD := Lib.hid (show livB L1 s = true by rw [livB, HP.out]; simp; omega)
    have hpl : p.toNat < L1.length := by have := HFL.out; rw [secs_length] at this; omega
    have HPN := Lib.hid (Int.toNat_of_nonneg (show 0 ≤ p by omega))
    generalize grI L1 L1.length p.toNat = m at *
    obtain ⟨g0, g1, g2, g3, g4, g5, g6, g7⟩ := m
    simp only [Gt.V] at HG ⊢
    go_wp2_with fail
    refine HF.out.mono ?_
    rintro e w2 ⟨rfl, hb2⟩
    have HB2 := Lib.hid (HT.out.below hb2)
    have HR2 := Lib.hid (Blk.thru0 HB.out hb2)
    clear hb2
    have HG2 := Lib.hid (HG.out w2 (by omega) hpl HB2.out.tb)
    rw [HPN.out] at HG2
    clear hpl
    go_wp2_with fail
    refine HG2.out.mono ?_
    rintro e w3 ⟨rfl, hb3⟩
    have HB3 := Lib.hid (HB2.out.below hb3)
    have HR3 := Lib.hid (Blk.thru0 HR2.out hb3)
    clear hb3
    have q0 := HR3.out.cell 0
    have q1 := HR3.out.cell 1
    have q2 := HR3.out.cell 2
    have q3 := HR3.out.cell 3
    have q4 := HR3.out.cell 4
    have q5 := HR3.out.cell 5
    have q6 := HR3.out.cell 6
    have q7 := HR3.out.cell 7
    simp only [List.getElem?_toArray, List.getElem?_cons_zero, List.getElem?_cons_succ] at q0 q1 q2 q3 q4 q5 q6 q7
    have fq0 := HR3.out.frozen 0
    have fq1 := HR3.out.frozen 1
    have fq2 := HR3.out.frozen 2
    have fq3 := HR3.out.frozen 3
    have fq4 := HR3.out.frozen 4
    have fq5 := HR3.out.frozen 5
    have fq6 := HR3.out.frozen 6
    have fq7 := HR3.out.frozen 7
    go_wp2
    refine bodyPost_ret (v := .tuple #[.agg #[.int .i64 g0, .int .i64 g1, .int .i64 g2, .int .i64 g3, .int .i64 g4, .int .i64 g5, .bool g6, .int .i64 g7], .bool true]) ?_ rfl ⟨v1, by rw [HE.out, HD.out], ?_⟩
    · simp [results, Try.results18, go_sem, *]
    · iterate 8 with_reducible refine TS.setFar ?_ (Nat.le_refl _) (Ne.symm HY.out) HV.out _ _
      exact HB3.out
set_option maxHeartbeats 2000000 in
theorem mint_nil (w : World) (d : Nat) (g : Gt) (now : Int) : Calls Try.prog 13 #[.pointer none, .int .u64 d, g.V, .int .i64 now] w fun e w' => e = .returned (.int .i64 3) ∧ Below w.heap.size w w' := by
  simp only [Gt.V]
  go_enter Try.func13, Try.ntmps13
  go_wp2
  go_ret
  exact ⟨rfl, by go_grown⟩
set_option maxHeartbeats 2000000 in
theorem derive_nil (w : World) (s d : Nat) (g : Gt) (now : Int) : Calls Try.prog 15 #[.pointer none, .int .u64 s, .int .u64 d, g.V, .int .i64 now] w fun e w' => e = .returned (.int .i64 3) ∧ Below w.heap.size w w' := by
  simp only [Gt.V]
  go_enter Try.func15, Try.ntmps15
  go_wp2
  go_ret
  exact ⟨rfl, by go_grown⟩
set_option maxHeartbeats 2000000 in
theorem revoke_nil (w : World) (s : Nat) (now : Int) : Calls Try.prog 16 #[.pointer none, .int .u64 s, .int .i64 now] w fun e w' => e = .returned (.int .i64 3) ∧ Below w.heap.size w w' := by
  go_enter Try.func16, Try.ntmps16
  go_wp2
  go_ret
  exact ⟨rfl, by go_grown⟩
set_option maxHeartbeats 2000000 in
theorem tickets_nil (w : World) (now : Int) : Calls Try.prog 21 #[.pointer none, .int .i64 now] w fun e w' => e = .returned (.slice none 0 0) ∧ w = w' := by
  go_enter Try.func21, Try.ntmps21
  go_wp2
  go_ret
  exact ⟨rfl, rfl⟩
set_option maxHeartbeats 2000000 in
theorem len_nil (w : World) (now : Int) : Calls Try.prog 22 #[.pointer none, .int .i64 now] w fun e w' => e = .returned (.int .i64 0) ∧ w = w' := by
  go_enter Try.func22, Try.ntmps22
  go_wp2_with fail
  refine (tickets_nil _ now).mono ?_
  rintro e w1 ⟨rfl, rfl⟩
  go_wp2
  go_ret
  exact ⟨rfl, rfl⟩
set_option maxHeartbeats 2000000 in
theorem live_nil (w : World) (s : Nat) (now : Int) : Calls Try.prog 18 #[.pointer none, .int .u64 s, .int .i64 now] w fun e w' => e = .returned (.tuple #[Gt.V ⟨0, 0, 0, 0, 0, 0, false, 0⟩, .bool false]) ∧ Below w.heap.size w w' := by
  go_enter Try.func18, Try.ntmps18
  go_wp2
  refine bodyPost_ret (v := .tuple #[Gt.V ⟨0, 0, 0, 0, 0, 0, false, 0⟩, .bool false]) ?_ rfl ⟨rfl, ?_⟩
  · simp [results, Try.results18, go_sem, *]
  · go_grown
set_option maxHeartbeats 2000000 in
theorem all_any (w : World) : Calls Try.prog 41 #[] w fun e w' => e = .returned (Gt.V ⟨31, 16, 0, 0, 65535, 65535, false, 4294967295⟩) ∧ Below w.heap.size w w' := by
  go_enter Try.func41, Try.ntmps41
  go_wp2
  refine bodyPost_ret (v := Gt.V ⟨31, 16, 0, 0, 65535, 65535, false, 4294967295⟩) ?_ rfl ⟨rfl, ?_⟩
  · simp [results, Try.results41, go_sem, *]
  · go_grown
end Go.Proofs.Ytmlmndaflgfdkaa
