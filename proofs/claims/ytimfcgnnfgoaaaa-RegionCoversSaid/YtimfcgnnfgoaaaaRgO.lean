/- region: Area, Covers, Same; rectangles compared; the laws' fixed call, by contract. -/
import Derived.Test.YtimfcgnnfgoaaaaRgN
namespace Go.Proofs.Ytimfcgnnfgoaaaa
set_option linter.unusedVariables false
set_option linter.unusedSimpArgs false
open Go.RowKit
/-- The points of a region, as a test. -/
def cA (a : List Bx) (x y : Int) : Bool := decide (0 < cntP a x y)
theorem cts_union (a : List Bx) (x y : Int) : Cts (fun p q : Bool => p || q) a [] x y ↔ cA a x y = true := by
  unfold Cts cA
  have : decide (0 < cntP ([] : List Bx) x y) = false := by simp [cntP]
  rw [this]
  show (decide (0 < cntP a x y) || false) = true ↔ _
  rw [Bool.or_false]
theorem cA_iff (a : List Bx) (x y : Int) : cA a x y = true ↔ inA a x y := by
  unfold cA
  rw [decide_eq_true_eq]
  exact (cntP_pos a x y).2
theorem cA_grid {a : List Bx} (h : rightA a) (x y : Int) (hx : cA a x y = true) : 0 ≤ x ∧ x ≤ 65535 ∧ 0 ≤ y ∧ y ≤ 65535 := inA_grid h ((cA_iff a x y).1 hx)
theorem form_union {a : List Bx} {L : List Bx} (h : FormOf (Cts (fun p q : Bool => p || q) a []) L) : FormOf (fun x y => cA a x y = true) L := h.congr (cts_union a)
theorem form_right {S : Int → Int → Prop} {L : List Bx} (h : FormOf S L) (hg : ∀ x y, S x y → 0 ≤ x ∧ x ≤ 65535 ∧ 0 ≤ y ∧ y ≤ 65535) : rightA L := by
  intro r hr
  have hl := h.le r hr
  have h1 := hg _ _ ((h.iff r.x0 r.y0).2 ⟨r, hr, Int.le_refl _, hl.1, Int.le_refl _, hl.2⟩)
  have h2 := hg _ _ ((h.iff r.x1 r.y1).2 ⟨r, hr, hl.1, Int.le_refl _, hl.2, Int.le_refl _⟩)
  unfold rightR
  omega
theorem areaL_take {L : List Bx} {j : Nat} (hj : j < L.length) : areaL (L.take (j + 1)) = areaL (L.take j) + areaR L[j] := by
  rw [List.take_succ_eq_append_getElem hj, areaL_append]
  simp [areaL]
theorem areaL_part {L : List Bx} (h : ∀ r ∈ L, r.x0 ≤ r.x1 ∧ r.y0 ≤ r.y1) (j : Nat) : 0 ≤ areaL (L.take j) ∧ areaL (L.take j) ≤ areaL L := by
  have e := areaL_append (L.take j) (L.drop j)
  rw [List.take_append_drop] at e
  have h1 := areaL_nonneg (L := L.take j) fun r hr => h r (List.mem_of_mem_take hr)
  have h2 := areaL_nonneg (L := L.drop j) fun r hr => h r (List.mem_of_mem_drop hr)
  omega
/-- What Area hands back. -/
def ArP (w : World) (a : List Bx) (e : Ending) (w' : World) : Prop := ∃ n : Int, e = .returned (.tuple #[.int .u64 n, .int .i64 (chk2 a [])]) ∧ (chk2 a [] = 0 → n = tot (cA a)) ∧ (chk2 a [] ≠ 0 → n = 0) ∧ 0 ≤ n ∧ n ≤ 4294967296 ∧ Below w.heap.size w w'
set_option maxRecDepth 100000 in
set_option maxHeartbeats 4000000 in
theorem area13_any (w : World) (v : Value) (a : List Bx) (h : ERd elR w v a) (ha : a.length ≤ 1000000) (hl : chk2 a [] = 0 → a.length ≤ 300) :
    Calls Try.prog 23 #[v] w (ArP w a) := by
  have HU := Lib.hid (union_any w v a h ha hl)
  have HZ := Lib.hid (chk2_zero (a := a) (b := []))
  clear h ha hl
  go_enter Try.func23, Try.ntmps23
  go_wp2_with fail
  refine HU.out.mono ?_
  rintro e w1 ⟨v1, L, rfl, hf, hok, hno, hlen⟩
  have HF := Lib.hid hf
  have HRD := Lib.hid (hf.read elR_ok)
  have HTOT := Lib.hid (show (chk2 a [] = 0 → areaL L = tot (cA a) ∧ rightA L) ∧ (chk2 a [] ≠ 0 → areaL L = 0 ∧ rightA L) from ⟨fun h => by
    have h1 := form_union (hok h)
    have h2 := cA_grid (HZ.out.1 h).2.2.1
    exact ⟨h1.area h2, form_right h1 h2⟩, fun h => by rw [hno h]; exact ⟨rfl, fun r hr => by simp at hr⟩⟩)
  have HR := Lib.hid (show rightA L from by
    by_cases h : chk2 a [] = 0
    · exact (HTOT.out.1 h).2
    · exact (HTOT.out.2 h).2)
  have HTR := Lib.hid (show 0 ≤ areaL L ∧ areaL L ≤ 4294967296 from by
    by_cases h : chk2 a [] = 0
    · rw [(HTOT.out.1 h).1]; exact tot_range _
    · rw [(HTOT.out.2 h).1]; decide)
  have HLN := Lib.hid hlen
  clear hf hok hno hlen HU
  obtain ⟨A1, c1, rfl, -, -⟩ := HRD.out.shape
  obtain ⟨n, hn⟩ : ∃ n, n = L.length := ⟨_, rfl⟩
  rw [← hn] at HRD HF ⊢
  have HN := Lib.hid hn; clear hn
  have HNB := Lib.hid (show n ≤ 1000000 from by rw [HN.out]; exact HLN.out)
  have HFIN := Lib.hid (fun (W : World) (hW : Below w.heap.size w W) => (show ArP w a (.returned (.tuple #[.int .u64 (areaL L), .int .i64 (chk2 a [])])) W from ⟨_, rfl, fun h => (HTOT.out.1 h).1, fun h => (HTOT.out.2 h).1, HTR.out.1, HTR.out.2, hW⟩))
  generalize chk2 a [] = c at *
  go_wp2_with fail
  go_loopw [6, 16] (fun s i wr => ∃ (j : Nat), j ≤ n ∧ s = .int .u64 (areaL (L.take j)) ∧ i = .int .i64 j ∧ Hid (Below w1.heap.size w1 wr)) (fun _ i _ => n - (intOf i).toNat)
  case atStart => exact ⟨0, Nat.zero_le _, rfl, rfl, Lib.hid (Below.refl _ _)⟩
  case round =>
    rename World => wr
    obtain ⟨j, hj, rfl, rfl, HB⟩ := hrel
    by_cases hlt : j < n
    · have hji : (j : Int) < (n : Int) := by omega
      have hkl : j < L.length := by rw [← HN.out]; exact hlt
      have hx : L[j]? = some L[j] := List.getElem?_eq_getElem hkl
      have hrx := HR.out _ (List.getElem_mem hkl)
      have HTK := Lib.hid (areaL_take hkl)
      have hp1 := areaL_part (L := L) (fun r hr => ⟨(HR.out r hr).2.1, (HR.out r hr).2.2.2.2.1⟩) (j + 1)
      have hp0 := areaL_part (L := L) (fun r hr => ⟨(HR.out r hr).2.1, (HR.out r hr).2.2.2.2.1⟩) j
      have htr := HTR.out
      rw [areaL_take hkl] at hp1
      obtain ⟨g, o, rfl, hg, a0, a1, a2, a3⟩ := (HRD.out.below HB.out).rect hx
      generalize L[j] = r at *
      have HRB := Lib.hid ((rightX_iff r).2 hrx)
      unfold areaR at hp1
      generalize hAS : areaL (L.take j) = AS at *
      have hwr : IntKind.u64.wrap (AS + (r.x1 - r.x0 + 1) * (r.y1 - r.y0 + 1)) = AS + (r.x1 - r.x0 + 1) * (r.y1 - r.y0 + 1) := by
        have e : IntKind.u64.wrap (AS + (r.x1 - r.x0 + 1) * (r.y1 - r.y0 + 1)) = (AS + (r.x1 - r.x0 + 1) * (r.y1 - r.y0 + 1)) % 18446744073709551616 := rfl
        rw [e]
        omega
      have hkw : wrap64 ((j : Int) + 1) = (j : Int) + 1 := by have := HNB.out; unfold wrap64; omega
      have HHW := Lib.hid hwr
      have hal : Below wr.heap.size wr (wr.alloc (.cells #[.int .i64 r.x0, .int .i64 r.y0, .int .i64 r.x1, .int .i64 r.y1] 39)) := (Below.refl _ _).alloc (Nat.le_refl _) _
      have HAL := Lib.hid (below_trans HB.out hal)
      clear hx hg hrx hp1 hp0 htr hal hAS hkl
      go_wp2_with fail
      refine (area_yes _ _ _ _ HRB.out _).mono ?_
      rintro e w2 ⟨rfl, hb⟩
      have HB2 := Lib.hid (below_trans HAL.out hb)
      clear hb a0 a1 a2 a3
      generalize hM : (r.x1 - r.x0 + 1) * (r.y1 - r.y0 + 1) = M at *
      go_wp2_with fail
      go_roundw
      case rel => exact ⟨j + 1, by omega, by rw [HTK.out]; unfold areaR; rw [hM], by go_num, HB2⟩
      case measure =>
        rw [hkw]
        simp only [intOf]
        omega
    · obtain rfl : j = n := by omega
      have HE := Lib.hid (show areaL (L.take j) = areaL L from by rw [List.take_of_length_le (by rw [← HN.out]; omega)])
      rw [HE.out]
      have HZZ := Lib.hid (HFIN.out wr (below_trans HF.out.bel HB.out))
      go_wp2
      refine bodyPost_ret (v := .tuple #[.int .u64 (areaL L), .int .i64 c]) ?_ rfl HZZ.out
      simp [results, Try.results23, go_sem]
end Go.Proofs.Ytimfcgnnfgoaaaa
