/- region: Covers, Same, rectangles compared, the laws' fixed call, by contract. -/
import Derived.Test.YtimfcgnnfgoaaaaRgO
import Derived.BigQuiet
namespace Go.Proofs.Ytimfcgnnfgoaaaa
set_option linter.unusedVariables false
set_option linter.unusedSimpArgs false
open Go.RowKit
set_option maxRecDepth 100000 in
set_option maxHeartbeats 2000000 in
theorem rrects13_any (w : World) (v1 v2 : Value) (L : List Bx) (h1 : ERd elR w v1 L) (h2 : ERd elR w v2 L) :
    Calls Try.prog 16 #[v1, v2] w fun e w' => e = .returned (.bool true) ∧ Below w.heap.size w w' := by
  obtain ⟨A1, c1, rfl, hl1, hl2, -⟩ := id h1
  obtain ⟨A2, c2, rfl, -, -, -⟩ := id h2
  have hl : L.length ≤ 9223372036854775807 := by unfold maxLen at hl2; omega
  clear hl1 hl2
  have H1 := Lib.hid h1
  have H2 := Lib.hid h2
  have HL := Lib.hid hl
  have HB0 := Lib.hid (Below.refl w.heap.size w)
  clear h1 h2 hl
  go_enter Try.func16, Try.ntmps16
  have hnn : ((L.length : Int) != (L.length : Int)) = false := by simp
  go_wp2_with fail
  go_loopw [5] (fun i wr => ∃ k : Nat, k ≤ L.length ∧ i = .int .i64 k ∧ Hid (Below w.heap.size w wr)) (fun i _ => L.length - (intOf i).toNat)
  case atStart => exact ⟨0, by omega, rfl, HB0⟩
  case round =>
    clear HB0
    obtain ⟨k, hk, rfl, HB⟩ := hrel
    by_cases hlt : k < L.length
    · have hki : (k : Int) < (L.length : Int) := by omega
      have hkb : (k : Int) < 9223372036854775807 := by have := HL.out; omega
      have hk0 : (0 : Int) ≤ (k : Int) := by omega
      have hx : L[k]? = some L[k] := List.getElem?_eq_getElem hlt
      obtain ⟨g1, o1, rfl, hc1⟩ := (H1.out.below HB.out).cell hx
      obtain ⟨g2, o2, rfl, hc2⟩ := (H2.out.below HB.out).cell hx
      generalize L[k] = x at *
      have a0 : wr.cell? ⟨g1, o1 + k * 4, none⟩ = some (.int .i64 x.x0) := hc1 0 _ rfl
      have a1 : wr.cell? ⟨g1, o1 + k * 4 + 1, none⟩ = some (.int .i64 x.y0) := hc1 1 _ rfl
      have a2 : wr.cell? ⟨g1, o1 + k * 4 + 2, none⟩ = some (.int .i64 x.x1) := hc1 2 _ rfl
      have a3 : wr.cell? ⟨g1, o1 + k * 4 + 3, none⟩ = some (.int .i64 x.y1) := hc1 3 _ rfl
      have b0 : wr.cell? ⟨g2, o2 + k * 4, none⟩ = some (.int .i64 x.x0) := hc2 0 _ rfl
      have b1 : wr.cell? ⟨g2, o2 + k * 4 + 1, none⟩ = some (.int .i64 x.y0) := hc2 1 _ rfl
      have b2 : wr.cell? ⟨g2, o2 + k * 4 + 2, none⟩ = some (.int .i64 x.x1) := hc2 2 _ rfl
      have b3 : wr.cell? ⟨g2, o2 + k * 4 + 3, none⟩ = some (.int .i64 x.y1) := hc2 3 _ rfl
      clear hc1 hc2 hx
      go_wp2_with fail
      go_quiet (fail)
      go_wp2_with fail
      refine ⟨⟨k + 1, by omega, by go_num, Lib.hid ⟨HB.out.os, HB.out.tape, HB.out.output, HB.out.size, HB.out.block⟩⟩, by simp [intOf]; omega⟩
    · obtain rfl : k = L.length := by omega
      go_wp2_with fail
      go_ret
      exact ⟨rfl, HB.out⟩

set_option maxRecDepth 100000 in
set_option maxHeartbeats 4000000 in
theorem same13_any (w : World) (v u : Value) (a b : List Bx) (h : ERd elR w v a) (k : ERd elR w u b) (ha : a.length ≤ 1000000) (hb : b.length ≤ 1000000) (hl : chk2 a b = 0 → a.length + b.length ≤ 300) :
    Calls Try.prog 22 #[v, u] w fun e w' => ∃ ok : Bool, e = .returned (.bool ok) ∧ Below w.heap.size w w' ∧ (ok = true ↔ chk2 a b = 0 ∧ ∀ x y, ¬ Cts (fun p q : Bool => p != q) a b x y) := by
  have HJ := Lib.hid (joined_any _ _ runsC_D rfl w v u a b h k ha hb hl)
  clear h k ha hb hl
  go_enter Try.func22, Try.ntmps22
  go_wp2_with fail
  refine HJ.out.mono ?_
  rintro e w1 ⟨v1, L, rfl, hf, hok, hno, hlen⟩
  have HF := Lib.hid hf
  have HOK := Lib.hid hok
  have HNL := Lib.hid (show chk2 a b = 0 → (L = [] ↔ ∀ x y, ¬ Cts (fun p q : Bool => p != q) a b x y) from fun h0 => (hok h0).nil_iff)
  obtain ⟨A1, c1, rfl, -, -⟩ := hf.own.slice
  clear hf hok hno hlen HJ
  by_cases h0 : chk2 a b = 0
  · have h0b : (chk2 a b == 0) = true := by simp [h0]
    have HE := Lib.hid (HNL.out h0)
    have HC0 := Lib.hid h0
    by_cases hL : L.length = 0
    · have hLb : ((L.length : Int) == 0) = true := by simp [hL]
      have HLE := Lib.hid (List.eq_nil_of_length_eq_zero hL)
      clear h0 hL
      go_wp2
      go_ret
      exact ⟨true, rfl, HF.out.bel, fun _ => ⟨HC0.out, HE.out.1 HLE.out⟩, fun _ => rfl⟩
    · have hLb : ((L.length : Int) == 0) = false := by simp; intro h9; apply hL; rw [h9]; rfl
      have HLE := Lib.hid (show L ≠ [] from fun h9 => hL (by rw [h9]; rfl))
      clear h0 hL
      go_wp2
      go_ret
      exact ⟨false, rfl, HF.out.bel, ⟨(by intro h9; cases h9), (fun h9 => absurd (HE.out.2 h9.2) HLE.out)⟩⟩
  · have h0b : (chk2 a b == 0) = false := by simpa using h0
    have HC0 := Lib.hid h0
    clear h0
    go_wp2
    go_ret
    exact ⟨false, rfl, HF.out.bel, ⟨(by intro h9; cases h9), (fun h9 => absurd h9.1 HC0.out)⟩⟩
set_option maxRecDepth 100000 in
set_option maxHeartbeats 4000000 in
theorem covers_any (w : World) (v : Value) (a : List Bx) (r : Bx) (h : ERd elR w v a) (ha : a.length ≤ 200) :
    Calls Try.prog 24 #[v, .agg #[.int .i64 r.x0, .int .i64 r.y0, .int .i64 r.x1, .int .i64 r.y1]] w fun e w' => ∃ ok : Bool, e = .returned (.bool ok) ∧ Below w.heap.size w w' ∧ (ok = true ↔ chk2 [r] a = 0 ∧ ∀ x y, ¬ Cts (fun p q : Bool => p && !q) [r] a x y) := by
  have hal1 : Below w.heap.size w (w.alloc (.cells #[.int .i64 r.x0, .int .i64 r.y0, .int .i64 r.x1, .int .i64 r.y1] 39)) := (Below.refl _ _).alloc (Nat.le_refl _) _
  have hal2 : Below w.heap.size w ((w.alloc (.cells #[.int .i64 r.x0, .int .i64 r.y0, .int .i64 r.x1, .int .i64 r.y1] 39)).alloc (.cells #[.int .i64 r.x0, .int .i64 r.y0, .int .i64 r.x1, .int .i64 r.y1] 39)) := hal1.alloc (by simp) _
  have HR1 := Lib.hid (show ERd elR ((w.alloc (.cells #[.int .i64 r.x0, .int .i64 r.y0, .int .i64 r.x1, .int .i64 r.y1] 39)).alloc (.cells #[.int .i64 r.x0, .int .i64 r.y0, .int .i64 r.x1, .int .i64 r.y1] 39)) (.slice (some ⟨w.heap.size + 1, 0, none⟩) 1 1) [r] from ERd.of_own elR_ok (EOwn.block (M := [r]) elR_ok (Blk.newAt (by simp)) rfl (by simp)))
  have HJ := Lib.hid (minus_any _ _ v [r] a HR1.out (h.below hal2) (by simp) (by omega) (fun _ => by simp; omega))
  have HAL := Lib.hid hal2
  clear h ha hal1 hal2
  go_enter Try.func24, Try.ntmps24
  go_wp2_with fail
  refine HJ.out.mono ?_
  rintro e w1 ⟨v1, L, rfl, hf, hok, hno, hlen⟩
  have HF := Lib.hid (hf.up HAL.out)
  have HNL := Lib.hid (show chk2 [r] a = 0 → (L = [] ↔ ∀ x y, ¬ Cts (fun p q : Bool => p && !q) [r] a x y) from fun h0 => (hok h0).nil_iff)
  obtain ⟨A1, c1, rfl, -, -⟩ := hf.own.slice
  clear hf hok hno hlen HJ HR1 HAL
  by_cases h0 : chk2 [r] a = 0
  · have h0b : (chk2 [r] a == 0) = true := by simp [h0]
    have HE := Lib.hid (HNL.out h0)
    have HC0 := Lib.hid h0
    by_cases hL : L.length = 0
    · have hLb : ((L.length : Int) == 0) = true := by simp [hL]
      have HLE := Lib.hid (List.eq_nil_of_length_eq_zero hL)
      clear h0 hL
      go_wp2
      go_ret
      exact ⟨true, rfl, HF.out.bel, fun _ => ⟨HC0.out, HE.out.1 HLE.out⟩, fun _ => rfl⟩
    · have hLb : ((L.length : Int) == 0) = false := by simp; intro h9; apply hL; rw [h9]; rfl
      have HLE := Lib.hid (show L ≠ [] from fun h9 => hL (by rw [h9]; rfl))
      clear h0 hL
      go_wp2
      go_ret
      exact ⟨false, rfl, HF.out.bel, ⟨(by intro h9; cases h9), (fun h9 => absurd (HE.out.2 h9.2) HLE.out)⟩⟩
  · have h0b : (chk2 [r] a == 0) = false := by simpa using h0
    have HC0 := Lib.hid h0
    clear h0
    go_wp2
    go_ret
    exact ⟨false, rfl, HF.out.bel, ⟨(by intro h9; cases h9), (fun h9 => absurd h9.1 HC0.out)⟩⟩
/-- The laws' fixed call. -/
def kL : List Bx := [⟨0, 0, 3, 3⟩, ⟨2, 2, 5, 5⟩]
def kW : List Bx := [⟨0, 0, 3, 1⟩, ⟨0, 2, 5, 3⟩, ⟨2, 4, 5, 5⟩]
theorem kL_chk : chk2 kL [] = 0 := by decide
theorem kL_in (x y : Int) : cA kL x y = true ↔ (0 ≤ x ∧ x ≤ 3 ∧ 0 ≤ y ∧ y ≤ 3) ∨ (2 ≤ x ∧ x ≤ 5 ∧ 2 ≤ y ∧ y ≤ 5) := by
  rw [cA_iff]
  unfold inA kL hasP
  simp
theorem kW_form : FormOf (fun x y => cA kL x y = true) kW := by
  refine ⟨[⟨0, 1, [⟨0, 3⟩]⟩, ⟨2, 3, [⟨0, 5⟩]⟩, ⟨4, 5, [⟨2, 5⟩]⟩], ⟨?_, ?_, ?_, ?_, ?_⟩, rfl⟩
  · intro b hb; simp at hb; rcases hb with rfl | rfl | rfl <;> decide
  · intro b hb; simp at hb; rcases hb with rfl | rfl | rfl <;> simp
  · intro b hb y h1 h2
    simp at hb
    rcases hb with rfl | rfl | rfl <;> simp at h1 h2 <;> refine ⟨fun r hr => by simp at hr; subst hr; decide, List.pairwise_singleton _ _, fun x => ?_⟩ <;> rw [kL_in] <;> simp [inR] <;> omega
  · simp
  · intro x y h
    rw [kL_in] at h
    simp
    omega
theorem kW_only {L : List Bx} (h : FormOf (Cts (fun p q : Bool => p || q) kL []) L) : L = kW := (form_union h).uniq kW_form
theorem kL_tot : tot (cA kL) = 28 := by
  have h := kW_form.area (fun x y hx => by rw [kL_in] at hx; omega)
  rw [← h]; decide
theorem row_new (w : World) (cs : Array Value) (M : List Bx) (hc : cs.toList = elR.encs M) (hm : M.length ≤ 1000) {g : Nat} (hg : w.heap.size = g) : ERd elR (w.alloc (.cells cs 39)) (.slice (some ⟨g, 0, none⟩) M.length M.length) M := ERd.of_own elR_ok (EOwn.block elR_ok (Blk.newAt hg) hc (by omega))
set_option maxRecDepth 100000 in
set_option maxHeartbeats 4000000 in
theorem known13_any (w : World) : Calls Try.prog 10 #[] w fun e w' => e = .returned (.bool true) ∧ Below w.heap.size w w' := by
  have HR := Lib.hid (row_new w (elR.encs kL).toArray kL rfl (by decide) rfl)
  have HAL := Lib.hid (show Below w.heap.size w (w.alloc (.cells (elR.encs kL).toArray 39)) from (Below.refl _ _).alloc (Nat.le_refl _) _)
  have HU := Lib.hid (union_any _ _ kL HR.out (by decide) (fun _ => by decide))
  rw [kL_chk] at HU
  simp only [kL, elR, El.encs, List.flatMap_cons, List.flatMap_nil, List.cons_append, List.nil_append, List.length_cons, List.length_nil, Nat.zero_add, Nat.reduceAdd] at HU HAL HR
  go_enter Try.func10, Try.ntmps10
  go_wp2_with fail
  refine HU.out.mono ?_
  rintro e w1 ⟨v1, L, rfl, hf, hok, -, -⟩
  have hL : L = kW := kW_only (hok rfl)
  subst hL
  have HF1 := Lib.hid hf
  have HB1 := Lib.hid (below_trans HAL.out hf.bel)
  have HA := Lib.hid (area13_any w1 _ kL (HR.out.below hf.bel) (by decide) (fun _ => by decide))
  clear hf hok HU
  go_wp2_with fail
  refine HA.out.mono ?_
  rintro e w2 ⟨n, rfl, hn, -, -, -, hb⟩
  have hn2 : n = 28 := (hn kL_chk).trans kL_tot
  subst hn2
  rw [kL_chk]
  have HB2 := Lib.hid (below_trans HB1.out hb)
  have HF2 := Lib.hid (HF1.out.own.below hb)
  have HAW := Lib.hid (show Below w2.heap.size w2 (w2.alloc (.cells (elR.encs kW).toArray 39)) from (Below.refl _ _).alloc (Nat.le_refl _) _)
  have HW := Lib.hid (row_new w2 (elR.encs kW).toArray kW rfl (by decide) rfl)
  have HSR := Lib.hid (rrects13_any _ v1 _ kW (ERd.of_own elR_ok (HF2.out.below HAW.out)) HW.out)
  simp only [kW, elR, El.encs, List.flatMap_cons, List.flatMap_nil, List.cons_append, List.nil_append, List.length_cons, List.length_nil, Nat.zero_add, Nat.reduceAdd] at HSR HAW HW
  clear hb hn HA
  go_wp2_with fail
  refine HSR.out.mono ?_
  rintro e w3 ⟨rfl, hb⟩
  have HB3 := Lib.hid (below_trans HB2.out (below_trans HAW.out hb))
  clear hb
  go_wp2
  go_ret
  exact ⟨rfl, HB3.out⟩
end Go.Proofs.Ytimfcgnnfgoaaaa
