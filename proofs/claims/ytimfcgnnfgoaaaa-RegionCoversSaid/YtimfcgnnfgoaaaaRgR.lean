/- region: the document's Edges, by contract. -/
import Derived.Test.YtimfcgnnfgoaaaaRgK
import Derived.Deep.RegionHeld3
import Derived.Deep.DeepCutAuto
namespace Go.Proofs.Ytimfcgnnfgoaaaa
set_option linter.unusedVariables false
set_option linter.unusedSimpArgs false
open Go.RowKit
/-- Edges of rectangles: of each the first number, and the one behind its last. -/
structure EdR (lo hi : Bx → Int) (L : List Bx) (xs : List Int) : Prop where
  lt : xs.Pairwise (· < ·)
  mem : ∀ u, u ∈ xs ↔ u = 0 ∨ u = 65536 ∨ ∃ r ∈ L, u = lo r ∨ u = hi r + 1
  len : xs.length ≤ 2 + 2 * L.length
theorem EdR.start (lo hi : Bx → Int) : EdR lo hi [] [0, 65536] := ⟨by simp, fun u => by simp, by simp⟩
theorem EdR.step {lo hi : Bx → Int} {L : List Bx} {xs X1 X2 : List Int} {r : Bx} (h : EdR lo hi L xs) (h1 : PutR xs (lo r) X1) (h2 : PutR X1 (hi r + 1) X2) : EdR lo hi (L ++ [r]) X2 := by
  refine ⟨h2.lt, fun u => ?_, by have := h.len; have := h1.len; have := h2.len; simp; omega⟩
  rw [h2.mem, h1.mem, h.mem]
  constructor
  · rintro (((h | h | ⟨q, hq, h⟩) | h) | h)
    · exact .inl h
    · exact .inr (.inl h)
    · exact .inr (.inr ⟨q, by simp [hq], h⟩)
    · exact .inr (.inr ⟨r, by simp, .inl h⟩)
    · exact .inr (.inr ⟨r, by simp, .inr h⟩)
  · rintro (h | h | ⟨q, hq, h⟩)
    · exact .inl (.inl (.inl h))
    · exact .inl (.inl (.inr (.inl h)))
    · rcases List.mem_append.1 hq with hq | hq
      · exact .inl (.inl (.inr (.inr ⟨q, hq, h⟩)))
      · simp at hq
        subst hq
        rcases h with h | h
        · exact .inl (.inr h)
        · exact .inr h
/-- What Edges hands back. -/
def EdP (w : World) (lo hi : Bx → Int) (L : List Bx) (e : Ending) (w' : World) : Prop := ∃ v xs, e = .returned v ∧ ERd elI w' v xs ∧ Below w.heap.size w w' ∧ EdR lo hi L xs
theorem EdP.intro {w w' : World} {lo hi : Bx → Int} {L : List Bx} {v : Value} {xs : List Int} (h : ERd elI w' v xs) (hb : Below w.heap.size w w') (he : EdR lo hi L xs) : EdP w lo hi L (.returned v) w' := ⟨v, xs, rfl, h, hb, he⟩
set_option maxRecDepth 100000 in
set_option maxHeartbeats 8000000 in
theorem edgesX (w : World) (v1 v2 : Value) (a b : List Bx) (h1 : ERd elR w v1 a) (h2 : ERd elR w v2 b) (hl : a.length + b.length ≤ 600) (ha : rightA a) (hb : rightA b) :
    Calls Try.prog 31 #[v1, v2, .bool false] w (EdP w (·.x0) (·.x1) (a ++ b)) := by
  obtain ⟨A1, c1, rfl, -, -⟩ := h1.shape
  obtain ⟨A2, c2, rfl, -, -⟩ := h2.shape
  have H1 := Lib.hid h1
  have H2 := Lib.hid h2
  have HRI := Lib.hid (show rightA (a ++ b) from fun r hr => (List.mem_append.1 hr).elim (ha r) (hb r))
  clear h1 h2 ha hb
  obtain ⟨n, hn⟩ : ∃ n, n = a.length := ⟨_, rfl⟩
  obtain ⟨m, hm⟩ : ∃ m, m = b.length := ⟨_, rfl⟩
  rw [← hn] at H1 hl ⊢
  rw [← hm] at H2 hl ⊢
  have HN := Lib.hid hn; have HM := Lib.hid hm; clear hn hm
  have hW0 : Below w.heap.size w (w.alloc (.cells #[.int .i64 0, .int .i64 65536] 3)) := (Below.refl _ _).alloc (Nat.le_refl _) _
  have HS0 := Lib.hid (show ERd elI (w.alloc (.cells #[.int .i64 0, .int .i64 65536] 3)) (.slice (some ⟨w.heap.size, 0, none⟩) 2 2) [0, 65536] from ERd.of_own elI_ok (EOwn.block (M := [0, 65536]) elI_ok (Blk.new w elI.T _) rfl (by simp)))
  have HW0 := Lib.hid hW0
  have hnm : wrap64 ((n : Int) + (m : Int)) = ((n + m : Nat) : Int) := by unfold wrap64; omega
  clear hW0
  go_enter Try.func31, Try.ntmps31
  go_wp2_with fail
  go_loopw [7, 8] (fun v i wr => ∃ (k : Nat) (v0 : Value) (xs : List Int), k ≤ n + m ∧ v = v0 ∧ i = .int .i64 (k : Int) ∧ Hid (ERd elI wr v0 xs ∧ Below w.heap.size w wr ∧ EdR (·.x0) (·.x1) ((a ++ b).take k) xs)) (fun _ i _ => n + m - (intOf i).toNat)
  case atStart => exact ⟨0, _, [0, 65536], Nat.zero_le _, rfl, rfl, Lib.hid ⟨HS0.out, HW0.out, by simpa using EdR.start _ _⟩⟩
  case round =>
    rename World => wr
    obtain ⟨k, v0, xs, hk, hv, rfl, HF⟩ := hrel
    have hv' := hv.symm
    clear hv
    subst hv'
    have hw1 : wrap64 ((k : Int) + 1) = (k : Int) + 1 := by unfold wrap64; omega
    by_cases hlt : k < n + m
    · have hki : (k : Int) < ((n + m : Nat) : Int) := by omega
      have hkl : k < (a ++ b).length := by rw [List.length_append, ← HN.out, ← HM.out]; exact hlt
      have HTK := Lib.hid (show (a ++ b).take (k + 1) = (a ++ b).take k ++ [(a ++ b)[k]] from List.take_succ_eq_append_getElem hkl)
      have hrx := HRI.out _ (List.getElem_mem hkl)
      have HXL := Lib.hid (show xs.length ≤ 1300 from by have h9 := HF.out.2.2.len; rw [List.length_take] at h9; omega)
      have hz0 : Below wr.heap.size wr (wr.alloc (.cells #[.int .i64 0, .int .i64 0, .int .i64 0, .int .i64 0] 39)) := (Below.refl _ _).alloc (Nat.le_refl _) _
      have hga : k < n → ∃ g o, A1 = some ⟨g, o, none⟩ ∧ (wr.alloc (.cells #[.int .i64 0, .int .i64 0, .int .i64 0, .int .i64 0] 39)).cell? ⟨g, o + k * 4, none⟩ = some (.int .i64 (a ++ b)[k].x0) ∧ (wr.alloc (.cells #[.int .i64 0, .int .i64 0, .int .i64 0, .int .i64 0] 39)).cell? ⟨g, o + k * 4 + 1, none⟩ = some (.int .i64 (a ++ b)[k].y0) ∧ (wr.alloc (.cells #[.int .i64 0, .int .i64 0, .int .i64 0, .int .i64 0] 39)).cell? ⟨g, o + k * 4 + 2, none⟩ = some (.int .i64 (a ++ b)[k].x1) ∧ (wr.alloc (.cells #[.int .i64 0, .int .i64 0, .int .i64 0, .int .i64 0] 39)).cell? ⟨g, o + k * 4 + 3, none⟩ = some (.int .i64 (a ++ b)[k].y1) := fun hka => by
        have hx : a[k]? = some (a ++ b)[k] := by rw [← List.getElem?_append_left (l₂ := b) (by rw [← HN.out]; exact hka), List.getElem?_eq_getElem hkl]
        obtain ⟨g, o, e, -, h⟩ := (H1.out.below (below_trans HF.out.2.1 hz0)).rect hx
        exact ⟨g, o, e, h⟩
      have hgb : ¬ k < n → ∃ g o, A2 = some ⟨g, o, none⟩ ∧ (wr.alloc (.cells #[.int .i64 0, .int .i64 0, .int .i64 0, .int .i64 0] 39)).cell? ⟨g, o + (k - n) * 4, none⟩ = some (.int .i64 (a ++ b)[k].x0) ∧ (wr.alloc (.cells #[.int .i64 0, .int .i64 0, .int .i64 0, .int .i64 0] 39)).cell? ⟨g, o + (k - n) * 4 + 1, none⟩ = some (.int .i64 (a ++ b)[k].y0) ∧ (wr.alloc (.cells #[.int .i64 0, .int .i64 0, .int .i64 0, .int .i64 0] 39)).cell? ⟨g, o + (k - n) * 4 + 2, none⟩ = some (.int .i64 (a ++ b)[k].x1) ∧ (wr.alloc (.cells #[.int .i64 0, .int .i64 0, .int .i64 0, .int .i64 0] 39)).cell? ⟨g, o + (k - n) * 4 + 3, none⟩ = some (.int .i64 (a ++ b)[k].y1) := fun hka => by
        have hx : b[k - n]? = some (a ++ b)[k] := by rw [← List.getElem?_eq_getElem hkl, List.getElem?_append_right (by rw [← HN.out]; omega), ← HN.out]
        obtain ⟨g, o, e, -, h⟩ := (H2.out.below (below_trans HF.out.2.1 hz0)).rect hx
        exact ⟨g, o, e, h⟩
      generalize (a ++ b)[k] = r at *
      obtain ⟨x0, y0, x1, y1⟩ := r
      unfold rightR at hrx
      simp only at hga hgb hrx
      have hwh : wrap64 (x1 + 1) = x1 + 1 := by unfold wrap64; omega
      have hwh2 : IntKind.i64.wrap (x1 + 1) = x1 + 1 := by rw [IntKind.wrap_i64]; omega
      have HFI := Lib.hid (fun (X1 X2 : List Int) (v9 : Value) (X : World) (h1 : PutR xs x0 X1) (h2 : PutR X1 (x1 + 1) X2) (h3 : ERd elI X v9 X2) (h4 : Below w.heap.size w X) => (show ERd elI X v9 X2 ∧ Below w.heap.size w X ∧ EdR (·.x0) (·.x1) ((a ++ b).take (k + 1)) X2 from ⟨h3, h4, by rw [HTK.out]; exact HF.out.2.2.step (r := ⟨x0, y0, x1, y1⟩) h1 h2⟩))
      clear hrx HTK hkl hz0
      have hal : Below wr.heap.size wr (wr.alloc (.cells #[.int .i64 x0, .int .i64 y0, .int .i64 x1, .int .i64 y1] 39)) := (Below.refl _ _).alloc (Nat.le_refl _) _
      have HWA := Lib.hid hal
      have HWB := Lib.hid (Blk.new wr 39 #[.int .i64 x0, .int .i64 y0, .int .i64 x1, .int .i64 y1])
      clear hal
      by_cases hka : k < n
      · obtain ⟨g, o, rfl, a0, a1, a2, a3⟩ := hga hka
        have hki2 : (k : Int) < (n : Int) := by omega
        clear hga hgb hka
        have HP1 := Lib.hid (fun X (hX : Below wr.heap.size wr X) => rput13_any X v0 xs x0 (HF.out.1.below hX) (by have := HXL.out; omega) HF.out.2.2.lt)
        have HCL := Lib.hid (fun X (hX : Below (wr.alloc (.cells #[.int .i64 x0, .int .i64 y0, .int .i64 x1, .int .i64 y1] 39)).heap.size (wr.alloc (.cells #[.int .i64 x0, .int .i64 y0, .int .i64 x1, .int .i64 y1] 39)) X) => (show X.cell? ⟨wr.heap.size, 0, none⟩ = some (.int .i64 x0) ∧ X.cell? ⟨wr.heap.size, 2, none⟩ = some (.int .i64 x1) from ⟨(HWB.out.thru0 hX).cell 0, (HWB.out.thru0 hX).cell 2⟩))
        have HK0 := Lib.hid (HCL.out _ (Below.refl _ _))
        have HD := Lib.hid (show Below (wr.alloc (.cells #[.int .i64 x0, .int .i64 y0, .int .i64 x1, .int .i64 y1] 39)).heap.size (wr.alloc (.cells #[.int .i64 x0, .int .i64 y0, .int .i64 x1, .int .i64 y1] 39)) (wr.alloc (.cells #[.int .i64 x0, .int .i64 y0, .int .i64 x1, .int .i64 y1] 39)).drew from below_drawn (Below.refl _ _) 1)
        have HK1 := Lib.hid (HCL.out _ HD.out)
        go_upto_region 11 with fail
        clear a0 a1 a2 a3
        go_region_held3 (fun w' => w'.cell? ⟨wr.heap.size, 0, none⟩ = some (.int .i64 x0) ∧ w'.cell? ⟨wr.heap.size, 2, none⟩ = some (.int .i64 x1)) (first | with_reducible exact HK0.out | with_reducible exact HK1.out | with_reducible exact HK9.out | with_reducible exact HK8.out) (first
          | (go_at_call 45; (with_reducible refine (rput13_any _ _ X1 (x1 + 1) HR8.out HX8.out HP8.out.lt).mono ?_); intro e w9 hP; obtain ⟨v9, X2, he9, hr9, hp9, hb9⟩ := hP; subst he9; have HB9 := Lib.hid (below_trans HB8.out hb9); have HK9 := Lib.hid (HCL.out w9 HB9.out); have HFN := Lib.hid (HFI.out X1 X2 v9 w9 HP8.out hp9 hr9 (below_trans HF.out.2.1 (below_trans HWA.out HB9.out))); clear hr9 hp9 hb9)
          | (go_at_call 45; (with_reducible refine (HP1.out _ (by first | exact below_trans HWA.out HD.out | exact HWA.out)).mono ?_); intro e w8 hP; obtain ⟨v8, X1, he8, hr8, hp8, hb8⟩ := hP; subst he8; have HB8 := Lib.hid (below_trans (show Below (wr.alloc (.cells #[.int .i64 x0, .int .i64 y0, .int .i64 x1, .int .i64 y1] 39)).heap.size (wr.alloc (.cells #[.int .i64 x0, .int .i64 y0, .int .i64 x1, .int .i64 y1] 39)) _ from by first | exact HD.out | exact Below.refl _ _) hb8); have HK8 := Lib.hid (HCL.out w8 HB8.out); have HR8 := Lib.hid hr8; have HP8 := Lib.hid hp8; have HX8 := Lib.hid (show X1.length ≤ 100000 from by have := hp8.len; have := HXL.out; omega); clear hr8 hp8 hb8))
        all_goals
          clear HK0 HK1 HK8 HK9 HCL HP1 HD
          go_wp2_with fail
          go_roundw
          case rel => exact ⟨k + 1, _, X2, by omega, rfl, by go_num, HFN⟩
          case measure =>
            try rw [hw1]
            simp only [intOf]
            omega
      · obtain ⟨g, o, rfl, a0, a1, a2, a3⟩ := hgb hka
        have hki2 : ¬ (k : Int) < (n : Int) := by omega
        have hkn : wrap64 ((k : Int) - (n : Int)) = ((k - n : Nat) : Int) := by unfold wrap64; omega
        have hkm : ((k - n : Nat) : Int) < (m : Int) := by omega
        clear hga hgb hka
        have HP1 := Lib.hid (fun X (hX : Below wr.heap.size wr X) => rput13_any X v0 xs x0 (HF.out.1.below hX) (by have := HXL.out; omega) HF.out.2.2.lt)
        have HCL := Lib.hid (fun X (hX : Below (wr.alloc (.cells #[.int .i64 x0, .int .i64 y0, .int .i64 x1, .int .i64 y1] 39)).heap.size (wr.alloc (.cells #[.int .i64 x0, .int .i64 y0, .int .i64 x1, .int .i64 y1] 39)) X) => (show X.cell? ⟨wr.heap.size, 0, none⟩ = some (.int .i64 x0) ∧ X.cell? ⟨wr.heap.size, 2, none⟩ = some (.int .i64 x1) from ⟨(HWB.out.thru0 hX).cell 0, (HWB.out.thru0 hX).cell 2⟩))
        have HK0 := Lib.hid (HCL.out _ (Below.refl _ _))
        have HD := Lib.hid (show Below (wr.alloc (.cells #[.int .i64 x0, .int .i64 y0, .int .i64 x1, .int .i64 y1] 39)).heap.size (wr.alloc (.cells #[.int .i64 x0, .int .i64 y0, .int .i64 x1, .int .i64 y1] 39)) (wr.alloc (.cells #[.int .i64 x0, .int .i64 y0, .int .i64 x1, .int .i64 y1] 39)).drew from below_drawn (Below.refl _ _) 1)
        have HK1 := Lib.hid (HCL.out _ HD.out)
        go_upto_region 11 with fail
        clear a0 a1 a2 a3
        go_region_held3 (fun w' => w'.cell? ⟨wr.heap.size, 0, none⟩ = some (.int .i64 x0) ∧ w'.cell? ⟨wr.heap.size, 2, none⟩ = some (.int .i64 x1)) (first | with_reducible exact HK0.out | with_reducible exact HK1.out | with_reducible exact HK9.out | with_reducible exact HK8.out) (first
          | (go_at_call 45; (with_reducible refine (rput13_any _ _ X1 (x1 + 1) HR8.out HX8.out HP8.out.lt).mono ?_); intro e w9 hP; obtain ⟨v9, X2, he9, hr9, hp9, hb9⟩ := hP; subst he9; have HB9 := Lib.hid (below_trans HB8.out hb9); have HK9 := Lib.hid (HCL.out w9 HB9.out); have HFN := Lib.hid (HFI.out X1 X2 v9 w9 HP8.out hp9 hr9 (below_trans HF.out.2.1 (below_trans HWA.out HB9.out))); clear hr9 hp9 hb9)
          | (go_at_call 45; (with_reducible refine (HP1.out _ (by first | exact below_trans HWA.out HD.out | exact HWA.out)).mono ?_); intro e w8 hP; obtain ⟨v8, X1, he8, hr8, hp8, hb8⟩ := hP; subst he8; have HB8 := Lib.hid (below_trans (show Below (wr.alloc (.cells #[.int .i64 x0, .int .i64 y0, .int .i64 x1, .int .i64 y1] 39)).heap.size (wr.alloc (.cells #[.int .i64 x0, .int .i64 y0, .int .i64 x1, .int .i64 y1] 39)) _ from by first | exact HD.out | exact Below.refl _ _) hb8); have HK8 := Lib.hid (HCL.out w8 HB8.out); have HR8 := Lib.hid hr8; have HP8 := Lib.hid hp8; have HX8 := Lib.hid (show X1.length ≤ 100000 from by have := hp8.len; have := HXL.out; omega); clear hr8 hp8 hb8))
        all_goals
          clear HK0 HK1 HK8 HK9 HCL HP1 HD
          go_wp2_with fail
          go_roundw
          case rel => exact ⟨k + 1, _, X2, by omega, rfl, by go_num, HFN⟩
          case measure =>
            try rw [hw1]
            simp only [intOf]
            omega
    · have hki : ¬ (k : Int) < ((n + m : Nat) : Int) := by omega
      have HZ := Lib.hid (show EdP w (·.x0) (·.x1) (a ++ b) (.returned v0) wr from EdP.intro HF.out.1 HF.out.2.1 (by have h9 := HF.out.2.2; rw [List.take_of_length_le (by rw [List.length_append, ← HN.out, ← HM.out]; omega)] at h9; exact h9))
      clear hlt
      go_wp2
      go_ret
      exact HZ.out
set_option maxRecDepth 100000 in
set_option maxHeartbeats 8000000 in
theorem edgesY (w : World) (v1 v2 : Value) (a b : List Bx) (h1 : ERd elR w v1 a) (h2 : ERd elR w v2 b) (hl : a.length + b.length ≤ 600) (ha : rightA a) (hb : rightA b) :
    Calls Try.prog 31 #[v1, v2, .bool true] w (EdP w (·.y0) (·.y1) (a ++ b)) := by
  obtain ⟨A1, c1, rfl, -, -⟩ := h1.shape
  obtain ⟨A2, c2, rfl, -, -⟩ := h2.shape
  have H1 := Lib.hid h1
  have H2 := Lib.hid h2
  have HRI := Lib.hid (show rightA (a ++ b) from fun r hr => (List.mem_append.1 hr).elim (ha r) (hb r))
  clear h1 h2 ha hb
  obtain ⟨n, hn⟩ : ∃ n, n = a.length := ⟨_, rfl⟩
  obtain ⟨m, hm⟩ : ∃ m, m = b.length := ⟨_, rfl⟩
  rw [← hn] at H1 hl ⊢
  rw [← hm] at H2 hl ⊢
  have HN := Lib.hid hn; have HM := Lib.hid hm; clear hn hm
  have hW0 : Below w.heap.size w (w.alloc (.cells #[.int .i64 0, .int .i64 65536] 3)) := (Below.refl _ _).alloc (Nat.le_refl _) _
  have HS0 := Lib.hid (show ERd elI (w.alloc (.cells #[.int .i64 0, .int .i64 65536] 3)) (.slice (some ⟨w.heap.size, 0, none⟩) 2 2) [0, 65536] from ERd.of_own elI_ok (EOwn.block (M := [0, 65536]) elI_ok (Blk.new w elI.T _) rfl (by simp)))
  have HW0 := Lib.hid hW0
  have hnm : wrap64 ((n : Int) + (m : Int)) = ((n + m : Nat) : Int) := by unfold wrap64; omega
  clear hW0
  go_enter Try.func31, Try.ntmps31
  go_wp2_with fail
  go_loopw [7, 8] (fun v i wr => ∃ (k : Nat) (v0 : Value) (xs : List Int), k ≤ n + m ∧ v = v0 ∧ i = .int .i64 (k : Int) ∧ Hid (ERd elI wr v0 xs ∧ Below w.heap.size w wr ∧ EdR (·.y0) (·.y1) ((a ++ b).take k) xs)) (fun _ i _ => n + m - (intOf i).toNat)
  case atStart => exact ⟨0, _, [0, 65536], Nat.zero_le _, rfl, rfl, Lib.hid ⟨HS0.out, HW0.out, by simpa using EdR.start _ _⟩⟩
  case round =>
    rename World => wr
    obtain ⟨k, v0, xs, hk, hv, rfl, HF⟩ := hrel
    have hv' := hv.symm
    clear hv
    subst hv'
    have hw1 : wrap64 ((k : Int) + 1) = (k : Int) + 1 := by unfold wrap64; omega
    by_cases hlt : k < n + m
    · have hki : (k : Int) < ((n + m : Nat) : Int) := by omega
      have hkl : k < (a ++ b).length := by rw [List.length_append, ← HN.out, ← HM.out]; exact hlt
      have HTK := Lib.hid (show (a ++ b).take (k + 1) = (a ++ b).take k ++ [(a ++ b)[k]] from List.take_succ_eq_append_getElem hkl)
      have hrx := HRI.out _ (List.getElem_mem hkl)
      have HXL := Lib.hid (show xs.length ≤ 1300 from by have h9 := HF.out.2.2.len; rw [List.length_take] at h9; omega)
      have hz0 : Below wr.heap.size wr (wr.alloc (.cells #[.int .i64 0, .int .i64 0, .int .i64 0, .int .i64 0] 39)) := (Below.refl _ _).alloc (Nat.le_refl _) _
      have hga : k < n → ∃ g o, A1 = some ⟨g, o, none⟩ ∧ (wr.alloc (.cells #[.int .i64 0, .int .i64 0, .int .i64 0, .int .i64 0] 39)).cell? ⟨g, o + k * 4, none⟩ = some (.int .i64 (a ++ b)[k].x0) ∧ (wr.alloc (.cells #[.int .i64 0, .int .i64 0, .int .i64 0, .int .i64 0] 39)).cell? ⟨g, o + k * 4 + 1, none⟩ = some (.int .i64 (a ++ b)[k].y0) ∧ (wr.alloc (.cells #[.int .i64 0, .int .i64 0, .int .i64 0, .int .i64 0] 39)).cell? ⟨g, o + k * 4 + 2, none⟩ = some (.int .i64 (a ++ b)[k].x1) ∧ (wr.alloc (.cells #[.int .i64 0, .int .i64 0, .int .i64 0, .int .i64 0] 39)).cell? ⟨g, o + k * 4 + 3, none⟩ = some (.int .i64 (a ++ b)[k].y1) := fun hka => by
        have hx : a[k]? = some (a ++ b)[k] := by rw [← List.getElem?_append_left (l₂ := b) (by rw [← HN.out]; exact hka), List.getElem?_eq_getElem hkl]
        obtain ⟨g, o, e, -, h⟩ := (H1.out.below (below_trans HF.out.2.1 hz0)).rect hx
        exact ⟨g, o, e, h⟩
      have hgb : ¬ k < n → ∃ g o, A2 = some ⟨g, o, none⟩ ∧ (wr.alloc (.cells #[.int .i64 0, .int .i64 0, .int .i64 0, .int .i64 0] 39)).cell? ⟨g, o + (k - n) * 4, none⟩ = some (.int .i64 (a ++ b)[k].x0) ∧ (wr.alloc (.cells #[.int .i64 0, .int .i64 0, .int .i64 0, .int .i64 0] 39)).cell? ⟨g, o + (k - n) * 4 + 1, none⟩ = some (.int .i64 (a ++ b)[k].y0) ∧ (wr.alloc (.cells #[.int .i64 0, .int .i64 0, .int .i64 0, .int .i64 0] 39)).cell? ⟨g, o + (k - n) * 4 + 2, none⟩ = some (.int .i64 (a ++ b)[k].x1) ∧ (wr.alloc (.cells #[.int .i64 0, .int .i64 0, .int .i64 0, .int .i64 0] 39)).cell? ⟨g, o + (k - n) * 4 + 3, none⟩ = some (.int .i64 (a ++ b)[k].y1) := fun hka => by
        have hx : b[k - n]? = some (a ++ b)[k] := by rw [← List.getElem?_eq_getElem hkl, List.getElem?_append_right (by rw [← HN.out]; omega), ← HN.out]
        obtain ⟨g, o, e, -, h⟩ := (H2.out.below (below_trans HF.out.2.1 hz0)).rect hx
        exact ⟨g, o, e, h⟩
      generalize (a ++ b)[k] = r at *
      obtain ⟨x0, y0, x1, y1⟩ := r
      unfold rightR at hrx
      simp only at hga hgb hrx
      have hwh : wrap64 (y1 + 1) = y1 + 1 := by unfold wrap64; omega
      have hwh2 : IntKind.i64.wrap (y1 + 1) = y1 + 1 := by rw [IntKind.wrap_i64]; omega
      have HFI := Lib.hid (fun (X1 X2 : List Int) (v9 : Value) (X : World) (h1 : PutR xs y0 X1) (h2 : PutR X1 (y1 + 1) X2) (h3 : ERd elI X v9 X2) (h4 : Below w.heap.size w X) => (show ERd elI X v9 X2 ∧ Below w.heap.size w X ∧ EdR (·.y0) (·.y1) ((a ++ b).take (k + 1)) X2 from ⟨h3, h4, by rw [HTK.out]; exact HF.out.2.2.step (r := ⟨x0, y0, x1, y1⟩) h1 h2⟩))
      clear hrx HTK hkl hz0
      have hal : Below wr.heap.size wr (wr.alloc (.cells #[.int .i64 x0, .int .i64 y0, .int .i64 x1, .int .i64 y1] 39)) := (Below.refl _ _).alloc (Nat.le_refl _) _
      have HWA := Lib.hid hal
      have HWB := Lib.hid (Blk.new wr 39 #[.int .i64 x0, .int .i64 y0, .int .i64 x1, .int .i64 y1])
      clear hal
      by_cases hka : k < n
      · obtain ⟨g, o, rfl, a0, a1, a2, a3⟩ := hga hka
        have hki2 : (k : Int) < (n : Int) := by omega
        clear hga hgb hka
        have HP1 := Lib.hid (fun X (hX : Below wr.heap.size wr X) => rput13_any X v0 xs y0 (HF.out.1.below hX) (by have := HXL.out; omega) HF.out.2.2.lt)
        have HCL := Lib.hid (fun X (hX : Below (wr.alloc (.cells #[.int .i64 x0, .int .i64 y0, .int .i64 x1, .int .i64 y1] 39)).heap.size (wr.alloc (.cells #[.int .i64 x0, .int .i64 y0, .int .i64 x1, .int .i64 y1] 39)) X) => (show X.cell? ⟨wr.heap.size, 1, none⟩ = some (.int .i64 y0) ∧ X.cell? ⟨wr.heap.size, 3, none⟩ = some (.int .i64 y1) from ⟨(HWB.out.thru0 hX).cell 1, (HWB.out.thru0 hX).cell 3⟩))
        have HK0 := Lib.hid (HCL.out _ (Below.refl _ _))
        have HD := Lib.hid (show Below (wr.alloc (.cells #[.int .i64 x0, .int .i64 y0, .int .i64 x1, .int .i64 y1] 39)).heap.size (wr.alloc (.cells #[.int .i64 x0, .int .i64 y0, .int .i64 x1, .int .i64 y1] 39)) (wr.alloc (.cells #[.int .i64 x0, .int .i64 y0, .int .i64 x1, .int .i64 y1] 39)).drew from below_drawn (Below.refl _ _) 1)
        have HK1 := Lib.hid (HCL.out _ HD.out)
        go_upto_region 10 with fail
        clear a0 a1 a2 a3
        go_region_held3 (fun w' => w'.cell? ⟨wr.heap.size, 1, none⟩ = some (.int .i64 y0) ∧ w'.cell? ⟨wr.heap.size, 3, none⟩ = some (.int .i64 y1)) (first | with_reducible exact HK0.out | with_reducible exact HK1.out | with_reducible exact HK9.out | with_reducible exact HK8.out) (first
          | (go_at_call 45; (with_reducible refine (rput13_any _ _ X1 (y1 + 1) HR8.out HX8.out HP8.out.lt).mono ?_); intro e w9 hP; obtain ⟨v9, X2, he9, hr9, hp9, hb9⟩ := hP; subst he9; have HB9 := Lib.hid (below_trans HB8.out hb9); have HK9 := Lib.hid (HCL.out w9 HB9.out); have HFN := Lib.hid (HFI.out X1 X2 v9 w9 HP8.out hp9 hr9 (below_trans HF.out.2.1 (below_trans HWA.out HB9.out))); clear hr9 hp9 hb9)
          | (go_at_call 45; (with_reducible refine (HP1.out _ (by first | exact below_trans HWA.out HD.out | exact HWA.out)).mono ?_); intro e w8 hP; obtain ⟨v8, X1, he8, hr8, hp8, hb8⟩ := hP; subst he8; have HB8 := Lib.hid (below_trans (show Below (wr.alloc (.cells #[.int .i64 x0, .int .i64 y0, .int .i64 x1, .int .i64 y1] 39)).heap.size (wr.alloc (.cells #[.int .i64 x0, .int .i64 y0, .int .i64 x1, .int .i64 y1] 39)) _ from by first | exact HD.out | exact Below.refl _ _) hb8); have HK8 := Lib.hid (HCL.out w8 HB8.out); have HR8 := Lib.hid hr8; have HP8 := Lib.hid hp8; have HX8 := Lib.hid (show X1.length ≤ 100000 from by have := hp8.len; have := HXL.out; omega); clear hr8 hp8 hb8))
        all_goals
          clear HK0 HK1 HK8 HK9 HCL HP1 HD
          go_wp2_with fail
          go_roundw
          case rel => exact ⟨k + 1, _, X2, by omega, rfl, by go_num, HFN⟩
          case measure =>
            try rw [hw1]
            simp only [intOf]
            omega
      · obtain ⟨g, o, rfl, a0, a1, a2, a3⟩ := hgb hka
        have hki2 : ¬ (k : Int) < (n : Int) := by omega
        have hkn : wrap64 ((k : Int) - (n : Int)) = ((k - n : Nat) : Int) := by unfold wrap64; omega
        have hkm : ((k - n : Nat) : Int) < (m : Int) := by omega
        clear hga hgb hka
        have HP1 := Lib.hid (fun X (hX : Below wr.heap.size wr X) => rput13_any X v0 xs y0 (HF.out.1.below hX) (by have := HXL.out; omega) HF.out.2.2.lt)
        have HCL := Lib.hid (fun X (hX : Below (wr.alloc (.cells #[.int .i64 x0, .int .i64 y0, .int .i64 x1, .int .i64 y1] 39)).heap.size (wr.alloc (.cells #[.int .i64 x0, .int .i64 y0, .int .i64 x1, .int .i64 y1] 39)) X) => (show X.cell? ⟨wr.heap.size, 1, none⟩ = some (.int .i64 y0) ∧ X.cell? ⟨wr.heap.size, 3, none⟩ = some (.int .i64 y1) from ⟨(HWB.out.thru0 hX).cell 1, (HWB.out.thru0 hX).cell 3⟩))
        have HK0 := Lib.hid (HCL.out _ (Below.refl _ _))
        have HD := Lib.hid (show Below (wr.alloc (.cells #[.int .i64 x0, .int .i64 y0, .int .i64 x1, .int .i64 y1] 39)).heap.size (wr.alloc (.cells #[.int .i64 x0, .int .i64 y0, .int .i64 x1, .int .i64 y1] 39)) (wr.alloc (.cells #[.int .i64 x0, .int .i64 y0, .int .i64 x1, .int .i64 y1] 39)).drew from below_drawn (Below.refl _ _) 1)
        have HK1 := Lib.hid (HCL.out _ HD.out)
        go_upto_region 10 with fail
        clear a0 a1 a2 a3
        go_region_held3 (fun w' => w'.cell? ⟨wr.heap.size, 1, none⟩ = some (.int .i64 y0) ∧ w'.cell? ⟨wr.heap.size, 3, none⟩ = some (.int .i64 y1)) (first | with_reducible exact HK0.out | with_reducible exact HK1.out | with_reducible exact HK9.out | with_reducible exact HK8.out) (first
          | (go_at_call 45; (with_reducible refine (rput13_any _ _ X1 (y1 + 1) HR8.out HX8.out HP8.out.lt).mono ?_); intro e w9 hP; obtain ⟨v9, X2, he9, hr9, hp9, hb9⟩ := hP; subst he9; have HB9 := Lib.hid (below_trans HB8.out hb9); have HK9 := Lib.hid (HCL.out w9 HB9.out); have HFN := Lib.hid (HFI.out X1 X2 v9 w9 HP8.out hp9 hr9 (below_trans HF.out.2.1 (below_trans HWA.out HB9.out))); clear hr9 hp9 hb9)
          | (go_at_call 45; (with_reducible refine (HP1.out _ (by first | exact below_trans HWA.out HD.out | exact HWA.out)).mono ?_); intro e w8 hP; obtain ⟨v8, X1, he8, hr8, hp8, hb8⟩ := hP; subst he8; have HB8 := Lib.hid (below_trans (show Below (wr.alloc (.cells #[.int .i64 x0, .int .i64 y0, .int .i64 x1, .int .i64 y1] 39)).heap.size (wr.alloc (.cells #[.int .i64 x0, .int .i64 y0, .int .i64 x1, .int .i64 y1] 39)) _ from by first | exact HD.out | exact Below.refl _ _) hb8); have HK8 := Lib.hid (HCL.out w8 HB8.out); have HR8 := Lib.hid hr8; have HP8 := Lib.hid hp8; have HX8 := Lib.hid (show X1.length ≤ 100000 from by have := hp8.len; have := HXL.out; omega); clear hr8 hp8 hb8))
        all_goals
          clear HK0 HK1 HK8 HK9 HCL HP1 HD
          go_wp2_with fail
          go_roundw
          case rel => exact ⟨k + 1, _, X2, by omega, rfl, by go_num, HFN⟩
          case measure =>
            try rw [hw1]
            simp only [intOf]
            omega
    · have hki : ¬ (k : Int) < ((n + m : Nat) : Int) := by omega
      have HZ := Lib.hid (show EdP w (·.y0) (·.y1) (a ++ b) (.returned v0) wr from EdP.intro HF.out.1 HF.out.2.1 (by have h9 := HF.out.2.2; rw [List.take_of_length_le (by rw [List.length_append, ← HN.out, ← HM.out]; omega)] at h9; exact h9))
      clear hlt
      go_wp2
      go_ret
      exact HZ.out
end Go.Proofs.Ytimfcgnnfgoaaaa
