/- cloak: the document's Find, by contract. -/
import Derived.Test.YtipfhleedfbnaaaCkAt
namespace Go.Proofs.Ytipfhleedfbnaaa
set_option linter.unusedVariables false
set_option linter.unusedSimpArgs false
open Go.RowKit
/-- What is found from a level on upwards. -/
def restK (S : List Pn) (K A px py : Int) : Nat → Option Ck
  | 0 => none
  | l + 1 => seekK S K A l (px / 2 ^ (16 - l)) (py / 2 ^ (16 - l))
theorem rest_step {S : List Pn} {K A px py : Int} (hf : fitsB px py = true) (l : Nat) (hl : l ≤ 16) :
    restK S K A px py (l + 1) = (match atK S K A l (px / 2 ^ (16 - l)) (py / 2 ^ (16 - l)) with
      | some k => some k
      | none => restK S K A px py l) := by
  have := seek_step (S := S) (K := K) (A := A) hf l hl
  show seekK S K A l (px / 2 ^ (16 - l)) (py / 2 ^ (16 - l)) = _
  rw [this]
  cases atK S K A l (px / 2 ^ (16 - l)) (py / 2 ^ (16 - l)) with
  | some k => rfl
  | none => cases l <;> rfl
theorem of_lev {px py : Int} (hf : fitsB px py = true) (l : Nat) (hl : l ≤ 16) : okA 16 px py (l : Int) = true ∧ a0 16 px py (l : Int) = (l : Int) ∧ a1 16 px py (l : Int) = px / 2 ^ (16 - l) ∧ a2 16 px py (l : Int) = py / 2 ^ (16 - l) ∧ okC (l : Int) (px / 2 ^ (16 - l)) (py / 2 ^ (16 - l)) = true := by
  have h2 := lev_ok (px, py) l (by omega) hf
  have e1' : a1 16 px py (l : Int) = px / 2 ^ (16 - l) := by
    have := h2.1; simp only at this
    rw [a1, if_pos this, show ((16 : Int) - (l : Int)).toNat = 16 - l by omega]
  have e2' : a2 16 px py (l : Int) = py / 2 ^ (16 - l) := by
    have := h2.1; simp only at this
    rw [a2, if_pos this, show ((16 : Int) - (l : Int)).toNat = 16 - l by omega]
  have h3 := h2.2.2
  simp only at h3
  rw [e1', e2'] at h3
  exact ⟨h2.1, h2.2.1, e1', e2', h3⟩
structure FSt (w0 : World) (px py K A : Int) (W : World) : Prop where
  h4 : Blk W w0.heap.size 24 #[.int .i64 px, .int .i64 py]
  h5 : Blk W (w0.heap.size + 1) 27 #[.int .i64 K, .int .u64 A]
  h6 : Blk W (w0.heap.size + 1 + 1) 43 #[.int .i64 0, .int .i64 0, .int .i64 0, .int .i64 0, .int .i64 0, .int .i64 0, .int .i64 0, .int .i64 0, .int .i64 0]
  und : Below w0.heap.size w0 W
theorem FSt.below {w0 W X : World} {px py K A : Int} (h : FSt w0 px py K A W) (hb : Below W.heap.size W X) : FSt w0 px py K A X := ⟨h.h4.thru0 hb, h.h5.thru0 hb, h.h6.thru0 hb, below_trans h.und hb⟩
set_option maxRecDepth 100000 in
set_option maxHeartbeats 16000000 in
theorem rfind_any (A : Option Addr) (n c : Nat) (S : List Pn) (K Ar px py : Int) (w : World) (h : Rd w A n c S) (hS : FitS S) (hn : n ≤ 1000000) (hf : fitsB px py = true) :
    Calls Try.prog 9 #[.slice A n c, .agg #[.int .i64 px, .int .i64 py], .agg #[.int .i64 K, .int .u64 Ar]] w fun e w' => AtP (seekK S K Ar 16 px py) w e w' := by
  have HRD := Lib.hid h
  have HOF := Lib.hid (fun l hl => of_lev hf l hl)
  have HST := Lib.hid (fun l hl => rest_step (S := S) (K := K) (A := Ar) hf l hl)
  have HT0 := Lib.hid (show restK S K Ar px py 17 = seekK S K Ar 16 px py by show seekK S K Ar 16 (px / 2 ^ 0) (py / 2 ^ 0) = _; simp)
  clear h hf
  have hA : Below w.heap.size w (((w.alloc (.cells #[.int .i64 px, .int .i64 py] 24)).alloc (.cells #[.int .i64 K, .int .u64 Ar] 27)).alloc (.cells #[.int .i64 0, .int .i64 0, .int .i64 0, .int .i64 0, .int .i64 0, .int .i64 0, .int .i64 0, .int .i64 0, .int .i64 0] 43)) := (((Below.refl _ _).alloc (Nat.le_refl _) _).alloc (by simp) _).alloc (by simp; omega) _
  have hb3 := blk_three w 24 27 43 #[.int .i64 px, .int .i64 py] #[.int .i64 K, .int .u64 Ar] #[.int .i64 0, .int .i64 0, .int .i64 0, .int .i64 0, .int .i64 0, .int .i64 0, .int .i64 0, .int .i64 0, .int .i64 0]
  have HS0 := Lib.hid (show FSt w px py K Ar _ from ⟨hb3.1, hb3.2.1, hb3.2.2, hA⟩)
  have HG6 : Hid (w.heap.size ≤ w.heap.size + 1 + 1) := Lib.hid (by omega)
  clear hA hb3
  generalize seekK S K Ar 16 px py = T at *
  go_enter Try.func9, Try.ntmps9
  go_wp2_with fail
  go_loopw [8] (fun i wr => ∃ m : Nat, m ≤ 17 ∧ i = .int .i64 ((m : Int) - 1) ∧ restK S K Ar px py m = T ∧ Hid (FSt w px py K Ar wr)) (fun i _ => ((intOf i) + 1).toNat)
  case atStart => exact ⟨17, by omega, rfl, HT0.out, HS0⟩
  case round =>
    obtain ⟨m, hm, rfl, hres, HS⟩ := hrel
    cases m with
    | zero =>
      have HRS := Lib.hid (show T = none from hres.symm)
      have hm0 : (((0 : Nat) : Int) - 1) = -1 := by decide
      rw [hm0]
      have HB2 := Lib.hid HS.out.und
      have K6 := Lib.hid HS.out.h6
      clear hres HT0 HS0
      have u6_0 : _ = some (Value.int .i64 0) := K6.out.cell 0
      have u6_1 : _ = some (Value.int .i64 0) := K6.out.cell 1
      have u6_2 : _ = some (Value.int .i64 0) := K6.out.cell 2
      have u6_3 : _ = some (Value.int .i64 0) := K6.out.cell 3
      have u6_4 : _ = some (Value.int .i64 0) := K6.out.cell 4
      have u6_5 : _ = some (Value.int .i64 0) := K6.out.cell 5
      have u6_6 : _ = some (Value.int .i64 0) := K6.out.cell 6
      have u6_7 : _ = some (Value.int .i64 0) := K6.out.cell 7
      have u6_8 : _ = some (Value.int .i64 0) := K6.out.cell 8
      have f6_0 := K6.out.frozen 0
      have f6_1 := K6.out.frozen 1
      have f6_2 := K6.out.frozen 2
      have f6_3 := K6.out.frozen 3
      have f6_4 := K6.out.frozen 4
      have f6_5 := K6.out.frozen 5
      have f6_6 := K6.out.frozen 6
      have f6_7 := K6.out.frozen 7
      have f6_8 := K6.out.frozen 8
      go_wp2_with fail
      clear u6_0 f6_0 u6_1 f6_1 u6_2 f6_2 u6_3 f6_3 u6_4 f6_4 u6_5 f6_5 u6_6 f6_6 u6_7 f6_7 u6_8 f6_8
      have HN9 := Lib.hid (K6.out.nine9 (.int .i64 0) (.int .i64 0) (.int .i64 0) (.int .i64 0) (.int .i64 0) (.int .i64 0) (.int .i64 0) (.int .i64 0) (.int .i64 0))
      have HB9 := Lib.hid (Below.nine9 (p := w.heap.size + 1 + 1) HB2.out HG6.out (.int .i64 0) (.int .i64 0) (.int .i64 0) (.int .i64 0) (.int .i64 0) (.int .i64 0) (.int .i64 0) (.int .i64 0) (.int .i64 0))
      obtain ⟨WF, hWF⟩ := blk_world HN9.out
      rw [← hWF] at HN9 HB9 ⊢
      clear hWF
      have n9_0 : _ = some (Value.int .i64 0) := HN9.out.cell 0
      have n9_1 : _ = some (Value.int .i64 0) := HN9.out.cell 1
      have n9_2 : _ = some (Value.int .i64 0) := HN9.out.cell 2
      have n9_3 : _ = some (Value.int .i64 0) := HN9.out.cell 3
      have n9_4 : _ = some (Value.int .i64 0) := HN9.out.cell 4
      have n9_5 : _ = some (Value.int .i64 0) := HN9.out.cell 5
      have n9_6 : _ = some (Value.int .i64 0) := HN9.out.cell 6
      have n9_7 : _ = some (Value.int .i64 0) := HN9.out.cell 7
      have n9_8 : _ = some (Value.int .i64 0) := HN9.out.cell 8
      refine bodyPost_ret (v := .tuple #[ck0.val, .bool false]) ?_ rfl ⟨by rw [HRS.out]; rfl, HB9.out⟩
      simp [results, Try.results9, go_sem, *, Ck.val, ck0]
    | succ l =>
      have hl0 : (((l + 1 : Nat) : Int) - 1) = (l : Int) := by omega
      have hl1 : (0 : Int) ≤ (l : Int) := by omega
      rw [hl0]
      have hl2 : l ≤ 16 := by omega
      have HSS := Lib.hid (HST.out l hl2)
      rw [hres] at HSS
      obtain ⟨o1, o2, o3, o4, o5⟩ := HOF.out l hl2
      have HOX := Lib.hid (rof_u px py (l : Int))
      rw [o1, o2, o3, o4] at HOX
      have HAT := Lib.hid (fun W hW => at_any A n c S K Ar (l : Int) (px / 2 ^ (16 - l)) (py / 2 ^ (16 - l)) W hW hS hn o5)
      have HHE := Lib.hid hres
      clear o1 o2 o3 o4 o5 hres HT0 HS0
      unfold AtP at HAT
      generalize (px / 2 ^ (16 - l)) = x at *
      generalize (py / 2 ^ (16 - l)) = y at *
      generalize atK S K Ar (l : Int) x y = T1 at *
      have k0 : _ = some (Value.int .i64 px) := HS.out.h4.cell 0
      have k1 : _ = some (Value.int .i64 py) := HS.out.h4.cell 1
      go_wp2_with fail
      refine (HOX.out _).mono ?_
      rintro e w1 ⟨rfl, hb1⟩
      have ha1 : Below w1.heap.size w1 (w1.alloc (.cells #[.int .i64 (l : Int), .int .i64 x, .int .i64 y] 35)) := (Below.refl _ _).alloc (Nat.le_refl _) _
      have HS1 := Lib.hid ((HS.out.below hb1).below ha1)
      have K9 := Lib.hid (Blk.new w1 35 #[.int .i64 (l : Int), .int .i64 x, .int .i64 y])
      clear hb1 ha1 k0 k1 HS
      go_upto_region 5 with fail
      generalize hp9 : w1.heap.size = p9 at *
      generalize (w1.alloc (.cells #[.int .i64 (l : Int), .int .i64 x, .int .i64 y] 35)) = W1 at *
      have k0 : _ = some (Value.int .i64 K) := HS1.out.h5.cell 0
      have k1 : _ = some (Value.int .u64 Ar) := HS1.out.h5.cell 1
      have j0 : _ = some (Value.int .i64 (l : Int)) := K9.out.cell 0
      have j1 : _ = some (Value.int .i64 x) := K9.out.cell 1
      have j2 : _ = some (Value.int .i64 y) := K9.out.cell 2
      have HAT2 := Lib.hid (HAT.out W1 (HRD.out.below HS1.out.und))
      go_wp2_with fail
      refine HAT2.out.mono ?_
      rintro e w2 ⟨rfl, hb2⟩
      generalize hk : T1.getD ck0 = k at *
      have ha2 : Below w2.heap.size w2 (w2.alloc (.cells #[.int .i64 k.a, .int .i64 k.b, .int .i64 k.c, .int .i64 k.d, .int .i64 k.L, .int .i64 k.x, .int .i64 k.y, .int .i64 k.kd, .int .i64 k.n] 43)) := (Below.refl _ _).alloc (Nat.le_refl _) _
      have HS2 := Lib.hid ((HS1.out.below hb2).below ha2)
      have K11 := Lib.hid (Blk.new w2 43 #[.int .i64 k.a, .int .i64 k.b, .int .i64 k.c, .int .i64 k.d, .int .i64 k.L, .int .i64 k.x, .int .i64 k.y, .int .i64 k.kd, .int .i64 k.n])
      clear hb2 ha2 k0 k1 j0 j1 j2 HS1 K9 HAT HAT2 HOX
      unfold Ck.val
      go_upto_region 6 with fail
      generalize hp11 : w2.heap.size = p11 at *
      generalize (w2.alloc (.cells #[.int .i64 k.a, .int .i64 k.b, .int .i64 k.c, .int .i64 k.d, .int .i64 k.L, .int .i64 k.x, .int .i64 k.y, .int .i64 k.kd, .int .i64 k.n] 43)) = W2 at *
      cases T1 with
      | none =>
        have HSS2 := Lib.hid (show T = restK S K Ar px py l from HSS.out)
        go_wp2_with fail
        go_roundw
        case rel => exact ⟨l, by omega, by go_num, HSS2.out.symm, HS2⟩
        case measure => simp [intOf]
      | some k' =>
        obtain rfl : k' = k := hk
        have HSS2 := Lib.hid (show T = some k' from HSS.out)
        have HB2 := Lib.hid HS2.out.und
        have K6 := Lib.hid HS2.out.h6
        have t_0 : _ = some (Value.int .i64 k'.a) := K11.out.cell 0
        have t_1 : _ = some (Value.int .i64 k'.b) := K11.out.cell 1
        have t_2 : _ = some (Value.int .i64 k'.c) := K11.out.cell 2
        have t_3 : _ = some (Value.int .i64 k'.d) := K11.out.cell 3
        have t_4 : _ = some (Value.int .i64 k'.L) := K11.out.cell 4
        have t_5 : _ = some (Value.int .i64 k'.x) := K11.out.cell 5
        have t_6 : _ = some (Value.int .i64 k'.y) := K11.out.cell 6
        have t_7 : _ = some (Value.int .i64 k'.kd) := K11.out.cell 7
        have t_8 : _ = some (Value.int .i64 k'.n) := K11.out.cell 8
        have u6_0 : _ = some (Value.int .i64 0) := K6.out.cell 0
        have u6_1 : _ = some (Value.int .i64 0) := K6.out.cell 1
        have u6_2 : _ = some (Value.int .i64 0) := K6.out.cell 2
        have u6_3 : _ = some (Value.int .i64 0) := K6.out.cell 3
        have u6_4 : _ = some (Value.int .i64 0) := K6.out.cell 4
        have u6_5 : _ = some (Value.int .i64 0) := K6.out.cell 5
        have u6_6 : _ = some (Value.int .i64 0) := K6.out.cell 6
        have u6_7 : _ = some (Value.int .i64 0) := K6.out.cell 7
        have u6_8 : _ = some (Value.int .i64 0) := K6.out.cell 8
        have f6_0 := K6.out.frozen 0
        have f6_1 := K6.out.frozen 1
        have f6_2 := K6.out.frozen 2
        have f6_3 := K6.out.frozen 3
        have f6_4 := K6.out.frozen 4
        have f6_5 := K6.out.frozen 5
        have f6_6 := K6.out.frozen 6
        have f6_7 := K6.out.frozen 7
        have f6_8 := K6.out.frozen 8
        go_wp2_with fail
        clear u6_0 f6_0 u6_1 f6_1 u6_2 f6_2 u6_3 f6_3 u6_4 f6_4 u6_5 f6_5 u6_6 f6_6 u6_7 f6_7 u6_8 f6_8
        have HN9 := Lib.hid (K6.out.nine9 (.int .i64 k'.a) (.int .i64 k'.b) (.int .i64 k'.c) (.int .i64 k'.d) (.int .i64 k'.L) (.int .i64 k'.x) (.int .i64 k'.y) (.int .i64 k'.kd) (.int .i64 k'.n))
        have HB9 := Lib.hid (Below.nine9 (p := w.heap.size + 1 + 1) HB2.out HG6.out (.int .i64 k'.a) (.int .i64 k'.b) (.int .i64 k'.c) (.int .i64 k'.d) (.int .i64 k'.L) (.int .i64 k'.x) (.int .i64 k'.y) (.int .i64 k'.kd) (.int .i64 k'.n))
        obtain ⟨WF, hWF⟩ := blk_world HN9.out
        rw [← hWF] at HN9 HB9 ⊢
        clear hWF
        have n9_0 : _ = some (Value.int .i64 k'.a) := HN9.out.cell 0
        have n9_1 : _ = some (Value.int .i64 k'.b) := HN9.out.cell 1
        have n9_2 : _ = some (Value.int .i64 k'.c) := HN9.out.cell 2
        have n9_3 : _ = some (Value.int .i64 k'.d) := HN9.out.cell 3
        have n9_4 : _ = some (Value.int .i64 k'.L) := HN9.out.cell 4
        have n9_5 : _ = some (Value.int .i64 k'.x) := HN9.out.cell 5
        have n9_6 : _ = some (Value.int .i64 k'.y) := HN9.out.cell 6
        have n9_7 : _ = some (Value.int .i64 k'.kd) := HN9.out.cell 7
        have n9_8 : _ = some (Value.int .i64 k'.n) := HN9.out.cell 8
        refine bodyPost_ret (v := .tuple #[k'.val, .bool true]) ?_ rfl ⟨by rw [HSS2.out]; rfl, HB9.out⟩
        simp [results, Try.results9, go_sem, *, Ck.val]
end Go.Proofs.Ytipfhleedfbnaaa
