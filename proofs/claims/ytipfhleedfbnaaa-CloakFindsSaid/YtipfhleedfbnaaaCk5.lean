/- cloak: Find, by contract. -/
import Derived.Test.YtipfhleedfbnaaaCk4
namespace Go.Proofs.Ytipfhleedfbnaaa
set_option linter.unusedVariables false
set_option linter.unusedSimpArgs false
open Go.RowKit
def findK (S : List Pn) (K A px py : Int) : Option Ck := if fitsB px py = true ∧ rightP K = true then seekK S K A 16 px py else none
def findE (S : List Pn) (K A px py : Int) : Int := if fitsB px py = true ∧ rightP K = true then (if (seekK S K A 16 px py).isSome then 0 else 21) else 1
def FindP (S : List Pn) (K A px py : Int) (w : World) (e : Ending) (w' : World) : Prop :=
  e = .returned (.tuple #[((findK S K A px py).getD ck0).val, .int .i64 (findE S K A px py)]) ∧ Below w.heap.size w w'
set_option maxRecDepth 100000 in
set_option maxHeartbeats 8000000 in
theorem find_any (y : Nat) (cs : Array Value) (S : List Pn) (B : Nat) (px py K A : Int) (w : World) (h : PyR w y cs (fun _ => S) B) (hS : S.length ≤ 500000) :
    Calls Try.prog 6 #[.pointer (some ⟨y, 0, none⟩), .agg #[.int .i64 px, .int .i64 py], .agg #[.int .i64 K, .int .u64 A]] w fun e w' => FindP S K A px py w e w' := by
  have HPY := Lib.hid h; clear h
  have HOF := Lib.hid (cof_u px py 16)
  have HRP := Lib.hid (cright_pr K A)
  have hA : Below w.heap.size w (((w.alloc (.cells #[.int .i64 px, .int .i64 py] 24)).alloc (.cells #[.int .i64 K, .int .u64 A] 27)).alloc (.cells #[.int .i64 0, .int .i64 0, .int .i64 0, .int .i64 0, .int .i64 0, .int .i64 0, .int .i64 0, .int .i64 0, .int .i64 0] 37)) := (((Below.refl _ _).alloc (Nat.le_refl _) _).alloc (by simp) _).alloc (by simp; omega) _
  have hb3 := blk_three w 24 27 37 #[.int .i64 px, .int .i64 py] #[.int .i64 K, .int .u64 A] #[.int .i64 0, .int .i64 0, .int .i64 0, .int .i64 0, .int .i64 0, .int .i64 0, .int .i64 0, .int .i64 0, .int .i64 0]
  have HA := Lib.hid hA; have HB := Lib.hid hb3; clear hA hb3
  go_enter Try.func6, Try.ntmps6
  go_wp2_with fail
  refine (HOF.out _).mono ?_
  rintro e w1 ⟨rfl, hb1⟩
  have hA2 : Below w1.heap.size w1 (w1.alloc (.cells #[.int .i64 (a0 16 px py 16), .int .i64 (a1 16 px py 16), .int .i64 (a2 16 px py 16)] 35)) := (Below.refl _ _).alloc (Nat.le_refl _) _
  have HC8 := Lib.hid (Blk.new w1 35 #[.int .i64 (a0 16 px py 16), .int .i64 (a1 16 px py 16), .int .i64 (a2 16 px py 16)])
  have HK5 := Lib.hid ((HB.out.2.1.thru0 hb1).thru0 hA2)
  have HK6 : Hid (Blk _ (w.heap.size + 1 + 1) _ _) := Lib.hid ((HB.out.2.2.thru0 hb1).thru0 hA2)
  have HB2 := Lib.hid (below_trans (below_trans HA.out hb1) hA2)
  have HG6 : Hid (w.heap.size ≤ w.heap.size + 1 + 1) := Lib.hid (by omega)
  clear hb1 hA2 HA HB
  go_upto_region 4 with fail
  by_cases hf : fitsB px py = true
  · have hoA : okA 16 px py 16 = true := by rw [okA_of, hf]; rfl
    have e0 : a0 16 px py 16 = 16 := by rw [a0, if_pos hoA]
    have e1 : a1 16 px py 16 = px := by rw [a1, if_pos hoA]; simp
    have e2 : a2 16 px py 16 = py := by rw [a2, if_pos hoA]; simp
    have HOK := Lib.hid (show okC 16 px py = true by rw [← fits_okC]; exact hf)
    rw [e0, e1, e2] at HC8 HK5 HK6 HB2
    rw [hoA, e0, e1, e2]
    clear hoA e0 e1 e2
    generalize (w1.alloc (.cells #[.int .i64 16, .int .i64 px, .int .i64 py] 35)) = W at *
    have k0 := HK5.out.cell 0
    have k1 := HK5.out.cell 1
    simp only [List.getElem?_toArray, List.getElem?_cons_zero, List.getElem?_cons_succ] at k0 k1
    by_cases hr : rightP K = true
    · have HR := Lib.hid (show findK S K A px py = seekK S K A 16 px py by rw [findK, if_pos ⟨hf, hr⟩])
      have HE := Lib.hid (show findE S K A px py = (if (seekK S K A 16 px py).isSome then 0 else 21) by rw [findE, if_pos ⟨hf, hr⟩])
      rw [hr] at HRP
      clear hr hf
      generalize hT : seekK S K A 16 px py = T at *
      go_wp2_with fail
      refine (HRP.out _).mono ?_
      rintro e w2 ⟨rfl, hb2⟩
      have HK5b := Lib.hid (HK5.out.thru0 hb2)
      have HK6b := Lib.hid (HK6.out.thru0 hb2)
      have HK8b := Lib.hid (HC8.out.thru0 hb2)
      have HBb := Lib.hid (below_trans HB2.out hb2)
      clear hb2 k0 k1 HK5 HK6 HC8 HB2
      have k0 := HK5b.out.cell 0
      have k1 := HK5b.out.cell 1
      have j0 := HK8b.out.cell 0
      have j1 := HK8b.out.cell 1
      have j2 := HK8b.out.cell 2
      simp only [List.getElem?_toArray, List.getElem?_cons_zero, List.getElem?_cons_succ] at k0 k1 j0 j1 j2
      have HSK := Lib.hid (seek_any y cs S B K A px py w2 (HPY.out.below HBb.out) hS HOK.out)
      rw [hT] at HSK
      go_wp2_with fail
      refine HSK.out.mono ?_
      rintro e w3 ⟨rfl, hb3⟩
      have HK6c := Lib.hid (HK6b.out.thru0 hb3)
      have HBc := Lib.hid (below_trans HBb.out hb3)
      clear hb3 k0 k1 j0 j1 j2
      generalize hk : T.getD ck0 = k at *
      have HKK := Lib.hid hk
      unfold Ck.val
      have u6_0 : _ = some (Value.int .i64 0) := HK6c.out.cell 0
      have u6_1 : _ = some (Value.int .i64 0) := HK6c.out.cell 1
      have u6_2 : _ = some (Value.int .i64 0) := HK6c.out.cell 2
      have u6_3 : _ = some (Value.int .i64 0) := HK6c.out.cell 3
      have u6_4 : _ = some (Value.int .i64 0) := HK6c.out.cell 4
      have u6_5 : _ = some (Value.int .i64 0) := HK6c.out.cell 5
      have u6_6 : _ = some (Value.int .i64 0) := HK6c.out.cell 6
      have u6_7 : _ = some (Value.int .i64 0) := HK6c.out.cell 7
      have u6_8 : _ = some (Value.int .i64 0) := HK6c.out.cell 8
      have f6_0 := HK6c.out.frozen 0
      have f6_1 := HK6c.out.frozen 1
      have f6_2 := HK6c.out.frozen 2
      have f6_3 := HK6c.out.frozen 3
      have f6_4 := HK6c.out.frozen 4
      have f6_5 := HK6c.out.frozen 5
      have f6_6 := HK6c.out.frozen 6
      have f6_7 := HK6c.out.frozen 7
      have f6_8 := HK6c.out.frozen 8
      have HN9 := HK6c.out.nine9 (.int .i64 k.a) (.int .i64 k.b) (.int .i64 k.c) (.int .i64 k.d) (.int .i64 k.L) (.int .i64 k.x) (.int .i64 k.y) (.int .i64 k.kd) (.int .i64 k.n)
      have n9_0 : _ = some (Value.int .i64 k.a) := HN9.cell 0
      have n9_1 : _ = some (Value.int .i64 k.b) := HN9.cell 1
      have n9_2 : _ = some (Value.int .i64 k.c) := HN9.cell 2
      have n9_3 : _ = some (Value.int .i64 k.d) := HN9.cell 3
      have n9_4 : _ = some (Value.int .i64 k.L) := HN9.cell 4
      have n9_5 : _ = some (Value.int .i64 k.x) := HN9.cell 5
      have n9_6 : _ = some (Value.int .i64 k.y) := HN9.cell 6
      have n9_7 : _ = some (Value.int .i64 k.kd) := HN9.cell 7
      have n9_8 : _ = some (Value.int .i64 k.n) := HN9.cell 8
      clear HN9
      have HB9 := Lib.hid (Below.nine9 (p := w.heap.size + 1 + 1) HBc.out HG6.out (.int .i64 k.a) (.int .i64 k.b) (.int .i64 k.c) (.int .i64 k.d) (.int .i64 k.L) (.int .i64 k.x) (.int .i64 k.y) (.int .i64 k.kd) (.int .i64 k.n))
      cases hs : T.isSome with
      | true =>
        go_wp2_with fail
        refine bodyPost_ret (v := .tuple #[k.val, .int .i64 0]) ?_ rfl ⟨by rw [HR.out, HE.out, HKK.out, hs]; rfl, HB9.out⟩
        simp [results, Try.results6, go_sem, *, Ck.val]
      | false =>
        go_wp2_with fail
        refine bodyPost_ret (v := .tuple #[k.val, .int .i64 21]) ?_ rfl ⟨by rw [HR.out, HE.out, HKK.out, hs]; rfl, HB9.out⟩
        simp [results, Try.results6, go_sem, *, Ck.val]
    · have hr0 : rightP K = false := by simpa using hr
      have HR := Lib.hid (show findK S K A px py = none by rw [findK, if_neg (fun h => hr h.2)])
      have HE := Lib.hid (show findE S K A px py = 1 by rw [findE, if_neg (fun h => hr h.2)])
      rw [hr0] at HRP
      clear hr hr0 hf
      go_wp2_with fail
      refine (HRP.out _).mono ?_
      rintro e w2 ⟨rfl, hb2⟩
      have HK6b := Lib.hid (HK6.out.thru0 hb2)
      have HBb := Lib.hid (below_trans HB2.out hb2)
      clear hb2 k0 k1
      have u6_0 : _ = some (Value.int .i64 0) := HK6b.out.cell 0
      have u6_1 : _ = some (Value.int .i64 0) := HK6b.out.cell 1
      have u6_2 : _ = some (Value.int .i64 0) := HK6b.out.cell 2
      have u6_3 : _ = some (Value.int .i64 0) := HK6b.out.cell 3
      have u6_4 : _ = some (Value.int .i64 0) := HK6b.out.cell 4
      have u6_5 : _ = some (Value.int .i64 0) := HK6b.out.cell 5
      have u6_6 : _ = some (Value.int .i64 0) := HK6b.out.cell 6
      have u6_7 : _ = some (Value.int .i64 0) := HK6b.out.cell 7
      have u6_8 : _ = some (Value.int .i64 0) := HK6b.out.cell 8
      have f6_0 := HK6b.out.frozen 0
      have f6_1 := HK6b.out.frozen 1
      have f6_2 := HK6b.out.frozen 2
      have f6_3 := HK6b.out.frozen 3
      have f6_4 := HK6b.out.frozen 4
      have f6_5 := HK6b.out.frozen 5
      have f6_6 := HK6b.out.frozen 6
      have f6_7 := HK6b.out.frozen 7
      have f6_8 := HK6b.out.frozen 8
      have HN9 := HK6b.out.nine9 (.int .i64 0) (.int .i64 0) (.int .i64 0) (.int .i64 0) (.int .i64 0) (.int .i64 0) (.int .i64 0) (.int .i64 0) (.int .i64 0)
      have n9_0 : _ = some (Value.int .i64 0) := HN9.cell 0
      have n9_1 : _ = some (Value.int .i64 0) := HN9.cell 1
      have n9_2 : _ = some (Value.int .i64 0) := HN9.cell 2
      have n9_3 : _ = some (Value.int .i64 0) := HN9.cell 3
      have n9_4 : _ = some (Value.int .i64 0) := HN9.cell 4
      have n9_5 : _ = some (Value.int .i64 0) := HN9.cell 5
      have n9_6 : _ = some (Value.int .i64 0) := HN9.cell 6
      have n9_7 : _ = some (Value.int .i64 0) := HN9.cell 7
      have n9_8 : _ = some (Value.int .i64 0) := HN9.cell 8
      clear HN9
      have HB9 := Lib.hid (Below.nine9 (p := w.heap.size + 1 + 1) HBb.out HG6.out (.int .i64 0) (.int .i64 0) (.int .i64 0) (.int .i64 0) (.int .i64 0) (.int .i64 0) (.int .i64 0) (.int .i64 0) (.int .i64 0))
      go_wp2_with fail
      refine bodyPost_ret (v := .tuple #[ck0.val, .int .i64 1]) ?_ rfl ⟨by rw [HR.out, HE.out]; rfl, HB9.out⟩
      simp [results, Try.results6, go_sem, *, Ck.val, ck0]
  · have hoA : okA 16 px py 16 = false := by rw [okA_of]; simp [hf]
    have HR := Lib.hid (show findK S K A px py = none by rw [findK, if_neg (fun h => hf h.1)])
    have HE := Lib.hid (show findE S K A px py = 1 by rw [findE, if_neg (fun h => hf h.1)])
    rw [hoA]
    clear hoA hf
    generalize (w1.alloc (.cells #[.int .i64 (a0 16 px py 16), .int .i64 (a1 16 px py 16), .int .i64 (a2 16 px py 16)] 35)) = W at *
    have u6_0 : _ = some (Value.int .i64 0) := HK6.out.cell 0
    have u6_1 : _ = some (Value.int .i64 0) := HK6.out.cell 1
    have u6_2 : _ = some (Value.int .i64 0) := HK6.out.cell 2
    have u6_3 : _ = some (Value.int .i64 0) := HK6.out.cell 3
    have u6_4 : _ = some (Value.int .i64 0) := HK6.out.cell 4
    have u6_5 : _ = some (Value.int .i64 0) := HK6.out.cell 5
    have u6_6 : _ = some (Value.int .i64 0) := HK6.out.cell 6
    have u6_7 : _ = some (Value.int .i64 0) := HK6.out.cell 7
    have u6_8 : _ = some (Value.int .i64 0) := HK6.out.cell 8
    have f6_0 := HK6.out.frozen 0
    have f6_1 := HK6.out.frozen 1
    have f6_2 := HK6.out.frozen 2
    have f6_3 := HK6.out.frozen 3
    have f6_4 := HK6.out.frozen 4
    have f6_5 := HK6.out.frozen 5
    have f6_6 := HK6.out.frozen 6
    have f6_7 := HK6.out.frozen 7
    have f6_8 := HK6.out.frozen 8
    have HN9 := HK6.out.nine9 (.int .i64 0) (.int .i64 0) (.int .i64 0) (.int .i64 0) (.int .i64 0) (.int .i64 0) (.int .i64 0) (.int .i64 0) (.int .i64 0)
    have n9_0 : _ = some (Value.int .i64 0) := HN9.cell 0
    have n9_1 : _ = some (Value.int .i64 0) := HN9.cell 1
    have n9_2 : _ = some (Value.int .i64 0) := HN9.cell 2
    have n9_3 : _ = some (Value.int .i64 0) := HN9.cell 3
    have n9_4 : _ = some (Value.int .i64 0) := HN9.cell 4
    have n9_5 : _ = some (Value.int .i64 0) := HN9.cell 5
    have n9_6 : _ = some (Value.int .i64 0) := HN9.cell 6
    have n9_7 : _ = some (Value.int .i64 0) := HN9.cell 7
    have n9_8 : _ = some (Value.int .i64 0) := HN9.cell 8
    clear HN9
    have HB9 := Lib.hid (Below.nine9 (p := w.heap.size + 1 + 1) HB2.out HG6.out (.int .i64 0) (.int .i64 0) (.int .i64 0) (.int .i64 0) (.int .i64 0) (.int .i64 0) (.int .i64 0) (.int .i64 0) (.int .i64 0))
    go_wp2_with fail
    refine bodyPost_ret (v := .tuple #[ck0.val, .int .i64 1]) ?_ rfl ⟨by rw [HR.out, HE.out]; rfl, HB9.out⟩
    simp [results, Try.results6, go_sem, *, Ck.val, ck0]
end Go.Proofs.Ytipfhleedfbnaaa
