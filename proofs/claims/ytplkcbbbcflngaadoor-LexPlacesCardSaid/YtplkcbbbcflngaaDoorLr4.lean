/- lex: the code's Name; what must come of fixed calls. -/
import Derived.Test.YtplkcbbbcflngaaDoorLr3
namespace Go.Proofs.YtplkcbbbcflngaaDoor
set_option linter.unusedVariables false
set_option linter.unusedSimpArgs false
open Go.RowKit
theorem fault_below (w : World) (c : Array Value) : Below w.heap.size w (w.alloc (.cells c 27)) := (Below.refl _ _).alloc (Nat.le_refl _) _
set_option maxRecDepth 100000 in
set_option maxHeartbeats 2000000 in
theorem name2_any (l : Bs) (w : World) (hV : Vs w) (hl : l.length ≤ 9223372036854775807) : Calls Tryd.prog 17 #[.string (bs l)] w fun e w' => e = .returned (.bool (nmc l)) ∧ Below w.heap.size w w' := by
  have HT := Lib.hid (tokens_any l w hV hl)
  have HE := Lib.hid (show nmc l = (match (toks l).1 with
    | [x] => x.k == 1 && decide (x.t = l)
    | _ => false) from rfl)
  unfold TokensP at HT
  clear hV
  generalize flE (toks l).2 = fe at *
  generalize flP (toks l).2 = fp at *
  generalize (toks l).1 = L at *
  generalize nmc l = R at *
  go_enter Tryd.func17, Tryd.ntmps17
  go_wp2_with fail
  refine HT.out.mono ?_
  rintro e w1 ⟨v, rfl, hown, hb1, hfar⟩
  obtain ⟨A, cap, rfl, hle, hmx⟩ := hown.slice
  have HAL := Lib.hid (fault_below w1 #[.int .i64 fe, .int .i64 fp.1, .int .i64 fp.2])
  have HB2 := Lib.hid (below_trans hb1 HAL.out)
  have HOW := Lib.hid (hown.below HAL.out)
  clear hown hb1 hfar hle hmx HT
  go_upto_region 2 with fail
  generalize (w1.alloc (.cells #[.int .i64 fe, .int .i64 fp.1, .int .i64 fp.2] 27)) = W at *
  by_cases h1 : L.length = 1
  · obtain ⟨x, rfl⟩ := List.length_eq_one_iff.1 h1
    obtain ⟨_, g, rfl, hc⟩ := EOwn.cell elT_ok HOW.out (i := 0) (x := x) rfl
    have c0 : W.cell? ⟨g, 0, none⟩ = some (.int .i64 x.k) := by simpa [elT] using hc 0 _ rfl
    have c1 : W.cell? ⟨g, 1, none⟩ = some (.string (bs x.t)) := by simpa [elT] using hc 1 _ rfl
    clear hc HOW h1
    cases hk : (x.k == 1) with
    | false =>
      have HR := Lib.hid (show R = false by rw [HE.out]; simp only [hk]; rfl)
      clear HE
      go_wp2
      go_ret
      exact ⟨by rw [HR.out]; simp, HB2.out⟩
    | true =>
      by_cases ht : x.t = l
      · have HR := Lib.hid (show R = true by rw [HE.out]; simp only [hk, ht]; simp)
        have hte : ((bs x.t).toList == (bs l).toList) = true := by rw [ht]; simp
        clear HE ht
        go_wp2
        go_ret
        exact ⟨by rw [HR.out]; simp, HB2.out⟩
      · have HR := Lib.hid (show R = false by rw [HE.out]; simp only [hk]; simp [ht])
        have hte : ((bs x.t).toList == (bs l).toList) = false := beq_eq_false_iff_ne.2 (fun e => ht (bs_inj (toList_inj e)))
        clear HE ht
        go_wp2
        go_ret
        exact ⟨by rw [HR.out]; simp, HB2.out⟩
  · have hne : ((L.length : Int) == 1) = false := beq_eq_false_iff_ne.2 (by omega)
    have HR := Lib.hid (show R = false by
      rw [HE.out]
      split
      · simp at h1
      · rfl)
    clear HE h1 HOW
    go_wp2
    go_ret
    exact ⟨by rw [HR.out]; simp, HB2.out⟩
def kA : Bs := [114, 111, 108, 101, 32, 110, 117, 114, 115, 101, 32, 61, 32, 51, 59]
def kB : Bs := [32, 48, 48, 55]
def kC : Bs := [49, 46, 46, 52]
theorem kA_toks : (toks kA).1.map (fun x => (x.k, x.n)) = [(2, 0), (1, 0), (4, 0), (3, 3), (4, 0)] ∧ flE (toks kA).2 = 0 := by constructor <;> kernel_rfl
theorem kB_toks : flE (toks kB).2 = 10 ∧ flP (toks kB).2 = (1, 2) := by constructor <;> kernel_rfl
theorem kC_toks : (toks kC).1.length = 3 ∧ flE (toks kC).2 = 0 := by constructor <;> kernel_rfl
end Go.Proofs.YtplkcbbbcflngaaDoor
