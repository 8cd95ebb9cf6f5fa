/- wire: the document's numbers, by contract. -/
import Derived.Test.YthlmldbgohnpnaaWrN
namespace Go.Proofs.Ythlmldbgohnpnaa
set_option linter.unusedVariables false
set_option linter.unusedSimpArgs false
open Go.RowKit
def numsR (M : Bs) : Nat → List Nat → List Nat
  | _, [] => []
  | a, k :: r => gN M a k :: numsR M (a + k) r
theorem numsR_snoc (M : Bs) : ∀ (a : Nat) (W : List Nat) (k : Nat), numsR M a (W ++ [k]) = numsR M a W ++ [gN M (a + W.sum) k]
  | a, [], k => by simp [numsR]
  | a, x :: W, k => by rw [List.cons_append, numsR, numsR_snoc M (a + x) W k, numsR, List.sum_cons, Nat.add_assoc]; rfl
theorem numsR_len (M : Bs) : ∀ (a : Nat) (W : List Nat), (numsR M a W).length = W.length
  | _, [] => rfl
  | a, k :: W => by rw [numsR, List.length_cons, numsR_len M, List.length_cons]
theorem numsR_le (M : Bs) : ∀ (a : Nat) (W : List Nat), (∀ x ∈ W, 1 ≤ x ∧ x ≤ 8) → ∀ x ∈ numsR M a W, x ≤ 18446744073709551615
  | _, [], _, x, hx => by cases hx
  | a, k :: W, h, x, hx => by
    rw [numsR] at hx
    rcases List.mem_cons.1 hx with rfl | hx
    · exact gN_lt (h k List.mem_cons_self).2
    · exact numsR_le M _ W (fun y hy => h y (List.mem_cons_of_mem _ hy)) x hx
theorem rb_mid {w : World} {ad : Addr} {n t k : Nat} {M : Bs} (h : RB w (some ad) n M) (hk : 1 ≤ k) (ht : t + k ≤ n) : RB w (some (ad.add t)) k ((M.drop t).take k) := by
  obtain ⟨ad', e, hb, hc⟩ := h.2 (by omega)
  obtain rfl : ad = ad' := by simpa using e
  have hl := h.len
  refine ⟨by simp [bv_length]; omega, fun _ => ⟨_, rfl, by rw [block_of_add]; exact hb, fun j u hu => ?_⟩⟩
  rw [add_of_add]
  refine hc _ _ ?_
  rw [bv_take, bv_drop, List.getElem?_take] at hu
  split at hu
  · rwa [List.getElem?_drop] at hu
  · cases hu
set_option maxRecDepth 100000 in
set_option maxHeartbeats 4000000 in
theorem rnumbers_any (w : World) (A : Option Addr) (n c : Nat) (M : Bs) (W : List Nat) (g : Nat) (hn : n ≤ c) (hcm : c ≤ maxLen) (h : RB w A n M) (ho : EOwn elW w (.slice (some ⟨g, 0, none⟩) W.length W.length) W) (hw : ∀ x ∈ W, 1 ≤ x ∧ x ≤ 8) (hs : W.sum ≤ n) (hl : W.length ≤ 7) :
    Calls Try.prog 23 #[.slice A n c, .slice (some ⟨g, 0, none⟩) W.length W.length] w fun e w' => ∃ v, e = .returned v ∧ FU w v (numsR M 0 W) w' := by
  have HRB := Lib.hid h
  have HO := Lib.hid ho
  have HW := Lib.hid hw
  have HS := Lib.hid hs
  have HF0 := Lib.hid (FU.nil_ w w (Below.refl _ _))
  obtain ⟨m, hm⟩ : ∃ m, m = W.length := ⟨_, rfl⟩
  rw [← hm] at HO hl ⊢
  have HM := Lib.hid hm
  unfold maxLen at hcm
  clear h ho hw hs hm
  go_enter Try.func23, Try.ntmps23
  go_wp2_with fail
  go_loopw [5, 6, 7] (fun v a i wr => ∃ j t : Nat, j ≤ m ∧ i = .int .i64 j ∧ a = .int .i64 t ∧ Hid (t = (W.take j).sum) ∧ Hid (FU w v (numsR M 0 (W.take j)) wr)) (fun _ _ i _ => m - (intOf i).toNat)
  case atStart => exact ⟨0, 0, Nat.zero_le _, rfl, rfl, Lib.hid rfl, HF0⟩
  case round =>
    rename_i v a i
    rename World => wr
    obtain ⟨j, t, hj, rfl, rfl, HT, HF⟩ := hrel
    obtain ⟨A2, c2, hv, hlc2, hcm2⟩ := HF.out.own.slice
    by_cases hlt : j < m
    · have hjl : j < W.length := by rw [← HM.out]; exact hlt
      have HT2 := Lib.hid (sum_take_snoc W j hjl)
      have hx8 := HW.out _ (List.getElem_mem hjl)
      have kc := (HO.out.below HF.out.bel).wcell (List.getElem?_eq_getElem hjl)
      have HTK : Hid (W.take (j + 1) = W.take j ++ [W[j]]) := Lib.hid (List.take_succ_eq_append_getElem hjl)
      have HSM := Lib.hid (sum_take_le (L := W) (j + 1))
      have HGE := Lib.hid (List.getElem?_eq_getElem hjl)
      generalize W[j] = x at *
      obtain ⟨hx1, hx8⟩ := hx8
      have htn : t + x ≤ n := by
        have h1 := HT.out
        have h2 := HT2.out
        have h3 := HSM.out
        have h4 := HS.out
        omega
      have HSN := Lib.hid (numsR_snoc M 0 (W.take j) x)
      rw [← HTK.out, ← HT.out, Nat.zero_add] at HSN
      have HRB1 := Lib.hid (HRB.out.below HF.out.bel)
      obtain ⟨ad, had, hab, -⟩ := HRB1.out.at 0 (by omega)
      subst had
      have HGT := Lib.hid (fun d => refget_any (some (ad.add t)) x d _ wr (rb_mid HRB1.out hx1 htn) hx8)
      have HAL := Lib.hid (show (numsR M 0 (W.take j)).length ≤ 1000000 by rw [numsR_len, List.length_take]; omega)
      generalize (numsR M 0 (W.take j)).length = lj at hv hlc2
      subst hv
      have HGV : Hid (getB ((M.drop t).take x) = gN M t x) := Lib.hid rfl
      rw [HGV.out] at HGT
      have HOA := Lib.hid (HF.out.own.below ((Below.refl _ _).alloc (Nat.le_refl _) (.cells #[.int .u64 (gN M t x : Int)] 23)))
      have HNB := Lib.hid (new_u wr 23 (gN M t x))
      have htc : t < c := by omega
      have hs1 : IntKind.i64.wrap ((t : Int) + x) = ((t + x : Nat) : Int) := by rw [IntKind.wrap_i64]; omega
      have htx : t + x - t = x := by omega
      clear hlc2 hcm2 hjl HT2 HSM hab
      generalize gN M t x = y at *
      go_wp2_with ((first | (go_at_call 21; refine (HGT.out _).mono ?_; rintro e w9 ⟨rfl, hw9⟩; subst hw9) | (at_builtin; refine wpList_epush elU_ok rfl _ _ 55 rfl (by kernel_rfl) _ (numsR M 0 (W.take j)) y wr.heap.size 1 rfl rfl HOA.out HNB.out HAL.out ?_; intro v' w9 hA; have kc9 := (HO.out.below (HF.out.push hA).bel).wcell HGE.out)))
      go_roundw
      case rel => exact ⟨j + 1, t + x, by omega, by go_num, by go_num, Lib.hid (by rw [HTK.out, HT.out, List.sum_append]; simp), Lib.hid (by rw [HSN.out]; exact HF.out.push hA)⟩
      case measure => simp [intOf]; omega
    · obtain rfl : j = m := by omega
      have HT2 : Hid (W.take j = W) := Lib.hid (by rw [HM.out, List.take_length])
      rw [HT2.out] at HF hv
      generalize (numsR M 0 W).length = lj at hv hlc2
      subst hv
      go_wp2_with fail
      go_ret
      exact ⟨_, rfl, HF.out⟩
end Go.Proofs.Ythlmldbgohnpnaa
