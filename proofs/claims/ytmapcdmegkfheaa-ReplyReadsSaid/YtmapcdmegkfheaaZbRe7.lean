/- reply: numbers of eight bytes, rectangles put, by contract. -/
import Derived.Test.YtmapcdmegkfheaaZbRe4
namespace Go.Proofs.Ytmapcdmegkfheaa
set_option linter.unusedVariables false
set_option linter.unusedSimpArgs false
open Go.RowKit
theorem EOwn.ucell2 {w : World} {g n c : Nat} {L : List Nat} (h : EOwn elU w (.slice (some ⟨g, 0, none⟩) n c) L) {j x : Nat} (hj : L[j]? = some x) : w.cell? ⟨g, j, none⟩ = some (.int .u64 (x : Int)) := by
  obtain ⟨_, g', e, hc⟩ := EOwn.cell elU_ok h hj
  obtain rfl : g = g' := by simpa using e
  have := hc 0 (.int .u64 (x : Int)) rfl
  simpa [elU] using this
def rowU (k : Nat) (L : List Nat) : Bs := L.flatMap fun x => putL x k
theorem rowU_snoc (k : Nat) (L : List Nat) (x : Nat) : rowU k (L ++ [x]) = rowU k L ++ putL x k := by simp [rowU]
theorem rowU_len (k : Nat) (L : List Nat) : (rowU k L).length ≤ L.length * k := by
  induction L with
  | nil => simp [rowU]
  | cons x L ih =>
    have e : rowU k (x :: L) = putL x k ++ rowU k L := rfl
    have := putL_le x k
    rw [e, List.length_append, List.length_cons, Nat.add_mul, Nat.one_mul]; omega
set_option maxRecDepth 100000 in
set_option maxHeartbeats 4000000 in
theorem putu_any (w : World) (k : Nat) (h1 : 1 ≤ k) (h8 : k ≤ 8) (L : List Nat) (hL : ∀ x ∈ L, x ≤ 18446744073709551615) (g c : Nat) (ho : EOwn elU w (.slice (some ⟨g, 0, none⟩) L.length c) L) (hl : L.length ≤ 100) :
    Calls Try.prog 42 #[.int .i64 (k : Int), .slice (some ⟨g, 0, none⟩) L.length c] w fun e w' => ∃ v, e = .returned v ∧ FBy w v (rowU k L) w' := by
  have HO := Lib.hid ho
  have H1 := Lib.hid h1
  have H8 := Lib.hid h8
  have HF0 := Lib.hid (FBy.nil_ w w (Below.refl _ _))
  obtain ⟨m, hm⟩ : ∃ m, m = L.length := ⟨_, rfl⟩
  rw [← hm] at HO hl ⊢
  have HM := Lib.hid hm
  clear ho hm h1 h8
  go_enter Try.func42, Try.ntmps42
  go_wp2_with fail
  go_loopw [5, 12] (fun v i wr => ∃ j : Nat, j ≤ m ∧ i = .int .i64 j ∧ Hid (FBy w v (rowU k (L.take j)) wr)) (fun _ i _ => m - (intOf i).toNat)
  case atStart => exact ⟨0, Nat.zero_le _, rfl, HF0⟩
  case round =>
    rename_i v i
    rename World => wr
    obtain ⟨j, hj, rfl, HF⟩ := hrel
    obtain ⟨A2, c2, hv, hlc2, hcm2⟩ := HF.out.own.slice
    by_cases hlt : j < m
    · have hjl : j < L.length := by rw [← HM.out]; exact hlt
      have HTK : Hid (L.take (j + 1) = L.take j ++ [L[j]]) := Lib.hid (List.take_succ_eq_append_getElem hjl)
      have kc := (HO.out.below HF.out.bel).ucell2 (List.getElem?_eq_getElem hjl)
      have HXL := Lib.hid (hL _ (List.getElem_mem hjl))
      generalize L[j] = x at *
      have HSN := Lib.hid (rowU_snoc k (L.take j) x)
      rw [← HTK.out] at HSN
      have HLN : Hid ((rowU k (L.take j)).length ≤ 800) := Lib.hid (by
        have h1 := rowU_len k (L.take j)
        have h2 : (L.take j).length * k ≤ 100 * 8 := Nat.mul_le_mul (by rw [List.length_take]; omega) H8.out
        omega)
      have HPU := Lib.hid (put_any (x) (HXL.out) k H1.out H8.out wr)
      unfold PutPost at HPU
      generalize rowU k (L.take j) = R at *
      generalize R.length = lj at hv hlc2
      subst hv
      clear hlc2 hcm2 hjl
      go_wp2_with fail
      refine HPU.out.mono ?_
      rintro e w1 (⟨hlt1, A, c1, rfl, hrb, hb⟩ | ⟨hge, rfl, hb⟩)
      · have HPL : Hid (putL (x) k = be k (x)) := Lib.hid (by unfold putL; rw [if_pos hlt1])
        have HRB := Lib.hid hrb
        have HOW := Lib.hid (HF.out.own.below hb)
        have HBB := Lib.hid hb
        have HLB := Lib.hid (be_length k (x))
        clear hlt1 hrb hb
        generalize be k (x) = M at *
        have HRM : Hid (Reads w1 w1.heap.size 1 A M.length (elB.encs M)) := Lib.hid (by rw [rbv_encs, HLB.out]; exact HRB.out)
        have HML : Hid (M.length ≤ 8) := Lib.hid (by rw [HLB.out]; exact H8.out)
        obtain rfl : M.length = k := HLB.out
        clear HLB HRB
        go_wp2_with ((at_builtin; refine wpList_eappr2 (e2 := 5) elB_ok rfl _ _ 24 24 rfl (by kernel_rfl) (by kernel_rfl) _ R M A c1 rfl rfl HOW.out HRM.out (by have := HLN.out; have := HML.out; simp only [maxLen]; omega) (by have := HLN.out; have := HML.out; have h1 : elB.by_ = 1 := rfl; rw [h1]; omega) ?_; intro v' w9 hA; have HA := Lib.hid hA; clear hA))
        go_roundw
        case rel => exact ⟨j + 1, by omega, by go_num, Lib.hid (by rw [HSN.out, HPL.out]; exact HF.out.app HBB.out HA.out)⟩
        case measure => simp [intOf]; omega
      · have HPL : Hid (putL (x) k = []) := Lib.hid (by unfold putL; rw [if_neg (by omega)])
        have HOW := Lib.hid (HF.out.own.below hb)
        have HBB := Lib.hid hb
        have HRM : Hid (Reads w1 w1.heap.size 1 none 0 (elB.encs [])) := Lib.hid Reads.none_
        clear hge hb
        go_wp2_with ((at_builtin; refine wpList_eappr2 (e2 := 5) elB_ok rfl _ _ 24 24 rfl (by kernel_rfl) (by kernel_rfl) _ R [] none 0 rfl rfl HOW.out HRM.out (by have := HLN.out; simp only [maxLen, List.length_nil]; omega) (by have := HLN.out; have h1 : elB.by_ = 1 := rfl; rw [h1, List.length_nil]; omega) ?_; intro v' w9 hA; have HA := Lib.hid hA; clear hA))
        go_roundw
        case rel => exact ⟨j + 1, by omega, by go_num, Lib.hid (by rw [HSN.out, HPL.out]; exact HF.out.app HBB.out HA.out)⟩
        case measure => simp [intOf]; omega
    · obtain rfl : j = m := by omega
      have HT2 : Hid (L.take j = L) := Lib.hid (by rw [HM.out, List.take_length])
      rw [HT2.out] at HF hv
      generalize (rowU k L).length = lj at hv hlc2
      subst hv
      go_wp2_with fail
      go_ret
      exact ⟨_, rfl, HF.out⟩
theorem putu_call (w : World) (k : Nat) (h1 : 1 ≤ k) (h8 : k ≤ 8) (L : List Nat) (hL : ∀ x ∈ L, x ≤ 18446744073709551615) (hl : L.length ≤ 100) :
    Calls Try.prog 42 #[.int .i64 (k : Int), .slice (some ⟨w.heap.size, 0, none⟩) L.length L.length] (w.alloc (.cells (L.map fun (x : Nat) => Value.int .u64 (x : Int)).toArray 28)) fun e w' => ∃ v, e = .returned v ∧ FBy w v (rowU k L) w' := by
  have he : elU.encs L = L.map fun (x : Nat) => Value.int .u64 (x : Int) := by
    induction L with
    | nil => rfl
    | cons x r ih =>
      have e1 : elU.encs (x :: r) = elU.enc x ++ elU.encs r := rfl
      rw [e1, ih (fun y hy => hL y (List.mem_cons_of_mem _ hy)) (by simp at hl; omega)]; rfl
  refine (putu_any _ k h1 h8 L hL w.heap.size L.length (EOwn.block elU_ok (Blk.new w 28 _) (by rw [he]) (by omega)) hl).mono ?_
  rintro e w' ⟨v, rfl, hf⟩
  exact ⟨v, rfl, hf.up ((Below.refl _ _).alloc (Nat.le_refl _) _)⟩
set_option maxRecDepth 100000 in
set_option maxHeartbeats 4000000 in
theorem putbox_any (w : World) (a b c d : Int) : Calls Try.prog 43 #[.agg #[.int .i64 a, .int .i64 b, .int .i64 c, .int .i64 d]] w fun e w' => ∃ v, e = .returned v ∧ FBy w v (rowB 2 [a, b, c, d]) w' := by
  have HP := Lib.hid (put_call (w.alloc (.cells #[.int .i64 a, .int .i64 b, .int .i64 c, .int .i64 d] 34)) 2 (by decide) (by decide) [a, b, c, d] (by simp))
  have HB := Lib.hid (show Below w.heap.size w (w.alloc (.cells #[.int .i64 a, .int .i64 b, .int .i64 c, .int .i64 d] 34)) from (Below.refl _ _).alloc (Nat.le_refl _) _)
  obtain ⟨W, hW⟩ : ∃ W, W = w.alloc (.cells #[.int .i64 a, .int .i64 b, .int .i64 c, .int .i64 d] 34) := ⟨_, rfl⟩
  rw [← hW] at HP HB
  have HK := Lib.hid (show Blk W w.heap.size 34 #[.int .i64 a, .int .i64 b, .int .i64 c, .int .i64 d] by rw [hW]; exact Blk.new _ _ _)
  have hWs := hW.symm
  have k0 := HK.out.cell 0
  have k1 := HK.out.cell 1
  have k2 := HK.out.cell 2
  have k3 := HK.out.cell 3
  simp only [List.getElem?_toArray, List.getElem?_cons_zero, List.getElem?_cons_succ] at k0 k1 k2 k3
  clear hW
  go_enter Try.func43, Try.ntmps43
  go_wp2_with fail
  refine HP.out.mono ?_
  rintro e w1 ⟨v, rfl, hf⟩
  obtain ⟨A, c1, hv, _, _⟩ := hf.own.slice
  generalize (rowB 2 [a, b, c, d]).length = n at hv
  subst hv
  have HF := Lib.hid hf
  clear hf
  go_wp2_with fail
  go_ret
  exact ⟨_, rfl, HF.out.up HB.out⟩
end Go.Proofs.Ytmapcdmegkfheaa
