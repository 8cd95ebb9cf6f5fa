/- region: compare, follow, ends of rectangles, by contract. -/
import Derived.Test.YtimfcgnnfgoaaaaRgB
import Derived.Deep.DeepCutAuto
namespace Go.Proofs.Ytimfcgnnfgoaaaa
set_option linter.unusedVariables false
set_option linter.unusedSimpArgs false
open Go.RowKit
theorem new_cell (w : World) (cs : Array Value) (t : TypeId) (i : Nat) {v : Value} (h : cs[i]? = some v) : (w.alloc (.cells cs t)).cell? ⟨w.heap.size, i, none⟩ = some v := by rw [(Blk.new w t cs).cell]; exact h
set_option maxHeartbeats 1000000 in
theorem compare_any (a b : En) (w : World) : Calls Try.prog 55 #[.agg (elEd.enc a).toArray, .agg (elEd.enc b).toArray] w fun e w' => e = .returned (.int .i64 (wrap64 (a.x - b.x))) ∧ (w.alloc (.cells (elEd.enc a).toArray 80)).alloc (.cells (elEd.enc b).toArray 80) = w' := by
  simp only [elEd]
  go_enter Try.func55, Try.ntmps55
  go_wp2_with fail
  go_ret
  exact ⟨rfl, rfl⟩
theorem ERow.setTo {w : World} {g cap : Nat} {M : List Rn} {l : Rn} {u : Int} (h : ERow elRn w g cap (M ++ [l])) : ERow elRn (w.setCell ⟨g, M.length * 2 + 1, none⟩ (.int .i64 u)) g cap (M ++ [⟨l.f, u⟩]) := by
  obtain ⟨cur, h1, h2, h3, h4, h5⟩ := h
  refine ⟨cur.setIfInBounds (M.length * 2 + 1) (.int .i64 u), h1.set_ _ _, by simp [h2], by simpa using h3, h4, ?_⟩
  have hlen : (M ++ [(⟨l.f, u⟩ : Rn)]).length = (M ++ [l]).length := by simp
  rw [Array.toList_setIfInBounds, hlen, List.take_set, h5, El.encs_append, El.encs_append]
  have h6 : (elRn.encs M).length = M.length * 2 := El.encs_length elRn_ok M
  rw [List.set_append_right _ _ (by rw [h6]; omega), h6, show M.length * 2 + 1 - M.length * 2 = 1 by omega]
  rfl
/-- What follow leaves. -/
def FollowP (w : World) (v : Value) (L : List Rn) (r : Rn) (e : Ending) (w' : World) : Prop :=
  ∃ v', e = .returned v' ∧ EOwn elRn w' v' (followN L r) ∧ (v'.ownBlock = v.ownBlock ∨ ∀ i, v'.ownBlock = some i → w.heap.size ≤ i) ∧ w'.os = w.os ∧ w'.tape = w.tape ∧ w'.output = w.output ∧ w.heap.size ≤ w'.heap.size ∧ ∀ k, k < w.heap.size → v.ownBlock ≠ some k → w'.heap[k]? = w.heap[k]?
set_option maxRecDepth 100000 in
set_option maxHeartbeats 4000000 in
theorem follow_any (w : World) (v : Value) (L : List Rn) (r : Rn) (h : EOwn elRn w v L) (hl : L.length ≤ 1000000) (hr : 0 ≤ r.f ∧ r.f ≤ 100000) :
    Calls Try.prog 63 #[v, .agg #[.int .i64 r.f, .int .i64 r.t]] w (FollowP w v L r) := by
  obtain ⟨A, c, rfl, -, -⟩ := h.slice
  have HA := Lib.hid (show Below w.heap.size w (w.alloc (.cells #[.int .i64 r.f, .int .i64 r.t] 75)) from (Below.refl _ _).alloc (Nat.le_refl _) _)
  have HK := Lib.hid (Blk.new w 75 #[.int .i64 r.f, .int .i64 r.t])
  have HO := Lib.hid (h.below HA.out)
  have HOL := Lib.hid (show ∀ i, (Value.slice A L.length c).ownBlock = some i → i < w.heap.size from fun i hi => h.lt hi)
  have hw1 : wrap64 (r.f - 1) = r.f - 1 := by unfold wrap64; omega
  have HL := Lib.hid hl
  clear h hr
  rcases List.eq_nil_or_concat L with rfl | ⟨M, l, rfl⟩
  · go_enter Try.func63, Try.ntmps63
    go_upto_region 2 with fail
    generalize (w.alloc (.cells #[.int .i64 r.f, .int .i64 r.t] 75)) = W at *
    go_region
    have HA2 := Lib.hid HA.out.drew
    have HK2 := Lib.hid (show Blk W.drew w.heap.size 75 _ from HK.out)
    have HO2 := Lib.hid (show EOwn elRn W.drew _ _ from HO.out)
    clear HA HK HO
    generalize W.drew = W2 at *
    have k0 := HK2.out.cell 0
    have k1 := HK2.out.cell 1
    simp only [List.getElem?_toArray, List.getElem?_cons_zero, List.getElem?_cons_succ] at k0 k1
    go_wp2_with ((at_builtin; refine wpList_epush elRn_ok rfl _ _ 70 rfl (by kernel_rfl) (.slice A ([] : List Rn).length c) ([] : List Rn) r W2.heap.size 1 rfl rfl (HO2.out.below ((Below.refl _ _).alloc (Nat.le_refl _) _)) (fun j u hu => new_cell W2 _ _ j (by simpa [elRn] using hu)) HL.out ?_; intro v' w5 hA))
    have hal : Below W2.heap.size W2 (W2.alloc (.cells #[.int .i64 r.f, .int .i64 r.t] 75)) := (Below.refl _ _).alloc (Nat.le_refl _) _
    have hlow := HA2.out.trans (hal.mono HA2.out.size)
    obtain ⟨g5, cap5, hv5, hrow5, hgr5, hor5⟩ := id hA
    have HFIN : Hid (EOwn elRn w5 v' (([] : List Rn) ++ [r]) ∧ (v'.ownBlock = (Value.slice A ([] : List Rn).length c).ownBlock ∨ ∀ i, v'.ownBlock = some i → w.heap.size ≤ i) ∧ w5.os = w.os ∧ w5.tape = w.tape ∧ w5.output = w.output ∧ w.heap.size ≤ w5.heap.size ∧ ∀ k, k < w.heap.size → (Value.slice A ([] : List Rn).length c).ownBlock ≠ some k → w5.heap[k]? = w.heap[k]?) := Lib.hid (by
      refine ⟨hA.own, ?_, hgr5.os.trans hlow.os, hgr5.tape.trans hlow.tape, hgr5.output.trans hlow.output, Nat.le_trans hlow.size hgr5.size, fun k hk hn => (hgr5.block k (by have := hlow.size; omega) (Ne.symm hn)).trans (hlow.block k hk)⟩
      rcases hor5 with h9 | h9
      · left; rw [hv5, h9]; first | done | rfl
      · right; intro i hi
        rw [hv5] at hi
        have e : g5 = i := by simpa [Value.ownBlock] using hi
        have := hlow.size
        omega)
    clear hal hlow hv5 hrow5 hgr5 hor5 hA k0 k1
    go_wp2_with fail
    go_ret
    unfold FollowP
    obtain ⟨f1, f2, f3⟩ := HFIN.out
    exact ⟨_, rfl, f1, f2, f3⟩
  · simp only [List.concat_eq_append] at *
    have hlN : (M ++ [l]).length = M.length + 1 := by simp
    have hc2 : (0 : Int) < ((M ++ [l]).length : Int) := by rw [hlN]; omega
    have hw2 : wrap64 (((M ++ [l]).length : Int) - 1) = (M.length : Int) := by
      have h1 := HL.out
      rw [hlN] at h1 ⊢
      unfold wrap64; omega
    have hw3 : wrap64 (M.length : Int) = (M.length : Int) := by
      have h1 := HL.out
      rw [hlN] at h1
      unfold wrap64; omega
    have hw4 : IntKind.i64.wrap (M.length : Int) = (M.length : Int) := by
      have h1 := HL.out
      rw [hlN] at h1
      rw [IntKind.wrap_i64]; omega
    have hi2 : (M.length : Int) < ((M ++ [l]).length : Int) := by rw [hlN]; omega
    have hi3 : (M.length : Int) < (M.length : Int) + 1 := by omega
    have hc3 : 0 < (M ++ [l]).length := by omega
    obtain ⟨-, g, rfl, hcl⟩ := HO.out.cell (i := M.length) (x := l) elRn_ok (by simp)
    have HCL := Lib.hid (show ∀ V, Below (w.alloc (.cells #[.int .i64 r.f, .int .i64 r.t] 75)).heap.size (w.alloc (.cells #[.int .i64 r.f, .int .i64 r.t] 75)) V → V.cell? ⟨g, M.length * 2 + 1, none⟩ = some (.int .i64 l.t) from fun V hV => cell_later hV (hcl 1 _ rfl))
    clear hcl hl
    go_enter Try.func63, Try.ntmps63
    go_upto_region 2 with fail
    generalize (w.alloc (.cells #[.int .i64 r.f, .int .i64 r.t] 75)) = W at *
    have c1 := HCL.out W (Below.refl _ _)
    have k0 := HK.out.cell 0
    have k1 := HK.out.cell 1
    simp only [List.getElem?_toArray, List.getElem?_cons_zero, List.getElem?_cons_succ] at k0 k1
    generalize hLN : (M ++ [l]).length = LN at *
    rcases (show ¬ l.t = r.f - 1 ∨ l.t = r.f - 1 from by omega) with e1 | e1
    · have e1b : (l.t == r.f - 1) = false := beq_eq_false_iff_ne.2 e1
      have HFN := Lib.hid (show followN (M ++ [l]) r = M ++ [l] ++ [r] by rw [followN_snoc, if_neg e1])
      go_region
      have HA2 := Lib.hid HA.out.drew
      have HK2 := Lib.hid (show Blk W.drew w.heap.size 75 _ from HK.out)
      have HO2 := Lib.hid (show EOwn elRn W.drew _ _ from HO.out)
      clear HA HK HO HCL c1 k0 k1
      generalize W.drew = W2 at *
      have k0 := HK2.out.cell 0
      have k1 := HK2.out.cell 1
      simp only [List.getElem?_toArray, List.getElem?_cons_zero, List.getElem?_cons_succ] at k0 k1
      go_wp2_with ((at_builtin; refine wpList_epush elRn_ok rfl _ _ 70 rfl (by kernel_rfl) (.slice (some ⟨g, 0, none⟩) LN c) (M ++ [l]) r W2.heap.size 1 rfl rfl (HO2.out.below ((Below.refl _ _).alloc (Nat.le_refl _) _)) (fun j u hu => new_cell W2 _ _ j (by simpa [elRn] using hu)) (by rw [hLN]; exact HL.out) ?_; intro v' w5 hA))
      have hal : Below W2.heap.size W2 (W2.alloc (.cells #[.int .i64 r.f, .int .i64 r.t] 75)) := (Below.refl _ _).alloc (Nat.le_refl _) _
      have hlow := HA2.out.trans (hal.mono HA2.out.size)
      obtain ⟨g5, cap5, hv5, hrow5, hgr5, hor5⟩ := id hA
      have HFIN : Hid (EOwn elRn w5 v' (M ++ [l] ++ [r]) ∧ (v'.ownBlock = (Value.slice (some ⟨g, 0, none⟩) LN c).ownBlock ∨ ∀ i, v'.ownBlock = some i → w.heap.size ≤ i) ∧ w5.os = w.os ∧ w5.tape = w.tape ∧ w5.output = w.output ∧ w.heap.size ≤ w5.heap.size ∧ ∀ k, k < w.heap.size → (Value.slice (some ⟨g, 0, none⟩) LN c).ownBlock ≠ some k → w5.heap[k]? = w.heap[k]?) := Lib.hid (by
        refine ⟨hA.own, ?_, hgr5.os.trans hlow.os, hgr5.tape.trans hlow.tape, hgr5.output.trans hlow.output, Nat.le_trans hlow.size hgr5.size, fun k hk hn => (hgr5.block k (by have := hlow.size; omega) (Ne.symm hn)).trans (hlow.block k hk)⟩
        rcases hor5 with h9 | h9
        · left; rw [hv5, h9]; first | done | rfl
        · right; intro i hi
          rw [hv5] at hi
          have e : g5 = i := by simpa [Value.ownBlock] using hi
          have := hlow.size
          omega)
      clear hal hlow hv5 hrow5 hgr5 hor5 hA k0 k1
      go_wp2_with fail
      go_ret
      unfold FollowP
      rw [HFN.out]
      obtain ⟨f1, f2, f3⟩ := HFIN.out
      exact ⟨_, rfl, f1, f2, f3⟩
    · have e1b : (l.t == r.f - 1) = true := by simp [e1]
      have HFN := Lib.hid (show followN (M ++ [l]) r = M ++ [⟨l.f, r.t⟩] by rw [followN_snoc, if_pos e1])
      clear e1
      go_region
      have HA2 := Lib.hid HA.out.drew
      have HK2 := Lib.hid (show Blk W.drew w.heap.size 75 _ from HK.out)
      have HO2 := Lib.hid (show EOwn elRn W.drew _ _ from HO.out)
      have c1' : W.drew.cell? ⟨g, M.length * 2 + 1, none⟩ = some (.int .i64 l.t) := c1
      clear HA HK HO HCL c1 k0 k1
      generalize W.drew = W2 at *
      have k1 := HK2.out.cell 1
      simp only [List.getElem?_toArray, List.getElem?_cons_zero, List.getElem?_cons_succ] at k1
      have hrow : ∃ cap, c = cap ∧ ERow elRn W2 g cap (M ++ [l]) := by
        rcases HO2.out with ⟨h9, _⟩ | ⟨g9, cap9, h9, hr9⟩
        · cases h9
        · simp only [Value.slice.injEq, Option.some.injEq, Addr.mk.injEq, and_true] at h9
          obtain ⟨rfl, h8, rfl⟩ := h9
          exact ⟨_, rfl, hr9⟩
      obtain ⟨cap, rfl, hrow⟩ := hrow
      have hf : W2.frozen? ⟨g, M.length * 2 + 1, none⟩ = false := by
        obtain ⟨cur, h9, _⟩ := hrow
        exact h9.frozen _
      have HRW := Lib.hid (hrow.setTo (u := r.t))
      have HGL := Lib.hid (HOL.out g rfl)
      clear hrow
      go_wp2_with fail
      go_ret
      unfold FollowP
      rw [HFN.out]
      refine ⟨_, rfl, .inr ⟨g, c, by rw [← hLN]; simp, HRW.out⟩, .inl rfl, HA2.out.os, HA2.out.tape, HA2.out.output, by simpa [World.setCell] using HA2.out.size, fun k hk hn => ?_⟩
      rw [Below.heap_setCell _ ⟨g, _, none⟩ _ _ (fun e => hn (by simp [Value.ownBlock, e]))]
      exact HA2.out.block k hk
theorem FE.follow {w0 w w' : World} {v : Value} {L : List Rn} {r : Rn} {e : Ending} (h : FE elRn w0 v L w) (k : FollowP w v L r e w') : ∃ v', e = .returned v' ∧ FE elRn w0 v' (followN L r) w' := by
  obtain ⟨v', rfl, h1, h2, h3, h4, h5, h6, h7⟩ := k
  have hs := h.bel.size
  refine ⟨v', rfl, h1, ⟨h3.trans h.bel.os, h4.trans h.bel.tape, h5.trans h.bel.output, Nat.le_trans hs h6, fun i hi => ?_⟩, fun i hi => ?_⟩
  · rw [h7 i (by omega) (fun e => by have := h.far i e; omega)]
    exact h.bel.block i hi
  · rcases h2 with h2 | h2
    · exact h.far i (h2 ▸ hi)
    · have := h2 i hi; omega
set_option maxRecDepth 100000 in
set_option maxHeartbeats 4000000 in
theorem endsOf_any (w : World) (v : Value) (L : List Bx) (k : Int) (h : ERd elR w v L) (hl : L.length ≤ 100000) (hr : rightA L) :
    Calls Try.prog 53 #[v, .int .i64 k] w fun e w' => ∃ v', e = .returned v' ∧ FE elEd w v' (endsM L k) w' := by
  obtain ⟨A1, c1, rfl, -, -⟩ := h.shape
  have HL := Lib.hid h
  have HR := Lib.hid hr
  clear h hr
  have HTY := Lib.hid (show Try.prog.underlying 77 = some (.slice elEd.T) from Try.underlying77)
  obtain ⟨n, hn⟩ : ∃ n, n = L.length := ⟨_, rfl⟩
  rw [← hn] at HL hl ⊢
  have HN := Lib.hid hn; clear hn
  go_enter Try.func53, Try.ntmps53
  go_wp2_with fail
  go_loopw [5, 10] (fun v i wr => ∃ (j : Nat) (v0 : Value), j ≤ n ∧ v = v0 ∧ i = .int .i64 j ∧ Hid (FE elEd w v0 (endsM (L.take j) k) wr)) (fun _ i _ => n - (intOf i).toNat)
  case atStart => exact ⟨0, _, Nat.zero_le _, rfl, rfl, by simpa [Hid, endsM] using FE.nil_ (E := elEd) w w (Below.refl _ _)⟩
  case round =>
    rename World => wr
    obtain ⟨j, v0, hj, hv, rfl, HF⟩ := hrel
    have hv' := hv.symm
    clear hv
    subst hv'
    by_cases hlt : j < n
    · have hji : (j : Int) < (n : Int) := by omega
      have hkl : j < L.length := by rw [← HN.out]; exact hlt
      have hx : L[j]? = some L[j] := List.getElem?_eq_getElem hkl
      have hrx := HR.out _ (List.getElem_mem hkl)
      have HTK := Lib.hid (show endsM (L.take (j + 1)) k = endsM (L.take j) k ++ endsB k L[j] by rw [List.take_succ_eq_append_getElem hkl]; unfold endsM; rw [List.flatMap_append, List.flatMap_singleton])
      have HLE := Lib.hid (show (endsM (L.take j) k).length + 2 ≤ 300000 by rw [endsM_len, List.length_take]; omega)
      obtain ⟨g, o, rfl, hg, a0, a1, a2, a3⟩ := (HL.out.below HF.out.bel).rect hx
      generalize L[j] = x at *
      clear hx hg
      obtain ⟨x0, x1, x2, x3⟩ := x
      unfold rightR at hrx
      simp only at a0 a1 a2 a3 hrx HTK
      have hw1 : wrap64 (x2 + 1) = x2 + 1 := by unfold wrap64; omega
      clear hrx
      generalize hEL : endsM (L.take j) k = EL at *
      clear hEL
      have hB1 : Below wr.heap.size wr (wr.alloc (.cells #[.int .i64 x0, .int .i64 x1, .int .i64 x2, .int .i64 x3] 39)) := (Below.refl _ _).alloc (Nat.le_refl _) _
      have HF1 := Lib.hid (HF.out.below hB1)
      have HZ1 := Lib.hid (show (wr.alloc (.cells #[.int .i64 x0, .int .i64 x1, .int .i64 x2, .int .i64 x3] 39)).heap.size = wr.heap.size + 1 by simp)
      clear hB1 HF
      obtain ⟨A5, c5, rfl, -, -⟩ := HF1.out.own.slice
      have HRE := Lib.hid (show Reads ((wr.alloc (.cells #[.int .i64 x0, .int .i64 x1, .int .i64 x2, .int .i64 x3] 39)).alloc (.cells #[.int .i64 x0, .int .i64 x1, .int .i64 x3, .int .i64 k, .int .i64 1, .int .i64 (x2 + 1), .int .i64 x1, .int .i64 x3, .int .i64 k, .int .i64 (-1)] 80)) ((wr.alloc (.cells #[.int .i64 x0, .int .i64 x1, .int .i64 x2, .int .i64 x3] 39)).alloc (.cells #[.int .i64 x0, .int .i64 x1, .int .i64 x3, .int .i64 k, .int .i64 1, .int .i64 (x2 + 1), .int .i64 x1, .int .i64 x3, .int .i64 k, .int .i64 (-1)] 80)).heap.size elEd.k (some ⟨wr.heap.size + 1, 0, none⟩) (endsB k ⟨x0, x1, x2, x3⟩).length (elEd.encs (endsB k ⟨x0, x1, x2, x3⟩)) from
        (EOwn.block (M := endsB k ⟨x0, x1, x2, x3⟩) elEd_ok (Blk.newAt HZ1.out) rfl (by simp [endsB])).reads elEd_ok)
      have HAL := Lib.hid (fun (o : Obj) => HF1.out.below ((Below.refl _ _).alloc (Nat.le_refl _) o))
      go_wp2_with ((at_builtin; refine wpList_eappr2 (e2 := 80) elEd_ok rfl (.tmp 14) (.tmp 32) 77 77 rfl HTY.out HTY.out _ EL (endsB k ⟨x0, x1, x2, x3⟩) (some ⟨wr.heap.size + 1, 0, none⟩) 2 rfl rfl (HAL.out _).own HRE.out (by have := HLE.out; simp only [maxLen, endsB, List.length_cons, List.length_nil]; omega) (by have := HLE.out; simp only [elEd, endsB, List.length_cons, List.length_nil]; omega) ?_; intro v2 w3 hA2; have HP2 := Lib.hid ((HAL.out _).app hA2); clear hA2))
      go_roundw
      case rel => exact ⟨j + 1, _, by omega, rfl, by go_num, by have h9 := HP2.out; rw [← HTK.out] at h9; exact h9⟩
      case measure => simp [intOf]; omega
    · obtain rfl : j = n := by omega
      have HZ := Lib.hid (show FE elEd w v0 (endsM L k) wr by have h9 := HF.out; rw [List.take_of_length_le (by rw [← HN.out]; omega)] at h9; exact h9)
      clear HF
      go_wp2
      go_ret
      exact ⟨_, rfl, HZ.out⟩
end Go.Proofs.Ytimfcgnnfgoaaaa
