/- Texts: Gr5, Gr6, Gr7, Gr8. -/
import Derived.Test.YtmgamlpjgghieaaGreatDoorZbGr0M
import Derived.Test.YtmgamlpjgghieaaGreatDoorZbGeomM
namespace Go.Proofs.YtmgamlpjgghieaaGreatDoor
section
set_option linter.unusedVariables false
set_option linter.unusedSimpArgs false
open Go.RowKit
/-- A run. -/
structure Rn where
  f : Int
  t : Int
  z : Int
def elRn : El Rn := { T := 113, k := 3, by_ := 24, z := .agg #[.int .i64 0, .int .i64 0, .int .i64 0], enc := fun x => [.int .i64 x.f, .int .i64 x.t, .int .i64 x.z] }
theorem elRn_ok : elRn.Ok := ⟨by decide, fun _ => rfl, fun x u hu => by simp only [elRn, List.mem_cons, List.not_mem_nil, or_false] at hu; rcases hu with rfl | rfl | rfl <;> rfl, by kernel_rfl, rfl, by decide⟩
/-- An edge. -/
structure Ed where
  x : Int
  f : Int
  t : Int
  k : Int
  z : Int
  s : Int
def elEd : El Ed := { T := 126, k := 6, by_ := 48, z := .agg #[.int .i64 0, .int .i64 0, .int .i64 0, .int .i64 0, .int .i64 0, .int .i64 0], enc := fun e => [.int .i64 e.x, .int .i64 e.f, .int .i64 e.t, .int .i64 e.k, .int .i64 e.z, .int .i64 e.s] }
theorem elEd_ok : elEd.Ok := ⟨by decide, fun _ => rfl, fun x u hu => by simp only [elEd, List.mem_cons, List.not_mem_nil, or_false] at hu; rcases hu with rfl | rfl | rfl | rfl | rfl | rfl <;> rfl, by kernel_rfl, rfl, by decide⟩
set_option maxHeartbeats 1000000 in
theorem compare_any (a b : Ed) (w : World) : Calls Tryz.prog 91 #[.agg (elEd.enc a).toArray, .agg (elEd.enc b).toArray] w fun e w' => e = .returned (.int .i64 (wrap64 (a.x - b.x))) ∧ Below w.heap.size w w' := by
  have HB : Hid (∀ x y : Array Value, Below w.heap.size w ((w.alloc (.cells x 126)).alloc (.cells y 126))) := Lib.hid fun x y => ((Below.refl _ _).alloc (Nat.le_refl _) _).alloc (by simp) _
  simp only [elEd]
  go_enter Tryz.func91, Tryz.ntmps91
  go_wp2_with fail
  go_ret
  exact ⟨rfl, HB.out _ _⟩
/-- A run put behind others. -/
def followN (L : List Rn) (r : Rn) : List Rn :=
  match L.getLast? with
  | none => [r]
  | some l => if l.t = r.f - 1 ∧ l.z = r.z then L.dropLast ++ [⟨l.f, r.t, l.z⟩] else L ++ [r]
theorem ERow.setTo {w : World} {g cap : Nat} {M : List Rn} {l : Rn} {u : Int} (h : ERow elRn w g cap (M ++ [l])) : ERow elRn (w.setCell ⟨g, M.length * 3 + 1, none⟩ (.int .i64 u)) g cap (M ++ [⟨l.f, u, l.z⟩]) := by
  obtain ⟨cur, h1, h2, h3, h4, h5⟩ := h
  refine ⟨cur.setIfInBounds (M.length * 3 + 1) (.int .i64 u), h1.set_ _ _, by simp [h2], by simpa using h3, h4, ?_⟩
  have hlen : (M ++ [(⟨l.f, u, l.z⟩ : Rn)]).length = (M ++ [l]).length := by simp
  rw [Array.toList_setIfInBounds, hlen, List.take_set, h5, El.encs_append, El.encs_append]
  have h6 : (elRn.encs M).length = M.length * 3 := El.encs_length elRn_ok M
  rw [List.set_append_right _ _ (by rw [h6]; omega), h6, show M.length * 3 + 1 - M.length * 3 = 1 by omega]
  rfl
/-- What follow leaves. -/
def FollowP (w : World) (v : Value) (L : List Rn) (r : Rn) (e : Ending) (w' : World) : Prop :=
  ∃ v', e = .returned v' ∧ EOwn elRn w' v' (followN L r) ∧ (v'.ownBlock = v.ownBlock ∨ ∀ i, v'.ownBlock = some i → w.heap.size ≤ i) ∧ w'.os = w.os ∧ w'.tape = w.tape ∧ w'.output = w.output ∧ w.heap.size ≤ w'.heap.size ∧ ∀ k, k < w.heap.size → v.ownBlock ≠ some k → w'.heap[k]? = w.heap[k]?
theorem followN_snoc (M : List Rn) (l r : Rn) : followN (M ++ [l]) r = if l.t = r.f - 1 ∧ l.z = r.z then M ++ [⟨l.f, r.t, l.z⟩] else M ++ [l] ++ [r] := by
  unfold followN
  rw [List.getLast?_append]
  simp
set_option maxRecDepth 100000 in
set_option maxHeartbeats 4000000 in
theorem follow_any (w : World) (v : Value) (L : List Rn) (r : Rn) (h : EOwn elRn w v L) (hl : L.length ≤ 1000000) (hr : 0 ≤ r.f ∧ r.f ≤ 100000) :
    Calls Tryz.prog 105 #[v, .agg #[.int .i64 r.f, .int .i64 r.t, .int .i64 r.z]] w (FollowP w v L r) := by
  obtain ⟨A, c, rfl, -, -⟩ := h.slice
  have HA := Lib.hid (show Below w.heap.size w (w.alloc (.cells #[.int .i64 r.f, .int .i64 r.t, .int .i64 r.z] 113)) from (Below.refl _ _).alloc (Nat.le_refl _) _)
  have HK := Lib.hid (Blk.new w 113 #[.int .i64 r.f, .int .i64 r.t, .int .i64 r.z])
  have HO := Lib.hid (h.below HA.out)
  have HOL := Lib.hid (show ∀ i, (Value.slice A L.length c).ownBlock = some i → i < w.heap.size from fun i hi => h.lt hi)
  have hw1 : wrap64 (r.f - 1) = r.f - 1 := by unfold wrap64; omega
  have HL := Lib.hid hl
  clear h hr
  rcases List.eq_nil_or_concat L with rfl | ⟨M, l, rfl⟩
  · go_enter Tryz.func105, Tryz.ntmps105
    go_upto_region 2 with fail
    generalize (w.alloc (.cells #[.int .i64 r.f, .int .i64 r.t, .int .i64 r.z] 113)) = W at *
    go_region
    have HA2 := Lib.hid HA.out.drew
    have HK2 := Lib.hid (show Blk W.drew w.heap.size 113 _ from HK.out)
    have HO2 := Lib.hid (show EOwn elRn W.drew _ _ from HO.out)
    clear HA HK HO
    generalize W.drew = W2 at *
    have k0 := HK2.out.cell 0
    have k1 := HK2.out.cell 1
    have k2 := HK2.out.cell 2
    simp only [List.getElem?_toArray, List.getElem?_cons_zero, List.getElem?_cons_succ] at k0 k1 k2
    go_wp2_with ((at_builtin; refine wpList_epush elRn_ok rfl _ _ 109 rfl (by kernel_rfl) (.slice A ([] : List Rn).length c) ([] : List Rn) r W2.heap.size 1 rfl rfl (HO2.out.alloc _) (fun j u hu => new_cell W2 _ _ j (by simpa [elRn] using hu)) HL.out ?_; intro v' w5 hA))
    have hal : Below W2.heap.size W2 (W2.alloc (.cells #[.int .i64 r.f, .int .i64 r.t, .int .i64 r.z] 113)) := (Below.refl _ _).alloc (Nat.le_refl _) _
    have hlow := HA2.out.trans (hal.mono HA2.out.size)
    obtain ⟨g5, cap5, hv5, hrow5, hgr5, hor5⟩ := id hA
    have HFIN : Hid (EOwn elRn w5 v' (([] : List Rn) ++ [r]) ∧ (v'.ownBlock = (Value.slice A ([] : List Rn).length c).ownBlock ∨ ∀ i, v'.ownBlock = some i → w.heap.size ≤ i) ∧ w5.os = w.os ∧ w5.tape = w.tape ∧ w5.output = w.output ∧ w.heap.size ≤ w5.heap.size ∧ ∀ k, k < w.heap.size → (Value.slice A ([] : List Rn).length c).ownBlock ≠ some k → w5.heap[k]? = w.heap[k]?) := Lib.hid (by
      refine ⟨hA.own, ?_, hgr5.os.trans hlow.os, hgr5.tape.trans hlow.tape, hgr5.output.trans hlow.output, Nat.le_trans hlow.size hgr5.size, fun k hk hn => (hgr5.block k (by have := hlow.size; omega) (Ne.symm hn)).trans (hlow.block k hk)⟩
      rcases hor5 with h9 | h9
      · left; rw [hv5, h9]; first | done | rfl
      · right; intro i hi
        rw [hv5] at hi
        have e : g5 = i := by simpa [Value.ownBlock] using hi
        have := hlow.size
        omega)
    clear hal hlow hv5 hrow5 hgr5 hor5 hA k0 k1 k2
    go_wp2_with fail
    go_ret
    unfold FollowP
    obtain ⟨f1, f2, f3⟩ := HFIN.out
    exact ⟨_, rfl, f1, f2, f3⟩
  · simp only [List.concat_eq_append] at *
    have hlN : (M ++ [l]).length = M.length + 1 := by simp
    have hc2 : (0 : Int) < ((M ++ [l]).length : Int) := by rw [hlN]; omega
    have hw2 : wrap64 (((M ++ [l]).length : Int) - 1) = (M.length : Int) := by
      have h1 := HL.out
      rw [hlN] at h1 ⊢
      unfold wrap64; omega
    have hw3 : wrap64 (M.length : Int) = (M.length : Int) := by
      have h1 := HL.out
      rw [hlN] at h1
      unfold wrap64; omega
    have hw4 : IntKind.i64.wrap (M.length : Int) = (M.length : Int) := by
      have h1 := HL.out
      rw [hlN] at h1
      rw [IntKind.wrap_i64]; omega
    have hi2 : (M.length : Int) < ((M ++ [l]).length : Int) := by rw [hlN]; omega
    have hi3 : (M.length : Int) < (M.length : Int) + 1 := by omega
    have hc3 : 0 < (M ++ [l]).length := by omega
    obtain ⟨-, g, rfl, hcl⟩ := HO.out.cell (i := M.length) (x := l) elRn_ok (by simp)
    have HCL := Lib.hid (show ∀ V, Below (w.alloc (.cells #[.int .i64 r.f, .int .i64 r.t, .int .i64 r.z] 113)).heap.size (w.alloc (.cells #[.int .i64 r.f, .int .i64 r.t, .int .i64 r.z] 113)) V → V.cell? ⟨g, M.length * 3 + 1, none⟩ = some (.int .i64 l.t) ∧ V.cell? ⟨g, M.length * 3 + 2, none⟩ = some (.int .i64 l.z) from fun V hV => ⟨cell_later hV (hcl 1 _ rfl), cell_later hV (hcl 2 _ rfl)⟩)
    clear hcl hl
    go_enter Tryz.func105, Tryz.ntmps105
    go_upto_region 2 with fail
    generalize (w.alloc (.cells #[.int .i64 r.f, .int .i64 r.t, .int .i64 r.z] 113)) = W at *
    obtain ⟨c1, c2⟩ := HCL.out W (Below.refl _ _)
    have k0 := HK.out.cell 0
    have k1 := HK.out.cell 1
    have k2 := HK.out.cell 2
    simp only [List.getElem?_toArray, List.getElem?_cons_zero, List.getElem?_cons_succ] at k0 k1 k2
    generalize hLN : (M ++ [l]).length = LN at *
    rcases (show ¬ l.t = r.f - 1 ∨ l.t = r.f - 1 from by omega) with e1 | e1
    · have e1b : (l.t == r.f - 1) = false := beq_eq_false_iff_ne.2 e1
      have HFN := Lib.hid (show followN (M ++ [l]) r = M ++ [l] ++ [r] by rw [followN_snoc, if_neg (fun h9 => e1 h9.1)])
      go_region
      have HA2 := Lib.hid HA.out.drew
      have HK2 := Lib.hid (show Blk W.drew w.heap.size 113 _ from HK.out)
      have HO2 := Lib.hid (show EOwn elRn W.drew _ _ from HO.out)
      clear HA HK HO HCL c1 c2 k0 k1 k2
      generalize W.drew = W2 at *
      have k0 := HK2.out.cell 0
      have k1 := HK2.out.cell 1
      have k2 := HK2.out.cell 2
      simp only [List.getElem?_toArray, List.getElem?_cons_zero, List.getElem?_cons_succ] at k0 k1 k2
      go_wp2_with ((at_builtin; refine wpList_epush elRn_ok rfl _ _ 109 rfl (by kernel_rfl) (.slice (some ⟨g, 0, none⟩) LN c) (M ++ [l]) r W2.heap.size 1 rfl rfl (HO2.out.alloc _) (fun j u hu => new_cell W2 _ _ j (by simpa [elRn] using hu)) (by rw [hLN]; exact HL.out) ?_; intro v' w5 hA))
      have hal : Below W2.heap.size W2 (W2.alloc (.cells #[.int .i64 r.f, .int .i64 r.t, .int .i64 r.z] 113)) := (Below.refl _ _).alloc (Nat.le_refl _) _
      have hlow := HA2.out.trans (hal.mono HA2.out.size)
      obtain ⟨g5, cap5, hv5, hrow5, hgr5, hor5⟩ := id hA
      have HFIN : Hid (EOwn elRn w5 v' (M ++ [l] ++ [r]) ∧ (v'.ownBlock = (Value.slice (some ⟨g, 0, none⟩) LN c).ownBlock ∨ ∀ i, v'.ownBlock = some i → w.heap.size ≤ i) ∧ w5.os = w.os ∧ w5.tape = w.tape ∧ w5.output = w.output ∧ w.heap.size ≤ w5.heap.size ∧ ∀ k, k < w.heap.size → (Value.slice (some ⟨g, 0, none⟩) LN c).ownBlock ≠ some k → w5.heap[k]? = w.heap[k]?) := Lib.hid (by
        refine ⟨hA.own, ?_, hgr5.os.trans hlow.os, hgr5.tape.trans hlow.tape, hgr5.output.trans hlow.output, Nat.le_trans hlow.size hgr5.size, fun k hk hn => (hgr5.block k (by have := hlow.size; omega) (Ne.symm hn)).trans (hlow.block k hk)⟩
        rcases hor5 with h9 | h9
        · left; rw [hv5, h9]; first | done | rfl
        · right; intro i hi
          rw [hv5] at hi
          have e : g5 = i := by simpa [Value.ownBlock] using hi
          have := hlow.size
          omega)
      clear hal hlow hv5 hrow5 hgr5 hor5 hA k0 k1 k2
      go_wp2_with fail
      go_ret
      unfold FollowP
      rw [HFN.out]
      obtain ⟨f1, f2, f3⟩ := HFIN.out
      exact ⟨_, rfl, f1, f2, f3⟩
    · have e1b : (l.t == r.f - 1) = true := by simp [e1]
      rcases (show ¬ l.z = r.z ∨ l.z = r.z from by omega) with e2 | e2
      · have e2b : (l.z == r.z) = false := beq_eq_false_iff_ne.2 e2
        have HFN := Lib.hid (show followN (M ++ [l]) r = M ++ [l] ++ [r] by rw [followN_snoc, if_neg (fun h9 => e2 h9.2)])
        clear e1
        go_region
        have HA2 := Lib.hid HA.out.drew
        have HK2 := Lib.hid (show Blk W.drew w.heap.size 113 _ from HK.out)
        have HO2 := Lib.hid (show EOwn elRn W.drew _ _ from HO.out)
        clear HA HK HO HCL c1 c2 k0 k1 k2
        generalize W.drew = W2 at *
        have k0 := HK2.out.cell 0
        have k1 := HK2.out.cell 1
        have k2 := HK2.out.cell 2
        simp only [List.getElem?_toArray, List.getElem?_cons_zero, List.getElem?_cons_succ] at k0 k1 k2
        go_wp2_with ((at_builtin; refine wpList_epush elRn_ok rfl _ _ 109 rfl (by kernel_rfl) (.slice (some ⟨g, 0, none⟩) LN c) (M ++ [l]) r W2.heap.size 1 rfl rfl (HO2.out.alloc _) (fun j u hu => new_cell W2 _ _ j (by simpa [elRn] using hu)) (by rw [hLN]; exact HL.out) ?_; intro v' w5 hA))
        have hal : Below W2.heap.size W2 (W2.alloc (.cells #[.int .i64 r.f, .int .i64 r.t, .int .i64 r.z] 113)) := (Below.refl _ _).alloc (Nat.le_refl _) _
        have hlow := HA2.out.trans (hal.mono HA2.out.size)
        obtain ⟨g5, cap5, hv5, hrow5, hgr5, hor5⟩ := id hA
        have HFIN : Hid (EOwn elRn w5 v' (M ++ [l] ++ [r]) ∧ (v'.ownBlock = (Value.slice (some ⟨g, 0, none⟩) LN c).ownBlock ∨ ∀ i, v'.ownBlock = some i → w.heap.size ≤ i) ∧ w5.os = w.os ∧ w5.tape = w.tape ∧ w5.output = w.output ∧ w.heap.size ≤ w5.heap.size ∧ ∀ k, k < w.heap.size → (Value.slice (some ⟨g, 0, none⟩) LN c).ownBlock ≠ some k → w5.heap[k]? = w.heap[k]?) := Lib.hid (by
          refine ⟨hA.own, ?_, hgr5.os.trans hlow.os, hgr5.tape.trans hlow.tape, hgr5.output.trans hlow.output, Nat.le_trans hlow.size hgr5.size, fun k hk hn => (hgr5.block k (by have := hlow.size; omega) (Ne.symm hn)).trans (hlow.block k hk)⟩
          rcases hor5 with h9 | h9
          · left; rw [hv5, h9]; first | done | rfl
          · right; intro i hi
            rw [hv5] at hi
            have e : g5 = i := by simpa [Value.ownBlock] using hi
            have := hlow.size
            omega)
        clear hal hlow hv5 hrow5 hgr5 hor5 hA k0 k1 k2
        go_wp2_with fail
        go_ret
        unfold FollowP
        rw [HFN.out]
        obtain ⟨f1, f2, f3⟩ := HFIN.out
        exact ⟨_, rfl, f1, f2, f3⟩
      · have e2b : (l.z == r.z) = true := by simp [e2]
        have HFN := Lib.hid (show followN (M ++ [l]) r = M ++ [⟨l.f, r.t, l.z⟩] by rw [followN_snoc, if_pos ⟨e1, e2⟩])
        clear e1 e2
        go_region
        have HA2 := Lib.hid HA.out.drew
        have HK2 := Lib.hid (show Blk W.drew w.heap.size 113 _ from HK.out)
        have HO2 := Lib.hid (show EOwn elRn W.drew _ _ from HO.out)
        have c1' : W.drew.cell? ⟨g, M.length * 3 + 1, none⟩ = some (.int .i64 l.t) := c1
        clear HA HK HO HCL c1 c2 k0 k1 k2
        generalize W.drew = W2 at *
        have k1 := HK2.out.cell 1
        simp only [List.getElem?_toArray, List.getElem?_cons_zero, List.getElem?_cons_succ] at k1
        have hrow : ∃ cap, c = cap ∧ ERow elRn W2 g cap (M ++ [l]) := by
          rcases HO2.out with ⟨h9, _⟩ | ⟨g9, cap9, h9, hr9⟩
          · cases h9
          · simp only [Value.slice.injEq, Option.some.injEq, Addr.mk.injEq, and_true] at h9
            obtain ⟨rfl, h8, rfl⟩ := h9
            exact ⟨_, rfl, hr9⟩
        obtain ⟨cap, rfl, hrow⟩ := hrow
        have hf : W2.frozen? ⟨g, M.length * 3 + 1, none⟩ = false := by
          obtain ⟨cur, h9, _⟩ := hrow
          exact h9.frozen _
        have HRW := Lib.hid (hrow.setTo (u := r.t))
        have HGL := Lib.hid (HOL.out g rfl)
        clear hrow
        go_wp2_with fail
        go_ret
        unfold FollowP
        rw [HFN.out]
        refine ⟨_, rfl, .inr ⟨g, c, by rw [← hLN]; simp, HRW.out⟩, .inl rfl, HA2.out.os, HA2.out.tape, HA2.out.output, by simpa [World.setCell] using HA2.out.size, fun k hk hn => ?_⟩
        rw [Below.heap_setCell _ ⟨g, _, none⟩ _ _ (fun e => hn (by simp [Value.ownBlock, e]))]
        exact HA2.out.block k hk
end
section
set_option linter.unusedVariables false
set_option linter.unusedSimpArgs false
open Go.RowKit
theorem eqP_some (a : Addr) (n c : Nat) (w : World) : (binOp BinOp.eql 31 (.slice (some a) n c) (.slice none 0 0)).run Tryz.prog w = .ok (.bool false) w := by kernel_rfl
theorem eqP_none (n c : Nat) (w : World) : (binOp BinOp.eql 31 (.slice none n c) (.slice none 0 0)).run Tryz.prog w = .ok (.bool true) w := by kernel_rfl
section
attribute [local go_sem] eqP_some eqP_none
set_option maxRecDepth 100000 in
set_option maxHeartbeats 2000000 in
theorem cloneP_any (w : World) (v : Value) (L : List (Pa)) (h : ERd elPa w v L) (hl : L.length * elPa.by_ ≤ 140737488355328) :
    Calls Tryz.prog 35 #[v] w fun e w' => ∃ v2, e = .returned v2 ∧ EOwn elPa w' v2 L ∧ (∀ i, v2.ownBlock = some i → w.heap.size ≤ i) ∧ Below w.heap.size w w' := by
  obtain ⟨A, c, rfl, h1, h2, h3⟩ := id h
  have hlm : L.length ≤ maxLen := by omega
  cases A with
  | none =>
    obtain rfl : L = [] := by
      cases L with
      | nil => rfl
      | cons x L => obtain ⟨g, o, e, _⟩ := h3 0 x rfl; cases e
    clear h h1 h2 h3 hl
    go_enter Tryz.func35, Tryz.ntmps35
    go_wp2_with fail
    go_ret
    exact ⟨_, rfl, EOwn.nil_ _, fun i hi => by simp [Value.ownBlock] at hi, Below.refl _ _⟩
  | some a =>
    have HR := Lib.hid h
    have HL := Lib.hid hl
    have HM := Lib.hid hlm
    clear h h1 h2 h3 hl hlm
    go_enter Tryz.func35, Tryz.ntmps35
    have HO0 := Lib.hid (EOwn.block (M := ([] : List (Pa))) elPa_ok (Blk.new w 48 #[]) rfl (by simp))
    have HAL := Lib.hid (show Below w.heap.size w (w.alloc (.cells #[] 48)) from (Below.refl _ _).alloc (Nat.le_refl _) _)
    have HRD := Lib.hid ((HR.out.below HAL.out).reads elPa_ok)
    go_upto_region 3 with (fail)
    go_wp2_with ((at_builtin; refine wpList_eappr2 (e2 := 48) elPa_ok rfl _ _ 31 31 rfl (by kernel_rfl) (by kernel_rfl) (.slice (some ⟨w.heap.size, 0, none⟩) 0 0) [] L (some a) c rfl rfl HO0.out HRD.out (by have := HM.out; simpa using this) (by have := HL.out; simpa using this) ?_; rintro v' w1 ⟨hO, hG, hW⟩; obtain ⟨A9, c9, rfl, _, _⟩ := hO.slice; have HO := Lib.hid hO; have HG := Lib.hid hG; have HW := Lib.hid hW; clear hO hG hW))
    go_ret
    exact ⟨_, rfl, HO.out, fun i hi => by
      rcases HW.out i hi with h9 | h9
      · simp [Value.ownBlock] at h9; omega
      · simp at h9; omega, HAL.out.grown HG.out (by simp) (fun i hi => by simp [Value.ownBlock] at hi; omega)⟩
end
set_option maxHeartbeats 1000000 in
theorem reck_nil (w : World) (a b c : Int) : Calls Tryz.prog 36 #[.pointer none, .int .i64 a, .int .i64 b, .int .i64 c] w fun e w' => e = .returned (.slice none 0 0) ∧ w = w' := by
  go_enter_defers Tryz.func36, Tryz.ntmps36
  go_wp2_with fail
  exact ⟨_, results_tmp rfl _ _ _, rfl, rfl⟩
set_option maxHeartbeats 1000000 in
theorem patches_nil (w : World) (a b c : Int) : Calls Tryz.prog 13 #[.pointer none, .int .i64 a, .int .i64 b, .int .i64 c] w fun e w' => e = .returned (.slice none 0 0) ∧ Below w.heap.size w w' := by
  have HR := Lib.hid fun W => reck_nil W a b c
  have HC : Hid (∀ W, Calls Tryz.prog 35 #[.slice none 0 0] W fun e w' => e = .returned (.slice none 0 0) ∧ W = w') := Lib.hid fun W => by
    have qn := eqP_none
    go_enter Tryz.func35, Tryz.ntmps35
    go_wp2_with fail
    go_ret
    exact ⟨rfl, rfl⟩
  go_enter Tryz.func13, Tryz.ntmps13
  go_wp2_with fail
  refine (HR.out _).mono ?_
  rintro e w1 ⟨rfl, hw⟩
  subst hw
  go_wp2_with fail
  refine (HC.out _).mono ?_
  rintro e w1 ⟨rfl, hw⟩
  subst hw
  go_wp2_with fail
  go_ret
  exact ⟨rfl, Below.refl _ _⟩
set_option maxHeartbeats 1000000 in
theorem tzoom_nil (w : World) (a b c x y : Int) : Calls Tryz.prog 20 #[.pointer none, .int .i64 a, .int .i64 b, .int .i64 c, .agg #[.int .i64 x, .int .i64 y]] w fun e w' => e = .returned (.int .i64 0) ∧ Below w.heap.size w w' := by
  have HB := Lib.hid (show Below w.heap.size w (w.alloc (.cells #[.int .i64 x, .int .i64 y] 40)) from (Below.refl _ _).alloc (Nat.le_refl _) _)
  go_enter Tryz.func20, Tryz.ntmps20
  go_wp2_with fail
  go_ret
  exact ⟨rfl, HB.out⟩
set_option maxHeartbeats 1000000 in
theorem tcloaks_nil (w : World) (a : Int) : Calls Tryz.prog 18 #[.pointer none, .int .i64 a] w fun e w' => e = .returned (.bool false) ∧ w = w' := by
  go_enter Tryz.func18, Tryz.ntmps18
  go_wp2_with fail
  go_ret
  exact ⟨rfl, rfl⟩
theorem area_pos {a b c d : Int} (h : rightB a b c d = true) : 0 < (c - a + 1) * (d - b + 1) := by
  rw [rightB_iff] at h
  exact Int.mul_pos (by omega) (by omega)
theorem gtr_u64 (a b : Int) (W : World) : (binOp BinOp.gtr 85 (.int .u64 a) (.int .u64 b)).run Tryz.prog W = .ok (.bool (decide (b < a))) W := by kernel_rfl
set_option maxHeartbeats 2000000 in
theorem tof_nil (w : World) (ro ti la a b c d : Int) : Calls Tryz.prog 24 #[.pointer none, .int .i64 ro, .int .i64 ti, .int .i64 la, .agg #[.int .i64 a, .int .i64 b, .int .i64 c, .int .i64 d]] w fun e w' => e = .returned (.int .i64 0) ∧ Below w.heap.size w w' := by
  have HA := Lib.hid (show Below w.heap.size w (w.alloc (.cells #[.int .i64 a, .int .i64 b, .int .i64 c, .int .i64 d] 46)) from (Below.refl _ _).alloc (Nat.le_refl _) _)
  have HK := Lib.hid (Blk.new w 46 #[.int .i64 a, .int .i64 b, .int .i64 c, .int .i64 d])
  have HR := Lib.hid fun W => reck_nil W ro ti la
  have HG := Lib.hid fun W => right_any a b c d W
  go_enter Tryz.func24, Tryz.ntmps24
  go_upto_region 1 with fail
  generalize (w.alloc (.cells #[.int .i64 a, .int .i64 b, .int .i64 c, .int .i64 d] 46)) = W at *
  have k0 := HK.out.cell 0
  have k1 := HK.out.cell 1
  have k2 := HK.out.cell 2
  have k3 := HK.out.cell 3
  simp only [List.getElem?_toArray, List.getElem?_cons_zero, List.getElem?_cons_succ] at k0 k1 k2 k3
  cases hr : rightB a b c d with
  | false =>
    rw [hr] at HG
    clear hr
    go_wp2_with fail
    refine (HG.out _).mono ?_
    rintro e w1 ⟨rfl, hb⟩
    have HB := Lib.hid (HA.out.trans (hb.mono HA.out.size))
    clear hb
    go_wp2_with fail
    go_ret
    exact ⟨rfl, HB.out⟩
  | true =>
    rw [hr] at HG
    have HAR := Lib.hid fun W => area_yes a b c d hr W
    have hp := area_pos hr
    have hg := gtr_u64
    clear hr
    generalize (c - a + 1) * (d - b + 1) = ar at *
    go_wp2_with fail
    refine (HG.out _).mono ?_
    rintro e w1 ⟨rfl, hb⟩
    have HB := Lib.hid (HA.out.trans (hb.mono HA.out.size))
    have HK1 := Lib.hid (Blk.thru0 HK.out hb)
    clear hb k0 k1 k2 k3
    have k0 := HK1.out.cell 0
    have k1 := HK1.out.cell 1
    have k2 := HK1.out.cell 2
    have k3 := HK1.out.cell 3
    simp only [List.getElem?_toArray, List.getElem?_cons_zero, List.getElem?_cons_succ] at k0 k1 k2 k3
    go_wp2_with fail
    refine (HAR.out _).mono ?_
    rintro e w2 ⟨rfl, hb⟩
    have HB2 := Lib.hid (HB.out.trans (hb.mono HB.out.size))
    clear hb k0 k1 k2 k3
    go_wp2_with fail
    refine (HR.out _).mono ?_
    rintro e w3 ⟨rfl, hw⟩
    subst hw
    go_wp2_with fail
    go_loopw [11, 12, 28] (fun a z i wr => a = .int .u64 ar ∧ z = .int .i64 16 ∧ i = .int .i64 0 ∧ Hid (w2 = wr)) (fun _ _ _ _ => 0)
    case atStart => exact ⟨rfl, rfl, rfl, Lib.hid rfl⟩
    case round =>
      obtain ⟨rfl, rfl, rfl, HW⟩ := hrel
      obtain rfl := HW.out
      go_wp2_with fail
      go_ret
      exact ⟨rfl, HB2.out⟩
theorem idx_no : ∀ (i : Nat) (hi : i < 17) (w : World), (Instr.index 88 (.agg #[.bool false, .bool false, .bool false, .bool false, .bool false, .bool false, .bool false, .bool false, .bool false, .bool false, .bool false, .bool false, .bool false, .bool false, .bool false, .bool false, .bool false]) (.int .i64 (i : Int))).run Tryz.prog w = .ok (.bool false) w
  | 0, _, w => by kernel_rfl
  | 1, _, w => by kernel_rfl
  | 2, _, w => by kernel_rfl
  | 3, _, w => by kernel_rfl
  | 4, _, w => by kernel_rfl
  | 5, _, w => by kernel_rfl
  | 6, _, w => by kernel_rfl
  | 7, _, w => by kernel_rfl
  | 8, _, w => by kernel_rfl
  | 9, _, w => by kernel_rfl
  | 10, _, w => by kernel_rfl
  | 11, _, w => by kernel_rfl
  | 12, _, w => by kernel_rfl
  | 13, _, w => by kernel_rfl
  | 14, _, w => by kernel_rfl
  | 15, _, w => by kernel_rfl
  | 16, _, w => by kernel_rfl
  | i + 17, h, _ => absurd h (by omega)
set_option maxRecDepth 100000 in
set_option maxHeartbeats 4000000 in
theorem tlevels_nil (w : World) (ro ti : Int) : Calls Tryz.prog 28 #[.pointer none, .int .i64 ro, .int .i64 ti] w fun e w' => e = .returned (.slice none 0 0) ∧ Below w.heap.size w w' := by
  have HA := Lib.hid (show Below w.heap.size w (w.alloc (.cells #[.bool false, .bool false, .bool false, .bool false, .bool false, .bool false, .bool false, .bool false, .bool false, .bool false, .bool false, .bool false, .bool false, .bool false, .bool false, .bool false, .bool false] 88)) from (Below.refl _ _).alloc (Nat.le_refl _) _)
  have HK := Lib.hid (Blk.new w 88 #[.bool false, .bool false, .bool false, .bool false, .bool false, .bool false, .bool false, .bool false, .bool false, .bool false, .bool false, .bool false, .bool false, .bool false, .bool false, .bool false, .bool false])
  have HR := Lib.hid fun la W => reck_nil W ro ti la
  go_enter Tryz.func28, Tryz.ntmps28
  go_upto_region 2 with fail
  generalize (w.alloc (.cells #[.bool false, .bool false, .bool false, .bool false, .bool false, .bool false, .bool false, .bool false, .bool false, .bool false, .bool false, .bool false, .bool false, .bool false, .bool false, .bool false, .bool false] 88)) = W at *
  go_wp2_with fail
  go_loopw [14] (fun i wr => ∃ k : Nat, k ≤ 8 ∧ i = .int .i64 k ∧ Hid (W = wr)) (fun i _ => 8 - (intOf i).toNat)
  case atStart => exact ⟨0, by omega, rfl, Lib.hid rfl⟩
  case round =>
    obtain ⟨k, hk, rfl, HW⟩ := hrel
    obtain rfl := HW.out
    by_cases hlt : k < 8
    · have hki : (k : Int) < 8 := by omega
      go_wp2_with fail
      refine (HR.out _ _).mono ?_
      rintro e w3 ⟨rfl, hw⟩
      subst hw
      go_wp2_with fail
      go_loopw [23] (fun i wr => i = .int .i64 0 ∧ Hid (W = wr)) (fun _ _ => 0)
      case atStart => exact ⟨rfl, Lib.hid rfl⟩
      case round =>
        obtain ⟨rfl, HW⟩ := hrel
        obtain rfl := HW.out
        go_wp2_with fail
        go_roundw
        case rel => exact ⟨k + 1, by omega, by go_num, Lib.hid (by trivial)⟩
        case measure => simp [intOf]; omega
    · obtain rfl : k = 8 := by omega
      have c0 := HK.out.cell 0
      have c1 := HK.out.cell 1
      have c2 := HK.out.cell 2
      have c3 := HK.out.cell 3
      have c4 := HK.out.cell 4
      have c5 := HK.out.cell 5
      have c6 := HK.out.cell 6
      have c7 := HK.out.cell 7
      have c8 := HK.out.cell 8
      have c9 := HK.out.cell 9
      have c10 := HK.out.cell 10
      have c11 := HK.out.cell 11
      have c12 := HK.out.cell 12
      have c13 := HK.out.cell 13
      have c14 := HK.out.cell 14
      have c15 := HK.out.cell 15
      have c16 := HK.out.cell 16
      simp only [List.getElem?_toArray, List.getElem?_cons_zero, List.getElem?_cons_succ] at c0 c1 c2 c3 c4 c5 c6 c7 c8 c9 c10 c11 c12 c13 c14 c15 c16
      go_wp2_with fail
      go_loopw [11, 33] (fun v i wr => ∃ k : Nat, k ≤ 17 ∧ v = .slice none 0 0 ∧ i = .int .i64 k ∧ Hid (W = wr)) (fun _ i _ => 17 - (intOf i).toNat)
      case atStart => exact ⟨0, by omega, rfl, rfl, Lib.hid rfl⟩
      case round =>
        obtain ⟨k, hk, rfl, rfl, HW⟩ := hrel
        obtain rfl := HW.out
        by_cases hlt : k < 17
        · have hki : (k : Int) < 17 := by omega
          have hix := idx_no k hlt W
          go_wp2_with fail
          go_roundw
          case rel => exact ⟨k + 1, by omega, rfl, by go_num, Lib.hid (by trivial)⟩
          case measure => simp [intOf]; omega
        · obtain rfl : k = 17 := by omega
          go_wp2_with fail
          go_ret
          exact ⟨rfl, HA.out⟩
end
section
set_option linter.unusedVariables false
set_option linter.unusedSimpArgs false
open Go.RowKit
theorem zmF_map {l m : List (Rc × RV)} (h : l.map (·.1) = m.map (·.1)) (ro ti la x y : Int) : zmF l ro ti la x y = zmF m ro ti la x y := by
  have e : ∀ (l : List (Rc × RV)) (s : Int × Int), l.foldl (zmS ro ti la x y) s = (l.map (·.1)).foldl (fun s a => zmS ro ti la x y s (a, ⟨none, 0, 0⟩)) s := by
    intro l
    induction l with
    | nil => intro s; rfl
    | cons a l ih => intro s; rw [List.foldl_cons, List.map_cons, List.foldl_cons, ← ih]; rfl
  unfold zmF
  rw [e, e, h]
theorem rursB_map {l m : List (Rc × RV)} (h : l.map (·.1) = m.map (·.1)) : rursB l = rursB m := by
  have e : ∀ l : List (Rc × RV), rursB l = (l.map (·.1)).all rurB := fun l => by unfold rursB; rw [List.all_map]; rfl
  rw [e, e, h]
theorem zoomN_map {l m : List (Rc × RV)} (h : l.map (·.1) = m.map (·.1)) (ro ti la x y : Int) : zoomN l ro ti la x y = zoomN m ro ti la x y := by
  unfold zoomN
  rw [rursB_map h, zmF_map h]
theorem cloaksB_map {l m : List (Rc × RV)} (h : l.map (·.1) = m.map (·.1)) (ro : Int) : cloaksB l ro = cloaksB m ro := by
  have e : ∀ l : List (Rc × RV), l.any (cloakB ro) = (l.map (·.1)).any (fun a => cloakB ro (a, ⟨none, 0, 0⟩)) := fun l => by rw [List.any_map]; rfl
  unfold cloaksB
  rw [rursB_map h, e, e, h]
set_option maxHeartbeats 2000000 in
set_option maxRecDepth 100000 in
theorem tzoom_any {PN : List Rc → List Pa} {B : Nat} {w : World} {t m : Nat} {rv : Value} {acc : List (Rc × RV)} {n : Nat} {H : Lit → Option Value} {lk : Int} (h : TabAt PN B w t m rv acc n H lk) (ro ti la x y : Int) :
    Calls Tryz.prog 20 #[ptr t, .int .i64 ro, .int .i64 ti, .int .i64 la, .agg #[.int .i64 x, .int .i64 y]] w fun e w' => e = .returned (.int .i64 (zoomN acc ro ti la x y)) ∧ Below w.heap.size w w' := by
  have HB := Lib.hid (show Below w.heap.size w (w.alloc (.cells #[.int .i64 x, .int .i64 y] 40)) from (Below.refl _ _).alloc (Nat.le_refl _) _)
  have HT := Lib.hid (h.below HB.out)
  have HP := Lib.hid (Blk.new w 40 #[.int .i64 x, .int .i64 y])
  obtain ⟨A2, c2, rfl, -, -⟩ := h.row.slice
  clear h
  go_enter Tryz.func20, Tryz.ntmps20
  go_upto_region 3 with fail
  generalize (w.alloc (.cells #[.int .i64 x, .int .i64 y] 40)) = W at *
  have t0 := HT.out.blk.cell 0
  have p0 := HP.out.cell 0
  have p1 := HP.out.cell 1
  simp only [List.getElem?_toArray, List.getElem?_cons_zero, List.getElem?_cons_succ] at t0 p0 p1
  have HZ := Lib.hid (zoom_any W.drew _ acc ro ti la x y ⟨ERd.of_own elRu_ok HT.out.drew.row, fun a ha => ERd.of_own elR_ok (HT.out.drew.bxs a ha).1⟩)
  go_still_tail 8, (by kernel_rfl)
  change wpList _ _ _ _ _ W.drew
  have HB1 := Lib.hid HB.out.drew
  clear HT HP t0 p0 p1 HB
  generalize W.drew = W1 at *
  go_wp2_with fail
  refine HZ.out.mono ?_
  rintro e w2 ⟨rfl, hb⟩
  have HB2 := Lib.hid (HB1.out.trans (hb.mono HB1.out.size))
  clear hb
  go_wp2_with fail
  go_ret
  exact ⟨rfl, HB2.out⟩
end
section
set_option linter.unusedVariables false
set_option linter.unusedSimpArgs false
open Go.RowKit Go.Maps
/-- What Patches tells. -/
def PatP (PN : List Rc → List Pa) (B : Nat) (t m : Nat) (rv : Value) (acc : List (Rc × RV)) (n : Nat) (ro ti la : Int) (w : World) (e : Ending) (w' : World) : Prop :=
  ∃ v n' H', e = .returned v ∧ n' ≤ n + 1 ∧ TabAt PN B w' t m rv acc n' H' 0 ∧ EOwn elPa w' v (PN ((acc.filter fun x => forB x.1 ro ti la).map (·.1))) ∧ (∀ i, v.ownBlock = some i → w.heap.size ≤ i) ∧ But m w w'
theorem But.lowP {r : Nat} {a w w' : World} (h : But r a w) (hb : Below a.heap.size w w') : But r a w' := ⟨hb.os.trans h.os, hb.tape.trans h.tape, hb.output.trans h.output, Nat.le_trans h.size hb.size, fun i hi hr => (hb.block i hi).trans (h.block i hi hr)⟩
set_option maxRecDepth 100000 in
set_option maxHeartbeats 4000000 in
theorem tpatches_any {PN : List Rc → List Pa} {B : Nat} {w : World} {t m : Nat} {rv : Value} {acc : List (Rc × RV)} {n : Nat} {H : Lit → Option Value} (h : TabAt PN B w t m rv acc n H 0) (hl : acc.length ≤ 32) (hn : n + 1 < maxLen) (hB : B ≤ w.heap.size) (ro ti la : Int) (i1 : I64 ro) (i2 : I64 ti) (i3 : I64 la) (hP0 : PN [] = []) (hPL : (PN ((acc.filter fun x => forB x.1 ro ti la).map (·.1))).length * elPa.by_ ≤ 140737488355328)
    (HPA : ∀ W v, ButTM t m w W → RRd W v (acc.filter fun x => forB x.1 ro ti la) → Calls Tryz.prog 59 #[v] W fun e w' => ∃ v2, e = .returned v2 ∧ EOwn elPa w' v2 (PN ((acc.filter fun x => forB x.1 ro ti la).map (·.1))) ∧ (∀ i, v2.ownBlock = some i → W.heap.size ≤ i) ∧ Below W.heap.size W w') :
    Calls Tryz.prog 13 #[ptr t, .int .i64 ro, .int .i64 ti, .int .i64 la] w (PatP PN B t m rv acc n ro ti la w) := by
  have HRK := Lib.hid (reck_any h hl hn hB ro ti la i1 i2 i3 hP0 HPA)
  have HPL := Lib.hid hPL
  clear h hl hn hB i1 i2 i3 hP0 hPL HPA
  go_enter Tryz.func13, Tryz.ntmps13
  go_wp2_with fail
  refine HRK.out.mono ?_
  intro e w1 hq
  unfold ReckP at hq
  obtain ⟨v, n', H', rfl, hn', hT, hO, hOo, hb⟩ := hq
  obtain ⟨A1, c1, rfl, -, -⟩ := hO.slice
  have HT := Lib.hid hT
  have HB := Lib.hid hb
  have HN := Lib.hid hn'
  have HCL := Lib.hid (cloneP_any w1 _ _ (ERd.of_own elPa_ok hO) HPL.out)
  clear hT hb hn' hO hOo HRK
  go_wp2_with fail
  refine HCL.out.mono ?_
  rintro e w2 ⟨v2, rfl, hO2, hOo2, hb2⟩
  have HF : Hid (TabAt PN B w2 t m rv acc n' H' 0 ∧ EOwn elPa w2 v2 (PN ((acc.filter fun x => forB x.1 ro ti la).map (·.1))) ∧ (∀ i, v2.ownBlock = some i → w.heap.size ≤ i) ∧ But m w w2) := Lib.hid ⟨HT.out.below hb2, hO2, fun i hi => Nat.le_trans HB.out.size (hOo2 i hi), HB.out.trans (But.of_below hb2)⟩
  clear hO2 hOo2 hb2
  go_wp2_with fail
  go_ret
  unfold PatP
  exact ⟨_, n', H', rfl, HN.out, HF.out.1, HF.out.2.1, HF.out.2.2.1, HF.out.2.2.2⟩
end
end Go.Proofs.YtmgamlpjgghieaaGreatDoor
