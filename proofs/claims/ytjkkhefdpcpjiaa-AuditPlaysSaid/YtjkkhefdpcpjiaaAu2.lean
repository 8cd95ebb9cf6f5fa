/- audit: Put, Left, Skip, Clone by contract. -/
import Derived.Test.YtjkkhefdpcpjiaaAu1
import Derived.Deep.RegionHeld3
import Derived.Deep.RegionLaw
namespace Go.Proofs.Ytjkkhefdpcpjiaa
set_option linter.unusedVariables false
set_option linter.unusedSimpArgs false
open Go.RowKit
theorem step_epush {α : Type} {E : El α} {w : World} {ops : Array Oper} {o : Oper} {a : Act} {K : Act → World → Prop} {Q : Exit → Act → World → Prop} {F : Prop} (hE : E.Ok) (hgd : o.guard = none) (s x : Operand) (t : TypeId)
    (ho : o.op = .call { callee := .builtin .append, args := #[s, x], argTypes := #[t, t] }) (ht : Try.prog.underlying t = some (.slice E.T)) (v : Value) (L : List α) (e : α) (b c : Nat) (hs : a.eval s = v) (hx : a.eval x = .slice (some ⟨b, 0, none⟩) 1 c)
    (h : EOwn E w v L) (h0 : ∀ j u, (E.enc e)[j]? = some u → w.cell? ⟨b, j, none⟩ = some u) (hl : L.length ≤ 1000000)
    (hK : ∀ v' w', EAppended E v (L ++ [e]) w v' w' → K (a.put o.dst v') w') : if Region.wanted o (yielded ops a.tmps) = true then Oper.wp Try.prog o a w K Q else F := by
  have hw : Region.wanted o (yielded ops a.tmps) = true := by simp [Region.wanted, hgd]
  rw [if_pos hw]
  exact wp_epush hE s x t ho ht v L e b c hs hx h h0 hl hK
theorem new_cellT (w : World) (cs : Array Value) (t : TypeId) (i : Nat) {v : Value} (h : cs[i]? = some v) : (w.alloc (.cells cs t)).cell? ⟨w.heap.size, i, none⟩ = some v := by rw [(Blk.new w t cs).cell]; exact h
theorem new_cellTd (w : World) (cs : Array Value) (t : TypeId) (i : Nat) {v : Value} (h : cs[i]? = some v) : (w.alloc (.cells cs t)).drew.cell? ⟨w.heap.size, i, none⟩ = some v := new_cellT w cs t i h
theorem bdrewT {w w' : World} (h : Below w.drew.heap.size w.drew w') : Below w.heap.size w w' := ⟨h.os, h.tape, h.output, h.size, h.block⟩
theorem TR.drew {w : World} {y : Nat} {v : Value} {H : List Ev} {n p : Nat} (h : TR w y v H n p) : TR w.drew y v H n p := h.below (below_drawn (Below.refl _ _) 1)
theorem TR.drewN {w : World} {y : Nat} {v : Value} {H : List Ev} {n p : Nat} (h : TR w y v H n p) (q : Nat) : TR (w.drewN q) y v H n p := h.below (below_drawn (Below.refl _ _) q)
theorem put_trail {w4 w6 : World} {y : Nat} {v v2 : Value} {H : List Ev} {n p : Nat} {k : Ev} {o : Obj} (h : TR w4 y v H n p) (hA : EAppended elE v (H ++ [k]) (w4.alloc o) v2 w6) :
    Blk w6 y 48 #[v, .int .i64 n, .int .i64 p] ∧ AS y v w4 v2 (H ++ [k]) n p (w6.setCell ⟨y, 0, none⟩ v2) := by
  have hlt := h.blk.lt
  have hc6 : Blk w6 y 48 #[v, .int .i64 n, .int .i64 p] := (hA.keep (k := y) (by simp; omega) h.ne).trans (h.blk.alloc o)
  obtain ⟨g, cap, rfl, hr, hg, hor⟩ := id hA
  have hgy : g ≠ y := by
    rcases hor with h1 | h1
    · intro e; exact h.ne (by rw [h1, e])
    · simp at h1; omega
  have hne : (Value.slice (some ⟨g, 0, none⟩) (H ++ [k]).length cap).ownBlock ≠ some y := by simp [Value.ownBlock]; exact hgy
  have hgone := h.gone
  refine ⟨hc6, ⟨hc6.set_ 0 _, hA.own.keep fun i hi e => Below.heap_setCell w6 ⟨y, 0, none⟩ _ i (fun e2 => hne (by rw [e]; simpa using e2)), hne, by simp; omega, h.past⟩, ?_, fun i hi => ?_⟩
  · have hB := (Below.refl 0 w6).setCell (p := ⟨y, 0, none⟩) (Nat.zero_le _) (.slice (some ⟨g, 0, none⟩) (H ++ [k]).length cap)
    have hb0 := hA.below0
    have ha : Below w4.heap.size w4 (w4.alloc o) := (Below.refl _ _).alloc (Nat.le_refl _) o
    refine ⟨hB.os.trans (hb0.os.trans ha.os), hB.tape.trans (hb0.tape.trans ha.tape), hB.output.trans (hb0.output.trans ha.output), Nat.le_trans ha.size (Nat.le_trans hb0.size hB.size), fun i hi h1 h2 => ?_⟩
    rw [Below.heap_setCell w6 ⟨y, 0, none⟩ _ i (by simpa using h1), hA.keep (Nat.lt_of_lt_of_le hi ha.size) h2, ha.block i hi]
  · simp only [Value.ownBlock, Option.map_some, Option.some.injEq] at hi
    subst hi
    rcases hor with h1 | h1
    · exact .inl h1
    · refine .inr ?_
      have ha : Below w4.heap.size w4 (w4.alloc o) := (Below.refl _ _).alloc (Nat.le_refl _) o
      have := ha.size
      omega
set_option maxRecDepth 100000 in
set_option maxHeartbeats 8000000 in
theorem aput_any (w : World) (y : Nat) (v : Value) (H : List Ev) (n p : Nat) (k : Ev) (h : TR w y v H n p) (hl : H.length ≤ 1000000) :
    Calls Try.prog 10 #[ptrA y, k.V] w fun e w' => ∃ v', e = .returned (.bool true) ∧ AS y v w v' (H ++ [k]) n p w' := by
  obtain ⟨A, c, rfl, hc1, hc2⟩ := h.own.slice
  have HT := Lib.hid h
  have HL := Lib.hid hl
  have hyz := h.blk.lt
  clear h hl hc1 hc2
  obtain ⟨k0, k1, k2, k3⟩ := k
  generalize hm : H.length = m at *
  have HM := Lib.hid hm
  clear hm
  have HX := Lib.hid (Blk.new w 27 #[.int .i64 k0, .int .i64 k1, .int .i64 k2, .int .i64 k3])
  have HB := Lib.hid (show Below w.heap.size w (w.alloc (.cells #[.int .i64 k0, .int .i64 k1, .int .i64 k2, .int .i64 k3] 27)) from (Below.refl _ _).alloc (Nat.le_refl _) _)
  go_enter Try.func10, Try.ntmps10
  go_upto_region 3 with fail
  have HT1 := Lib.hid (HT.out.below HB.out)
  generalize (w.alloc (.cells #[.int .i64 k0, .int .i64 k1, .int .i64 k2, .int .i64 k3] 27)) = W1 at *
  generalize hxb : w.heap.size = xb at *
  have HXB := Lib.hid hxb
  clear hxb
  have t0 : W1.cell? ⟨y, 0, none⟩ = some (.slice A m c) := HT1.out.blk.cell 0
  have r0 := HX.out.cell 0
  have r1 := HX.out.cell 1
  have r2 := HX.out.cell 2
  have r3 := HX.out.cell 3
  simp only [List.getElem?_toArray, List.getElem?_cons_zero, List.getElem?_cons_succ] at r0 r1 r2 r3
  have hy1 := HT1.out.blk.lt
  have hx1 := HX.out.lt
  have HTY := Lib.hid (show Try.prog.underlying 25 = some (.slice elE.T) from Try.underlying25)
  go_region_law ((refine step_epush elE_ok rfl (.tmp 11) (.tmp 13) _ rfl HTY.out (.slice A m c) H ⟨k0, k1, k2, k3⟩ W1.heap.size 1 (by simp [Act.eval, Act.put]) (by simp [Act.eval, Act.put]) (by first | exact HT1.out.own.below ((Below.refl _ _).alloc (Nat.le_refl _) _) | exact (HT1.out.own.below (below_drawn (Below.refl _ _) 1)).below ((Below.refl _ _).alloc (Nat.le_refl _) _)) (fun j u hu => by first | exact new_cellTd _ _ _ j (by simpa [elE] using hu) | exact new_cellT _ _ _ j (by simpa [elE] using hu)) (by rw [HM.out]; exact HL.out) ?_; intro v2 w7 hA2; have HPT := Lib.hid (by first | exact put_trail HT1.out hA2 | exact put_trail (w4 := W1.drew) HT1.out.drew hA2); obtain ⟨gg, cap2, hv2, -⟩ := hA2; subst hv2; simp only [List.length_append, List.length_cons, List.length_nil, Nat.zero_add] at HPT ⊢; have q7 := HPT.out.1.cell 0; have f7 := HPT.out.1.frozen 0; simp only [List.getElem?_toArray, List.getElem?_cons_zero] at q7))
  all_goals
    have HEND := Lib.hid (by first | exact (AS.start HT.out (by rw [HXB.out]; exact below_drawn HB.out 1)).trans HPT.out.2 | exact (AS.start HT.out (by rw [HXB.out]; exact HB.out)).trans HPT.out.2)
    clear r0 r1 r2 r3 q7 f7 t0 HPT
    go_wp2
    go_ret
    exact ⟨_, rfl, HEND.out⟩
theorem aput_nil (w : World) (k : Ev) :
    Calls Try.prog 10 #[.pointer none, k.V] w fun e w' => e = .returned (.bool false) ∧ Below w.heap.size w w' := by
  obtain ⟨k0, k1, k2, k3⟩ := k
  go_enter Try.func10, Try.ntmps10
  go_wp2
  go_ret
  exact ⟨rfl, by go_grown⟩
set_option maxHeartbeats 4000000 in
theorem aleft_any (w : World) (y : Nat) (v : Value) (H : List Ev) (n p : Nat) (h : TR w y v H n p) (hl : H.length ≤ 1000000) :
    Calls Try.prog 14 #[ptrA y] w fun e w' => ∃ v2, e = .returned v2 ∧ EOwn elE w' v2 (H.drop n) ∧ (∀ i, v2.ownBlock = some i → w.heap.size ≤ i) ∧ Below w.heap.size w w' := by
  have HR := Lib.hid ((ERd.of_own elE_ok h.own).cut h.gone)
  have HL := Lib.hid (left_any w y v H n p h)
  have hq : (H.drop n).length ≤ 1000000 := by simp; omega
  have HQ := Lib.hid hq
  clear h hl hq
  obtain ⟨A1, c1, hA1, hl1, hl2⟩ := HR.out.shape
  rw [hA1] at HR HL
  clear hA1
  generalize H.drop n = R at *
  have HL1 := Lib.hid hl1
  have HL2 := Lib.hid hl2
  clear hl1 hl2
  go_enter Try.func14, Try.ntmps14
  go_wp2_with fail
  refine HL.out.mono ?_
  rintro e w1 ⟨rfl, q, rfl⟩
  have HB1 := Lib.hid (show Below w.heap.size w (w.drewN q) from below_drawn (Below.refl _ _) q)
  have HR1 := Lib.hid (HR.out.below HB1.out)
  clear HR HL
  have hzq : (w.drewN q).heap.size = w.heap.size := rfl
  have HZQ := Lib.hid hzq
  clear hzq
  generalize w.drewN q = W1 at *
  go_wp2_with ((at_builtin; refine wpList_eappr2 (e2 := 27) elE_ok rfl _ _ 25 25 rfl (by kernel_rfl) (by kernel_rfl) (.slice none 0 0) [] R A1 c1 rfl rfl (EOwn.nil_ _) (HR1.out.reads elE_ok) (by have := HL2.out; have := HL1.out; simp; omega) (by have := HQ.out; simp [elE]; omega) ?_; rintro v' w2 ⟨hO, hG, hW⟩; obtain ⟨A9, c9, rfl, _, _⟩ := hO.slice; have HO := Lib.hid hO; have HG := Lib.hid hG; have HW := Lib.hid hW; clear hO hG hW))
  go_ret
  exact ⟨_, rfl, HO.out, fun i hi => by
    rcases HW.out i hi with h9 | h9
    · simp [Value.ownBlock] at h9
    · have := HZQ.out; omega, HB1.out.grown HG.out HB1.out.size (fun i hi => by simp [Value.ownBlock] at hi)⟩
theorem aleft_nil (w : World) : Calls Try.prog 14 #[.pointer none] w fun e w' => e = .returned (.slice none 0 0) ∧ Below w.heap.size w w' := by
  go_enter Try.func14, Try.ntmps14
  go_wp2_with fail
  refine (left_nil _).mono ?_
  rintro e w1 ⟨rfl, q, rfl⟩
  go_wp2
  go_ret
  exact ⟨rfl, below_drawn (Below.refl _ _) q⟩
/-- Is so many more to be counted as drained? -/
def skB (p : Nat) (n : Int) : Bool := decide (0 ≤ n ∧ n ≤ 4611686018427387903 - (p : Int))
def skN (p : Nat) (n : Int) : Nat := if skB p n = true then p + n.toNat else p
set_option maxHeartbeats 4000000 in
theorem askip_any (w : World) (y : Nat) (v : Value) (H : List Ev) (n p : Nat) (m : Int) (hm : -9223372036854775808 ≤ m ∧ m ≤ 9223372036854775807) (h : TR w y v H n p) :
    Calls Try.prog 22 #[ptrA y, .int .i64 m] w fun e w' => e = .returned (.bool (skB p m)) ∧ AS y v w v H n (skN p m) w' := by
  have t2 : w.cell? ⟨y, 2, none⟩ = some (.int .i64 p) := h.blk.cell 2
  have hf := h.blk.frozen 2
  have hy := h.blk.lt
  have HT := Lib.hid h
  have hp := h.past
  obtain ⟨hm1, hm2⟩ := hm
  clear h
  by_cases h0 : m < 0
  · have HE := Lib.hid (show skB p m = false by simp [skB]; omega)
    go_enter Try.func22, Try.ntmps22
    go_wp2
    go_ret
    exact ⟨by rw [HE.out]; rfl, by rw [skN, HE.out, if_neg (by decide)]; exact AS.start HT.out (Below.refl _ _)⟩
  · by_cases h1 : 4611686018427387903 - (p : Int) < m
    · have HE := Lib.hid (show skB p m = false by simp [skB]; omega)
      go_enter Try.func22, Try.ntmps22
      go_wp2
      go_ret
      exact ⟨by rw [HE.out]; rfl, by rw [skN, HE.out, if_neg (by decide)]; exact AS.start HT.out (Below.refl _ _)⟩
    · have HE := Lib.hid (show skB p m = true by simp [skB]; omega)
      obtain ⟨m', rfl⟩ := Int.eq_ofNat_of_zero_le (show 0 ≤ m by omega)
      have h1' : (m' : Int) ≤ 4611686018427387903 - (p : Int) := by omega
      go_enter Try.func22, Try.ntmps22
      go_wp2
      go_ret
      have e : skN p (m' : Int) = p + m' := by rw [skN, HE.out, if_pos rfl]; simp
      refine ⟨by rw [HE.out]; rfl, ?_⟩
      rw [e]
      have HTO := HT.out
      refine ⟨⟨?_, HTO.own.keep fun i hi e2 => Below.heap_setCell w ⟨y, 2, none⟩ _ i (fun e3 => HTO.ne (by rw [e2]; simpa using e3)), HTO.ne, HTO.gone, by omega⟩, ?_, fun i hi => .inl hi⟩
      · have := HTO.blk.set_ 2 (.int .i64 ((p : Int) + m'))
        simpa using this
      · have hB := (Below.refl 0 w).setCell (p := ⟨y, 2, none⟩) (Nat.zero_le _) (.int .i64 ((p : Int) + m'))
        exact ⟨hB.os, hB.tape, hB.output, hB.size, fun i hi h1 h2 => Below.heap_setCell w ⟨y, 2, none⟩ _ i (by simpa using h1)⟩
theorem askip_nil (w : World) (m : Int) : Calls Try.prog 22 #[.pointer none, .int .i64 m] w fun e w' => e = .returned (.bool false) ∧ w = w' := by
  go_enter Try.func22, Try.ntmps22
  go_wp2
  go_ret
  exact ⟨rfl, rfl⟩
end Go.Proofs.Ytjkkhefdpcpjiaa
