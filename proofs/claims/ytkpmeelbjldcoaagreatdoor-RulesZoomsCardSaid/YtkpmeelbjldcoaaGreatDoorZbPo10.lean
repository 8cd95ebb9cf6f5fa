/- Texts: Po10. -/
import Derived.Test.YtkpmeelbjldcoaaGreatDoorZbPo9
import Derived.StillTailTactics
namespace Go.Proofs.YtkpmeelbjldcoaaGreatDoor
set_option linter.unusedVariables false
set_option linter.unusedSimpArgs false
open Go.RowKit
def numsOf (b : Bx) : List Int := [b.x0, b.y0, b.x1, b.y1]
def bxForm : List Bx → List Bs
  | [] => []
  | b :: l => (numsOf b).map Lib.itoa ++ l.flatMap fun b => mAnd :: (numsOf b).map Lib.itoa
def formL (d : Dc) : List Bs :=
  if d.k = 1 then [wRole, d.nm, mIs, Lib.itoa d.n]
  else if d.k = 2 then [wLabel, d.nm, mIs, Lib.itoa d.n]
  else if d.k = 3 then [wRegion, d.nm, mIs] ++ bxForm d.bx
  else if d.k = 4 then [wAllow, wRole, txWho d.role wAny, wTier, txTiers d.lo d.hi, wLabel, txWho d.label wAny, wIn, txWho d.wh wAll, wZoom, Lib.itoa d.zoom]
  else if d.k = 5 then [wCap, wRole, txWho d.role wAny, wTier, txTiers d.lo d.hi, wLabel, txWho d.label wAny, wIn, txWho d.wh wAll, wZoom, Lib.itoa d.zoom]
  else if d.k = 6 then [wCloak, wRole, txWho d.role wAny]
  else []
/-- Whole numbers of a declaration are such. -/
structure DI (d : Dc) : Prop where
  k : I64 d.k
  n : I64 d.n
  role : I64 d.role.n
  lo : I64 d.lo
  hi : I64 d.hi
  label : I64 d.label.n
  wh : I64 d.wh.n
  zoom : I64 d.zoom
  bx : ∀ b ∈ d.bx, I64 b.x0 ∧ I64 b.y0 ∧ I64 b.x1 ∧ I64 b.y1
/-- Elements that can be read. -/
def ERd {α : Type} (E : El α) (w : World) (v : Value) (L : List α) : Prop := ∃ A c, v = .slice A L.length c ∧ L.length ≤ c ∧ c ≤ maxLen ∧ ∀ i x, L[i]? = some x → ∃ g o, A = some ⟨g, o, none⟩ ∧ ∀ j u, (E.enc x)[j]? = some u → w.cell? ⟨g, o + i * E.k + j, none⟩ = some u
theorem ERd.of_own {α : Type} {E : El α} (hE : E.Ok) {w : World} {v : Value} {L : List α} (h : EOwn E w v L) : ERd E w v L := by
  obtain ⟨A, c, rfl, h1, h2⟩ := h.slice
  refine ⟨A, c, rfl, h1, h2, fun i x hx => ?_⟩
  obtain ⟨_, g, rfl, hc⟩ := EOwn.cell hE h hx
  exact ⟨g, 0, rfl, fun j u hu => by have := hc j u hu; simpa using this⟩
theorem ERd.below {α : Type} {E : El α} {w w' : World} {v : Value} {L : List α} (h : ERd E w v L) (hb : Below w.heap.size w w') : ERd E w' v L := by
  obtain ⟨A, c, rfl, h1, h2, h3⟩ := h
  refine ⟨A, c, rfl, h1, h2, fun i x hx => ?_⟩
  obtain ⟨g, o, rfl, hc⟩ := h3 i x hx
  exact ⟨g, o, rfl, fun j u hu => cell_block (hc j u hu) fun hl => hb.block g hl⟩
def FormP (d : Dc) (w : World) (e : Ending) (w' : World) : Prop := ∃ v, e = .returned v ∧ EOwn elS w' v (formL d) ∧ (∀ i, v.ownBlock = some i → w.heap.size ≤ i) ∧ Below w.heap.size w w'
abbrev dV (d : Dc) (bv : Value) : Value := .agg (dcells d bv).toArray
/-- A copy of a declaration, in block D. -/
abbrev DAt (w : World) (D : Nat) (d : Dc) (bv : Value) : Prop := Blk w D 41 (dcells d bv).toArray
/-- What is known while a form is made. -/
structure FSt (w W : World) (d : Dc) (bv : Value) (F : List Bs) : Prop where
  k : DAt W w.heap.size d bv
  f : FormAt W w.heap.size (w.heap.size + 1) F
  b : Below w.heap.size w W
theorem FSt.new (w : World) (d : Dc) (bv : Value) : FSt w ((w.alloc (.cells (dcells d bv).toArray 41)).alloc (.cells #[.slice none 0 0] 100)) d bv [] := by
  refine ⟨Blk.thru0 (Blk.new w 41 (dcells d bv).toArray) ((Below.refl _ _).alloc (Nat.le_refl _) _), ?_, ((Below.refl w.heap.size w).alloc (Nat.le_refl _) _).alloc (by simp) _⟩
  have := Blk.new (w.alloc (.cells (dcells d bv).toArray 41)) 100 #[.slice none 0 0]
  rw [show (w.alloc (.cells (dcells d bv).toArray 41)).heap.size = w.heap.size + 1 by simp] at this
  exact ⟨_, this, EOwn.nil_ _, fun i hi => by simp [Value.ownBlock] at hi, by omega⟩
theorem FSt.below {w W W' : World} {d : Dc} {bv : Value} {F : List Bs} (h : FSt w W d bv F) (hb : Below W.heap.size W W') : FSt w W' d bv F := ⟨Blk.thru0 h.k hb, h.f.below hb, h.b.trans (hb.mono h.b.size)⟩
theorem FSt.alloc {w W : World} {d : Dc} {bv : Value} {F : List Bs} (h : FSt w W d bv F) (o : Obj) : FSt w (W.alloc o) d bv F := h.below ((Below.refl _ _).alloc (Nat.le_refl _) _)
theorem FSt.drew {w W : World} {d : Dc} {bv : Value} {F : List Bs} (h : FSt w W d bv F) : FSt w W.drew d bv F := ⟨h.k, h.f, below_drew1 h.b⟩
theorem FSt.put {w W W' : World} {d : Dc} {bv : Value} {F F' : List Bs} {e : Ending} (h : FSt w W d bv F) (hp : PutP W w.heap.size (w.heap.size + 1) F' e W') : FSt w W' d bv F' := ⟨hp.2.2.2 _ _ _ h.k (by decide) (by decide), hp.2.1, h.b.trans hp.2.2.1⟩
theorem FSt.le {w W : World} {d : Dc} {bv : Value} {F : List Bs} (h : FSt w W d bv F) : w.heap.size ≤ W.heap.size := h.b.size
set_option maxRecDepth 100000 in
set_option maxHeartbeats 8000000 in
theorem form_1 (w : World) (d : Dc) (bv : Value) (hV : Vs w) (hs : Hs w) (hd : DI d) (hk : d.k = 1) :
    Calls Tryz.prog 50 #[dV d bv] w (FormP d w) := by
  have HVB := Lib.hid (show ∀ w', Below w.heap.size w w' → Vs w' from fun w' hb => hV.below hb)
  have HS := Lib.hid (FSt.new w d bv)
  have HH := Lib.hid hs
  have HI := Lib.hid hd
  clear hV hs hd
  go_enter Tryz.func50, Tryz.ntmps50
  go_upto_region 2 with (fail)
  generalize ((w.alloc (.cells (dcells d bv).toArray 41)).alloc (.cells #[.slice none 0 0] 100)) = W at *
  have c0 := HS.out.k.cell 0
  simp only [dcells, List.getElem?_toArray, List.getElem?_cons_zero, List.getElem?_cons_succ] at c0
  rw [hk] at c0
  have hz := HS.out.k.lt
  have c1 := HS.out.k.cell 1
  simp only [dcells, List.getElem?_toArray, List.getElem?_cons_zero, List.getElem?_cons_succ] at c1
  have g1 : W.cell? ⟨0, 1, none⟩ = some (.string (bs wRole)) := (HH.out.low HS.out.b).h 1 (by omega)
  have HKD := Lib.hid hk
  clear hk
  go_wp2_with fail
  go_still_tail 6, (by kernel_rfl)
  change wpList _ _ _ _ _ W.drew
  have HS2 := Lib.hid HS.out.drew
  generalize W.drew = W2 at *
  clear HS
  clear c0 c1 g1 hz
  go_wp2_with fail
  refine (put_any _ w.heap.size (w.heap.size + 1) [] [wRole, d.nm, mIs] (some ⟨W2.heap.size, 0, none⟩) 3 (HS2.out.alloc _).f (EOwn.block (M := [wRole, d.nm, mIs]) elS_ok (Blk.new W2 9 #[.string (bs wRole), .string (bs d.nm), .string (bs mIs)]) rfl (by simp)) (HS2.out.alloc _).le (by simp)).mono ?_
  intro e W3 hp
  have HS3 := Lib.hid ((HS2.out.alloc _).put hp)
  obtain ⟨rfl, hp⟩ := hp; clear hp
  clear HS2
  have c2 := HS3.out.k.cell 2
  simp only [dcells, List.getElem?_toArray, List.getElem?_cons_zero, List.getElem?_cons_succ] at c2
  have hz3 := HS3.out.k.lt
  go_wp2_with fail
  refine (putnums_any _ w.heap.size (w.heap.size + 1) _ [d.n] (some ⟨W3.heap.size, 0, none⟩) 1 (HVB.out _ (HS3.out.alloc _).b) (HS3.out.alloc _).f (EOwn.block (M := [d.n]) elI_ok (Blk.new W3 3 #[.int .i64 d.n]) rfl (by simp)) (HS3.out.alloc _).le (by simp) (fun n hn => by obtain rfl := List.mem_singleton.1 hn; exact HI.out.n) (fun w' hb => HVB.out _ ((HS3.out.alloc _).b.trans hb))).mono ?_
  intro e W4 hp
  have HS4 := Lib.hid ((HS3.out.alloc _).put hp)
  obtain ⟨rfl, hp⟩ := hp; clear hp
  clear HS3 c2 hz3
  obtain ⟨v, hv1, hv2, hv3, _⟩ := HS4.out.f
  obtain ⟨A9, c9, rfl, _, _⟩ := hv2.slice
  have k9 := hv1.cell 0
  simp only [List.getElem?_toArray, List.getElem?_cons_zero] at k9
  have HFL := Lib.hid (show formL d = [] ++ [wRole, d.nm, mIs] ++ [d.n].map Lib.itoa by simp [formL, HKD.out, List.map])
  have HO := Lib.hid hv2
  have HFAR := Lib.hid hv3
  clear hv1 hv2 hv3
  go_wp2_with fail
  go_ret
  exact ⟨_, rfl, by rw [HFL.out]; exact HO.out, HFAR.out, HS4.out.b⟩
set_option maxRecDepth 100000 in
set_option maxHeartbeats 8000000 in
theorem form_2 (w : World) (d : Dc) (bv : Value) (hV : Vs w) (hs : Hs w) (hd : DI d) (hk : d.k = 2) :
    Calls Tryz.prog 50 #[dV d bv] w (FormP d w) := by
  have HVB := Lib.hid (show ∀ w', Below w.heap.size w w' → Vs w' from fun w' hb => hV.below hb)
  have HS := Lib.hid (FSt.new w d bv)
  have HH := Lib.hid hs
  have HI := Lib.hid hd
  clear hV hs hd
  go_enter Tryz.func50, Tryz.ntmps50
  go_upto_region 2 with (fail)
  generalize ((w.alloc (.cells (dcells d bv).toArray 41)).alloc (.cells #[.slice none 0 0] 100)) = W at *
  have c0 := HS.out.k.cell 0
  simp only [dcells, List.getElem?_toArray, List.getElem?_cons_zero, List.getElem?_cons_succ] at c0
  rw [hk] at c0
  have hz := HS.out.k.lt
  have c1 := HS.out.k.cell 1
  simp only [dcells, List.getElem?_toArray, List.getElem?_cons_zero, List.getElem?_cons_succ] at c1
  have g1 : W.cell? ⟨0, 2, none⟩ = some (.string (bs wLabel)) := (HH.out.low HS.out.b).h 2 (by omega)
  have HKD := Lib.hid hk
  clear hk
  go_wp2_with fail
  go_still_tail 6, (by kernel_rfl)
  change wpList _ _ _ _ _ W.drew
  have HS2 := Lib.hid HS.out.drew
  generalize W.drew = W2 at *
  clear HS
  clear c0 c1 g1 hz
  go_wp2_with fail
  refine (put_any _ w.heap.size (w.heap.size + 1) [] [wLabel, d.nm, mIs] (some ⟨W2.heap.size, 0, none⟩) 3 (HS2.out.alloc _).f (EOwn.block (M := [wLabel, d.nm, mIs]) elS_ok (Blk.new W2 9 #[.string (bs wLabel), .string (bs d.nm), .string (bs mIs)]) rfl (by simp)) (HS2.out.alloc _).le (by simp)).mono ?_
  intro e W3 hp
  have HS3 := Lib.hid ((HS2.out.alloc _).put hp)
  obtain ⟨rfl, hp⟩ := hp; clear hp
  clear HS2
  have c2 := HS3.out.k.cell 2
  simp only [dcells, List.getElem?_toArray, List.getElem?_cons_zero, List.getElem?_cons_succ] at c2
  have hz3 := HS3.out.k.lt
  go_wp2_with fail
  refine (putnums_any _ w.heap.size (w.heap.size + 1) _ [d.n] (some ⟨W3.heap.size, 0, none⟩) 1 (HVB.out _ (HS3.out.alloc _).b) (HS3.out.alloc _).f (EOwn.block (M := [d.n]) elI_ok (Blk.new W3 3 #[.int .i64 d.n]) rfl (by simp)) (HS3.out.alloc _).le (by simp) (fun n hn => by obtain rfl := List.mem_singleton.1 hn; exact HI.out.n) (fun w' hb => HVB.out _ ((HS3.out.alloc _).b.trans hb))).mono ?_
  intro e W4 hp
  have HS4 := Lib.hid ((HS3.out.alloc _).put hp)
  obtain ⟨rfl, hp⟩ := hp; clear hp
  clear HS3 c2 hz3
  obtain ⟨v, hv1, hv2, hv3, _⟩ := HS4.out.f
  obtain ⟨A9, c9, rfl, _, _⟩ := hv2.slice
  have k9 := hv1.cell 0
  simp only [List.getElem?_toArray, List.getElem?_cons_zero] at k9
  have HFL := Lib.hid (show formL d = [] ++ [wLabel, d.nm, mIs] ++ [d.n].map Lib.itoa by simp [formL, HKD.out, List.map])
  have HO := Lib.hid hv2
  have HFAR := Lib.hid hv3
  clear hv1 hv2 hv3
  go_wp2_with fail
  go_ret
  exact ⟨_, rfl, by rw [HFL.out]; exact HO.out, HFAR.out, HS4.out.b⟩
set_option maxRecDepth 100000 in
set_option maxHeartbeats 8000000 in
theorem form_6 (w : World) (d : Dc) (bv : Value) (hV : Vs w) (hs : Hs w) (hd : DI d) (hk : d.k = 6) :
    Calls Tryz.prog 50 #[dV d bv] w (FormP d w) := by
  have HVB := Lib.hid (show ∀ w', Below w.heap.size w w' → Vs w' from fun w' hb => hV.below hb)
  have HS := Lib.hid (FSt.new w d bv)
  have HH := Lib.hid hs
  have HI := Lib.hid hd
  clear hV hs hd
  go_enter Tryz.func50, Tryz.ntmps50
  go_upto_region 2 with (fail)
  generalize ((w.alloc (.cells (dcells d bv).toArray 41)).alloc (.cells #[.slice none 0 0] 100)) = W at *
  have c0 := HS.out.k.cell 0
  simp only [dcells, List.getElem?_toArray, List.getElem?_cons_zero, List.getElem?_cons_succ] at c0
  rw [hk] at c0
  have hz := HS.out.k.lt
  have c4 := HS.out.k.cell 4
  have c5 := HS.out.k.cell 5
  have c6 := HS.out.k.cell 6
  have c7 := HS.out.k.cell 7
  have c8 := HS.out.k.cell 8
  simp only [dcells, List.getElem?_toArray, List.getElem?_cons_zero, List.getElem?_cons_succ] at c4 c5 c6 c7 c8
  have g1 : W.cell? ⟨0, 6, none⟩ = some (.string (bs wCloak)) := (HH.out.low HS.out.b).h 6 (by omega)
  have HKD := Lib.hid hk
  clear hk
  go_wp2_with fail
  have K0 := HS.out
  have V0 := HVB.out
  go_region_with (first | (go_at_call 93; refine (txwho_any d.role wAny _ (V0 _ (by first | exact K0.b | exact K0.drew.b)) HI.out.role).mono ?_; rintro e w8 ⟨rfl, hb8⟩; have K1 : FSt w w8 d bv [] := (by first | exact K0.below hb8 | exact K0.drew.below hb8); have K8 := Lib.hid K1; have c0 := K1.k.cell 0; simp only [dcells, List.getElem?_toArray, List.getElem?_cons_zero] at c0; rw [HKD.out] at c0; have g1 := (HH.out.low K1.b).h 6 (by omega); clear hb8 K1) | (go_at_call 91; refine (put_any _ w.heap.size (w.heap.size + 1) [] [wCloak, wRole, txWho d.role wAny] (some ⟨w8.heap.size, 0, none⟩) 3 (K8.out.alloc _).f (EOwn.block (M := [wCloak, wRole, txWho d.role wAny]) elS_ok (Blk.new w8 9 #[.string (bs wCloak), .string (bs wRole), .string (bs (txWho d.role wAny))]) rfl (by simp)) (K8.out.alloc _).le (by simp)).mono ?_; intro e w9 hp; have HS4 := Lib.hid ((K8.out.alloc _).put hp); obtain ⟨rfl, hp⟩ := hp; clear hp))
  all_goals
    obtain ⟨v, hv1, hv2, hv3, _⟩ := HS4.out.f
    obtain ⟨A9, c9, rfl, _, _⟩ := hv2.slice
    have k9 := hv1.cell 0
    simp only [List.getElem?_toArray, List.getElem?_cons_zero] at k9
    have HFL := Lib.hid (show formL d = [] ++ [wCloak, wRole, txWho d.role wAny] by simp [formL, HKD.out, List.map])
    have HO := Lib.hid hv2
    have HFAR := Lib.hid hv3
    clear hv1 hv2 hv3
    go_wp2_with fail
    go_ret
    exact ⟨_, rfl, by rw [HFL.out]; exact HO.out, HFAR.out, HS4.out.b⟩
theorem bx_snoc (l : List Bx) (b : Bx) : bxForm (l ++ [b]) = bxForm l ++ ((if l = [] then [] else [mAnd]) ++ (numsOf b).map Lib.itoa) := by
  cases l with
  | nil => simp [bxForm]
  | cons c l => simp [bxForm]
theorem bx_len (l : List Bx) : (bxForm l).length ≤ 5 * l.length := by
  cases l with
  | nil => simp [bxForm]
  | cons c l =>
    have h : ∀ l : List Bx, (l.flatMap fun b => mAnd :: (numsOf b).map Lib.itoa).length = 5 * l.length := by
      intro l
      induction l with
      | nil => rfl
      | cons c l ih => simp [numsOf] at ih ⊢; omega
    have := h l
    simp [bxForm, numsOf] at this ⊢
    omega
set_option maxRecDepth 100000 in
set_option maxHeartbeats 8000000 in
theorem form_3 (w : World) (d : Dc) (bv : Value) (hV : Vs w) (hs : Hs w) (hd : DI d) (hk : d.k = 3) (hrd : ERd elR w bv d.bx) (hbl : d.bx.length ≤ 100000) :
    Calls Tryz.prog 50 #[dV d bv] w (FormP d w) := by
  have HVB := Lib.hid (show ∀ w', Below w.heap.size w w' → Vs w' from fun w' hb => hV.below hb)
  have HS := Lib.hid (FSt.new w d bv)
  have HH := Lib.hid hs
  have HI := Lib.hid hd
  clear hV hs hd
  have HR := Lib.hid hrd
  have HL := Lib.hid hbl
  clear hrd hbl
  go_enter Tryz.func50, Tryz.ntmps50
  go_upto_region 2 with (fail)
  generalize ((w.alloc (.cells (dcells d bv).toArray 41)).alloc (.cells #[.slice none 0 0] 100)) = W at *
  have c0 := HS.out.k.cell 0
  simp only [dcells, List.getElem?_toArray, List.getElem?_cons_zero, List.getElem?_cons_succ] at c0
  rw [hk] at c0
  have hz := HS.out.k.lt
  have c1 := HS.out.k.cell 1
  simp only [dcells, List.getElem?_toArray, List.getElem?_cons_zero, List.getElem?_cons_succ] at c1
  have g1 : W.cell? ⟨0, 3, none⟩ = some (.string (bs wRegion)) := (HH.out.low HS.out.b).h 3 (by omega)
  have HKD := Lib.hid hk
  clear hk
  obtain ⟨Ab, cb, rfl, hcb1, hcb2, hcell⟩ := HR.out
  have HCL := Lib.hid hcell
  clear hcell
  go_wp2_with fail
  go_still_tail 6, (by kernel_rfl)
  change wpList _ _ _ _ _ W.drew
  have HS2 := Lib.hid HS.out.drew
  generalize W.drew = W2 at *
  clear HS
  clear c0 c1 g1 hz
  go_wp2_with fail
  refine (put_any _ w.heap.size (w.heap.size + 1) [] [wRegion, d.nm, mIs] (some ⟨W2.heap.size, 0, none⟩) 3 (HS2.out.alloc _).f (EOwn.block (M := [wRegion, d.nm, mIs]) elS_ok (Blk.new W2 9 #[.string (bs wRegion), .string (bs d.nm), .string (bs mIs)]) rfl (by simp)) (HS2.out.alloc _).le (by simp)).mono ?_
  intro e W3 hp
  have HS3 := Lib.hid ((HS2.out.alloc _).put hp)
  obtain ⟨rfl, hp⟩ := hp; clear hp
  clear HS2
  have c3 := HS3.out.k.cell 3
  simp only [dcells, List.getElem?_toArray, List.getElem?_cons_zero, List.getElem?_cons_succ] at c3
  have hz3 := HS3.out.k.lt
  have HST := Lib.hid (show FSt w W3 d (.slice Ab d.bx.length cb) ([wRegion, d.nm, mIs] ++ bxForm (d.bx.take 0)) from HS3.out)
  go_wp2_with fail
  clear c3 hz3 HS3
  go_loopw [36] (fun i wr => ∃ k : Nat, k ≤ d.bx.length ∧ i = .int .i64 k ∧ Hid (FSt w wr d (.slice Ab d.bx.length cb) ([wRegion, d.nm, mIs] ++ bxForm (d.bx.take k)))) (fun i _ => d.bx.length - (intOf i).toNat)
  case atStart => exact ⟨0, by omega, rfl, HST⟩
  case round =>
    clear HST
    obtain ⟨k, hk, rfl, HT⟩ := hrel
    by_cases hlt : k < d.bx.length
    · have hki : (k : Int) < (d.bx.length : Int) := by omega
      have hkb : (k : Int) < 1000000 := by have := HL.out; omega
      have hk0 : (0 : Int) ≤ (k : Int) := by omega
      have hx : d.bx[k]? = some d.bx[k] := List.getElem?_eq_getElem hlt
      obtain ⟨g, o, rfl, hc⟩ := HCL.out k _ hx
      have HXI := Lib.hid (HI.out.bx _ (List.getElem_mem hlt))
      have HNI := Lib.hid (show ∀ n ∈ numsOf d.bx[k], I64 n from fun n hn => by
        have h9 := HXI.out
        simp only [numsOf, List.mem_cons, List.not_mem_nil, or_false] at hn
        rcases hn with rfl | rfl | rfl | rfl
        · exact h9.1
        · exact h9.2.1
        · exact h9.2.2.1
        · exact h9.2.2.2)
      have HSN := Lib.hid (show bxForm (d.bx.take (k + 1)) = bxForm (d.bx.take k) ++ ((if d.bx.take k = [] then [] else [mAnd]) ++ (numsOf d.bx[k]).map Lib.itoa) by rw [List.take_add_one, hx]; exact bx_snoc (d.bx.take k) d.bx[k])
      have HLE := Lib.hid (bx_len (d.bx.take k))
      generalize d.bx[k] = x at *
      have t0 : wr.cell? ⟨g, o + k * 4, none⟩ = some (.int .i64 x.x0) := by have h := hc 0 _ rfl; exact cell_block h fun hl => HT.out.b.block g hl
      have t1 : wr.cell? ⟨g, o + k * 4 + 1, none⟩ = some (.int .i64 x.y0) := by have h := hc 1 _ rfl; exact cell_block h fun hl => HT.out.b.block g hl
      have t2 : wr.cell? ⟨g, o + k * 4 + 2, none⟩ = some (.int .i64 x.x1) := by have h := hc 2 _ rfl; exact cell_block h fun hl => HT.out.b.block g hl
      have t3 : wr.cell? ⟨g, o + k * 4 + 3, none⟩ = some (.int .i64 x.y1) := by have h := hc 3 _ rfl; exact cell_block h fun hl => HT.out.b.block g hl
      have hgl := World.block_lt_of_cell? wr _ t0
      clear hc hx
      go_upto_region 12 with (fail)
      have HS5 := Lib.hid (HT.out.alloc (.cells #[.int .i64 x.x0, .int .i64 x.y0, .int .i64 x.x1, .int .i64 x.y1] 70))
      have HB5 := Lib.hid (Blk.new wr 70 #[.int .i64 x.x0, .int .i64 x.y0, .int .i64 x.x1, .int .i64 x.y1])
      generalize (wr.alloc (.cells #[.int .i64 x.x0, .int .i64 x.y0, .int .i64 x.x1, .int .i64 x.y1] 70)) = W5 at *
      generalize wr.heap.size = p5 at *
      clear t0 t1 t2 t3 hgl
      by_cases hz : d.bx.take k = []
      · obtain rfl : k = 0 := by
          have h9 := congrArg List.length hz
          rw [List.length_take, Nat.min_eq_left (by omega)] at h9
          exact h9
        have x0 := HB5.out.cell 0
        have x1 := HB5.out.cell 1
        have x2 := HB5.out.cell 2
        have x3 := HB5.out.cell 3
        simp only [List.getElem?_toArray, List.getElem?_cons_zero, List.getElem?_cons_succ] at x0 x1 x2 x3
        have hz5 := HB5.out.lt
        go_wp2_with fail
        refine (putnums_any _ w.heap.size (w.heap.size + 1) ([wRegion, d.nm, mIs] ++ bxForm (d.bx.take 0)) (numsOf x) (some ⟨W5.heap.size, 0, none⟩) 4 (HVB.out _ (HS5.out.alloc _).b) (HS5.out.alloc _).f (EOwn.block (M := numsOf x) elI_ok (Blk.new W5 3 #[.int .i64 x.x0, .int .i64 x.y0, .int .i64 x.x1, .int .i64 x.y1]) rfl (by simp [numsOf])) (HS5.out.alloc _).le (by simp [numsOf, bxForm]) HNI.out (fun w' hb => HVB.out _ ((HS5.out.alloc _).b.trans hb))).mono ?_
        intro e W7 hp
        have hq7 := (HS5.out.alloc _).put hp
        obtain ⟨rfl, hp⟩ := hp; clear hp
        have HN := Lib.hid (show FSt w W7 d (.slice (some ⟨g, o, none⟩) d.bx.length cb) ([wRegion, d.nm, mIs] ++ bxForm (d.bx.take (0 + 1))) from by rw [HSN.out]; simpa [hz] using hq7)
        clear hq7 x0 x1 x2 x3 hz5
        go_wp2_with fail
        go_roundw
        case rel => exact ⟨0 + 1, by omega, by go_num, HN⟩
        case measure => simp [intOf]; omega
      · have hkp : (0 : Int) < (k : Int) := by
          have : k ≠ 0 := fun e => hz (by rw [e]; rfl)
          omega
        have HZ := Lib.hid hz
        clear hz hk0 hki hkb hcb1 hcb2
        go_wp2_with fail
        refine (put_any _ w.heap.size (w.heap.size + 1) ([wRegion, d.nm, mIs] ++ bxForm (d.bx.take k)) [mAnd] (some ⟨W5.heap.size, 0, none⟩) 1 (HS5.out.alloc _).f (EOwn.block (M := [mAnd]) elS_ok (Blk.new W5 9 #[.string (bs mAnd)]) rfl (by simp)) (HS5.out.alloc _).le (by have := HLE.out; have := HL.out; have h9 := List.length_take_le k d.bx; simp only [List.length_append, List.length_cons, List.length_nil]; omega)).mono ?_
        intro e W6 hp
        have HS6 := Lib.hid ((HS5.out.alloc _).put hp)
        have HB6 := Lib.hid (hp.2.2.2 _ _ _ (Blk.thru0 HB5.out ((Below.refl _ _).alloc (Nat.le_refl _) (.cells #[.string (bs mAnd)] 9))) (by decide) (by decide))
        obtain ⟨rfl, hp⟩ := hp; clear hp
        clear HS5 HB5
        have x0 := HB6.out.cell 0
        have x1 := HB6.out.cell 1
        have x2 := HB6.out.cell 2
        have x3 := HB6.out.cell 3
        simp only [List.getElem?_toArray, List.getElem?_cons_zero, List.getElem?_cons_succ] at x0 x1 x2 x3
        have hz5 := HB6.out.lt
        go_wp2_with fail
        refine (putnums_any _ w.heap.size (w.heap.size + 1) ([wRegion, d.nm, mIs] ++ bxForm (d.bx.take k) ++ [mAnd]) (numsOf x) (some ⟨W6.heap.size, 0, none⟩) 4 (HVB.out _ (HS6.out.alloc _).b) (HS6.out.alloc _).f (EOwn.block (M := numsOf x) elI_ok (Blk.new W6 3 #[.int .i64 x.x0, .int .i64 x.y0, .int .i64 x.x1, .int .i64 x.y1]) rfl (by simp [numsOf])) (HS6.out.alloc _).le (by have := HLE.out; have := HL.out; have h9 := List.length_take_le k d.bx; simp only [numsOf, List.length_append, List.length_cons, List.length_nil]; omega) HNI.out (fun w' hb => HVB.out _ ((HS6.out.alloc _).b.trans hb))).mono ?_
        intro e W7 hp
        have hq7 := (HS6.out.alloc _).put hp
        obtain ⟨rfl, hp⟩ := hp; clear hp
        have HN := Lib.hid (show FSt w W7 d (.slice (some ⟨g, o, none⟩) d.bx.length cb) ([wRegion, d.nm, mIs] ++ bxForm (d.bx.take (k + 1))) from by rw [HSN.out]; simpa [HZ.out] using hq7)
        clear hq7 x0 x1 x2 x3 hz5
        have hki : (k : Int) < (d.bx.length : Int) := by omega
        have hkb : (k : Int) < 1000000 := by have := HL.out; omega
        go_wp2_with fail
        go_roundw
        case rel => exact ⟨k + 1, by omega, by go_num, HN⟩
        case measure => simp [intOf]; omega
    · obtain rfl : k = d.bx.length := by omega
      have HT2 := Lib.hid (show FSt w wr d (.slice Ab d.bx.length cb) ([wRegion, d.nm, mIs] ++ bxForm d.bx) by have := HT.out; rwa [List.take_length] at this)
      clear HT

      obtain ⟨v, hv1, hv2, hv3, _⟩ := HT2.out.f
      obtain ⟨A9, c9, rfl, _, _⟩ := hv2.slice
      have k9 := hv1.cell 0
      simp only [List.getElem?_toArray, List.getElem?_cons_zero] at k9
      have HFL := Lib.hid (show formL d = [wRegion, d.nm, mIs] ++ bxForm d.bx by simp [formL, HKD.out, List.map])
      have HO := Lib.hid hv2
      have HFAR := Lib.hid hv3
      clear hv1 hv2 hv3
      go_wp2_with fail
      go_ret
      exact ⟨_, rfl, by rw [HFL.out]; exact HO.out, HFAR.out, HT2.out.b⟩
set_option maxRecDepth 100000 in
set_option maxHeartbeats 8000000 in
theorem form_4 (w : World) (d : Dc) (bv : Value) (hV : Vs w) (hs : Hs w) (hd : DI d) (hk : d.k = 4) :
    Calls Tryz.prog 50 #[dV d bv] w (FormP d w) := by
  have HVB := Lib.hid (show ∀ w', Below w.heap.size w w' → Vs w' from fun w' hb => hV.below hb)
  have HS := Lib.hid (FSt.new w d bv)
  have HH := Lib.hid hs
  have HI := Lib.hid hd
  clear hV hs hd
  go_enter Tryz.func50, Tryz.ntmps50
  go_upto_region 2 with (fail)
  generalize ((w.alloc (.cells (dcells d bv).toArray 41)).alloc (.cells #[.slice none 0 0] 100)) = W at *
  have c0 := HS.out.k.cell 0
  simp only [dcells, List.getElem?_toArray, List.getElem?_cons_zero, List.getElem?_cons_succ] at c0
  rw [hk] at c0
  have hz := HS.out.k.lt
  have c4 := HS.out.k.cell 4
  have c5 := HS.out.k.cell 5
  have c6 := HS.out.k.cell 6
  have c7 := HS.out.k.cell 7
  have c8 := HS.out.k.cell 8
  have c9 := HS.out.k.cell 9
  have c10 := HS.out.k.cell 10
  simp only [dcells, List.getElem?_toArray, List.getElem?_cons_zero, List.getElem?_cons_succ] at c4 c5 c6 c7 c8 c9 c10
  have g1 : W.cell? ⟨0, 4, none⟩ = some (.string (bs wAllow)) := (HH.out.low HS.out.b).h 4 (by omega)
  have HKD := Lib.hid hk
  clear hk
  go_wp2_with fail
  have K0 := HS.out
  have V0 := HVB.out
  have zg := World.new_ne _ _ g1
  go_region_held3 (fun w' => w'.cell? ⟨w.heap.size, 0, none⟩ = some (.int .i64 4) ∧ w'.cell? ⟨w.heap.size, 4, none⟩ = some (.bool d.role.any) ∧ w'.cell? ⟨w.heap.size, 5, none⟩ = some (.string (bs d.role.nm)) ∧ w'.cell? ⟨w.heap.size, 6, none⟩ = some (.int .i64 d.role.n) ∧ w'.cell? ⟨w.heap.size, 7, none⟩ = some (.int .i64 d.role.p.1) ∧ w'.cell? ⟨w.heap.size, 8, none⟩ = some (.int .i64 d.role.p.2) ∧ w'.cell? ⟨w.heap.size, 9, none⟩ = some (.int .i64 d.lo) ∧ w'.cell? ⟨w.heap.size, 10, none⟩ = some (.int .i64 d.hi) ∧ w'.cell? ⟨0, 4, none⟩ = some (.string (bs wAllow))) (first | (refine ⟨?_, ?_, ?_, ?_, ?_, ?_, ?_, ?_, ?_⟩ <;> first | assumption | exact cell_alloc (by assumption) _) | go_keep) (first | (go_at_call 93; refine (txwho_any d.role wAny _ (V0 _ (by first | exact K8.out.b | exact K8.out.drew.b | exact K0.b | exact K0.drew.b)) HI.out.role).mono ?_; rintro e w8 ⟨rfl, hb8⟩; have K1 : FSt w w8 d bv [] := (by first | exact K8.out.below hb8 | exact K8.out.drew.below hb8 | exact K0.below hb8 | exact K0.drew.below hb8); have K8 := Lib.hid K1; have c0 := K1.k.cell 0; have c4 := K1.k.cell 4; have c5 := K1.k.cell 5; have c6 := K1.k.cell 6; have c7 := K1.k.cell 7; have c8 := K1.k.cell 8; have c9 := K1.k.cell 9; have c10 := K1.k.cell 10; simp only [dcells, List.getElem?_toArray, List.getElem?_cons_zero, List.getElem?_cons_succ] at c0 c4 c5 c6 c7 c8 c9 c10; rw [HKD.out] at c0; have g1 := (HH.out.low K1.b).h 4 (by omega); have zg := World.new_ne _ _ g1; clear hb8 K1) | (go_at_call 94; refine (txtiers_any d.lo d.hi _ (V0 _ (by first | exact K8.out.b | exact K8.out.drew.b | exact K0.b | exact K0.drew.b)) HI.out.lo HI.out.hi).mono ?_; rintro e w8 ⟨rfl, hb8⟩; have K1 : FSt w w8 d bv [] := (by first | exact K8.out.below hb8 | exact K8.out.drew.below hb8 | exact K0.below hb8 | exact K0.drew.below hb8); have K8 := Lib.hid K1; have c0 := K1.k.cell 0; have c4 := K1.k.cell 4; have c5 := K1.k.cell 5; have c6 := K1.k.cell 6; have c7 := K1.k.cell 7; have c8 := K1.k.cell 8; have c9 := K1.k.cell 9; have c10 := K1.k.cell 10; simp only [dcells, List.getElem?_toArray, List.getElem?_cons_zero, List.getElem?_cons_succ] at c0 c4 c5 c6 c7 c8 c9 c10; rw [HKD.out] at c0; have g1 := (HH.out.low K1.b).h 4 (by omega); have zg := World.new_ne _ _ g1; clear hb8 K1) | (go_at_call 91; refine (put_any _ w.heap.size (w.heap.size + 1) [] [wAllow, wRole, (txWho d.role wAny), wTier, (txTiers d.lo d.hi)] (some ⟨w8.heap.size, 0, none⟩) 5 (K8.out.alloc _).f (EOwn.block (M := [wAllow, wRole, (txWho d.role wAny), wTier, (txTiers d.lo d.hi)]) elS_ok (Blk.new w8 9 #[.string (bs wAllow), .string (bs wRole), .string (bs (txWho d.role wAny)), .string (bs wTier), .string (bs (txTiers d.lo d.hi))]) rfl (by simp)) (K8.out.alloc _).le (by simp)).mono ?_; intro e w9 hp; have K1 := ((K8.out.alloc _).put hp); have HS4 := Lib.hid K1; obtain ⟨rfl, hp⟩ := hp; have c0 := K1.k.cell 0; have c4 := K1.k.cell 4; have c5 := K1.k.cell 5; have c6 := K1.k.cell 6; have c7 := K1.k.cell 7; have c8 := K1.k.cell 8; have c9 := K1.k.cell 9; have c10 := K1.k.cell 10; simp only [dcells, List.getElem?_toArray, List.getElem?_cons_zero, List.getElem?_cons_succ] at c0 c4 c5 c6 c7 c8 c9 c10; rw [HKD.out] at c0; have g1 := (HH.out.low K1.b).h 4 (by omega); have zg := World.new_ne _ _ g1; clear hp K1))
  clear K0 zg g1 c0 c4 c5 c6 c7 c8 c9 c10 hz
  have F4 := HS4.out
  have c11 := F4.k.cell 11; have c12 := F4.k.cell 12; have c13 := F4.k.cell 13; have c14 := F4.k.cell 14; have c15 := F4.k.cell 15; have c16 := F4.k.cell 16; have c17 := F4.k.cell 17; have c18 := F4.k.cell 18; have c19 := F4.k.cell 19; have c20 := F4.k.cell 20; simp only [dcells, List.getElem?_toArray, List.getElem?_cons_zero, List.getElem?_cons_succ] at c11 c12 c13 c14 c15 c16 c17 c18 c19 c20; have hz4 := F4.k.lt
  clear F4
  go_wp2_with fail
  have K0 := HS4.out
  have HWL := Lib.hid (show ∀ W, Vs W → Calls Tryz.prog 93 #[.agg #[.bool d.label.any, .string (bs d.label.nm), .int .i64 d.label.n, .int .i64 d.label.p.1, .int .i64 d.label.p.2], .string ⟨#[97, 110, 121]⟩] W fun e w' => e = .returned (.string (bs (txWho d.label wAny))) ∧ Below W.heap.size W w' from fun W hv => txwho_any d.label wAny W hv HI.out.label)
  have HWW := Lib.hid (show ∀ W, Vs W → Calls Tryz.prog 93 #[.agg #[.bool d.wh.any, .string (bs d.wh.nm), .int .i64 d.wh.n, .int .i64 d.wh.p.1, .int .i64 d.wh.p.2], .string ⟨#[97, 108, 108]⟩] W fun e w' => e = .returned (.string (bs (txWho d.wh wAll))) ∧ Below W.heap.size W w' from fun W hv => txwho_any d.wh wAll W hv HI.out.wh)
  go_region_held3 (fun w' => w'.cell? ⟨w.heap.size, 11, none⟩ = some (.bool d.label.any) ∧ w'.cell? ⟨w.heap.size, 12, none⟩ = some (.string (bs d.label.nm)) ∧ w'.cell? ⟨w.heap.size, 13, none⟩ = some (.int .i64 d.label.n) ∧ w'.cell? ⟨w.heap.size, 14, none⟩ = some (.int .i64 d.label.p.1) ∧ w'.cell? ⟨w.heap.size, 15, none⟩ = some (.int .i64 d.label.p.2) ∧ w'.cell? ⟨w.heap.size, 16, none⟩ = some (.bool d.wh.any) ∧ w'.cell? ⟨w.heap.size, 17, none⟩ = some (.string (bs d.wh.nm)) ∧ w'.cell? ⟨w.heap.size, 18, none⟩ = some (.int .i64 d.wh.n) ∧ w'.cell? ⟨w.heap.size, 19, none⟩ = some (.int .i64 d.wh.p.1) ∧ w'.cell? ⟨w.heap.size, 20, none⟩ = some (.int .i64 d.wh.p.2)) (first | (refine ⟨?_, ?_, ?_, ?_, ?_, ?_, ?_, ?_, ?_, ?_⟩ <;> first | assumption | exact cell_alloc (by assumption) _) | go_keep) (first | (go_at_call 93; with_reducible refine Calls.mono (HWL.out _ ?_) ?_; (first | exact V0 _ J8.out.b | exact V0 _ J8.out.drew.b | exact V0 _ K0.b | exact V0 _ K0.drew.b); rintro e w8 ⟨rfl, hb8⟩; have K1 : FSt w w8 d bv _ := (by first | exact J8.out.below hb8 | exact J8.out.drew.below hb8 | exact K0.below hb8 | exact K0.drew.below hb8); have J8 := Lib.hid K1; have c11 := K1.k.cell 11; have c12 := K1.k.cell 12; have c13 := K1.k.cell 13; have c14 := K1.k.cell 14; have c15 := K1.k.cell 15; have c16 := K1.k.cell 16; have c17 := K1.k.cell 17; have c18 := K1.k.cell 18; have c19 := K1.k.cell 19; have c20 := K1.k.cell 20; simp only [dcells, List.getElem?_toArray, List.getElem?_cons_zero, List.getElem?_cons_succ] at c11 c12 c13 c14 c15 c16 c17 c18 c19 c20; clear hb8 K1) | (go_at_call 93; with_reducible refine Calls.mono (HWW.out _ ?_) ?_; (first | exact V0 _ J8.out.b | exact V0 _ J8.out.drew.b | exact V0 _ K0.b | exact V0 _ K0.drew.b); rintro e w8 ⟨rfl, hb8⟩; have K1 : FSt w w8 d bv _ := (by first | exact J8.out.below hb8 | exact J8.out.drew.below hb8 | exact K0.below hb8 | exact K0.drew.below hb8); have J8 := Lib.hid K1; have c11 := K1.k.cell 11; have c12 := K1.k.cell 12; have c13 := K1.k.cell 13; have c14 := K1.k.cell 14; have c15 := K1.k.cell 15; have c16 := K1.k.cell 16; have c17 := K1.k.cell 17; have c18 := K1.k.cell 18; have c19 := K1.k.cell 19; have c20 := K1.k.cell 20; simp only [dcells, List.getElem?_toArray, List.getElem?_cons_zero, List.getElem?_cons_succ] at c11 c12 c13 c14 c15 c16 c17 c18 c19 c20; clear hb8 K1) | (go_at_call 91; refine (put_any _ w.heap.size (w.heap.size + 1) _ [wLabel, (txWho d.label wAny), wIn, (txWho d.wh wAll), wZoom] (some ⟨w8.heap.size, 0, none⟩) 5 (J8.out.alloc _).f (EOwn.block (M := [wLabel, (txWho d.label wAny), wIn, (txWho d.wh wAll), wZoom]) elS_ok (Blk.new w8 9 #[.string (bs wLabel), .string (bs (txWho d.label wAny)), .string (bs wIn), .string (bs (txWho d.wh wAll)), .string (bs wZoom)]) rfl (by simp)) (J8.out.alloc _).le (by simp)).mono ?_; intro e w9 hp; have K1 := ((J8.out.alloc _).put hp); have HS5 := Lib.hid K1; obtain ⟨rfl, hp⟩ := hp; have c11 := K1.k.cell 11; have c12 := K1.k.cell 12; have c13 := K1.k.cell 13; have c14 := K1.k.cell 14; have c15 := K1.k.cell 15; have c16 := K1.k.cell 16; have c17 := K1.k.cell 17; have c18 := K1.k.cell 18; have c19 := K1.k.cell 19; have c20 := K1.k.cell 20; simp only [dcells, List.getElem?_toArray, List.getElem?_cons_zero, List.getElem?_cons_succ] at c11 c12 c13 c14 c15 c16 c17 c18 c19 c20; clear hp K1))
  clear c11 c12 c13 c14 c15 c16 c17 c18 c19 c20 hz4 K0
  have c21 := HS5.out.k.cell 21
  simp only [dcells, List.getElem?_toArray, List.getElem?_cons_zero, List.getElem?_cons_succ] at c21
  have hz5 := HS5.out.k.lt
  go_wp2_with fail
  refine (putnums_any _ w.heap.size (w.heap.size + 1) _ [d.zoom] (some ⟨w9.heap.size, 0, none⟩) 1 (HVB.out _ (HS5.out.alloc _).b) (HS5.out.alloc _).f (EOwn.block (M := [d.zoom]) elI_ok (Blk.new w9 3 #[.int .i64 d.zoom]) rfl (by simp)) (HS5.out.alloc _).le (by simp) (fun n hn => by obtain rfl := List.mem_singleton.1 hn; exact HI.out.zoom) (fun w' hb => HVB.out _ ((HS5.out.alloc _).b.trans hb))).mono ?_
  intro e W10 hp
  have HS6 := Lib.hid ((HS5.out.alloc _).put hp)
  obtain ⟨rfl, hp⟩ := hp
  clear hp HS5 c21 hz5
  obtain ⟨v, hv1, hv2, hv3, _⟩ := HS6.out.f
  obtain ⟨A9, c9, rfl, _, _⟩ := hv2.slice
  have k9 := hv1.cell 0
  simp only [List.getElem?_toArray, List.getElem?_cons_zero] at k9
  have HFL := Lib.hid (show formL d = [] ++ [wAllow, wRole, (txWho d.role wAny), wTier, (txTiers d.lo d.hi)] ++ [wLabel, (txWho d.label wAny), wIn, (txWho d.wh wAll), wZoom] ++ [d.zoom].map Lib.itoa by simp [formL, HKD.out, List.map])
  have HO := Lib.hid hv2
  have HFAR := Lib.hid hv3
  clear hv1 hv2 hv3
  go_wp2_with fail
  go_ret
  exact ⟨_, rfl, by rw [HFL.out]; exact HO.out, HFAR.out, HS6.out.b⟩
set_option maxRecDepth 100000 in
set_option maxHeartbeats 8000000 in
theorem form_5 (w : World) (d : Dc) (bv : Value) (hV : Vs w) (hs : Hs w) (hd : DI d) (hk : d.k = 5) :
    Calls Tryz.prog 50 #[dV d bv] w (FormP d w) := by
  have HVB := Lib.hid (show ∀ w', Below w.heap.size w w' → Vs w' from fun w' hb => hV.below hb)
  have HS := Lib.hid (FSt.new w d bv)
  have HH := Lib.hid hs
  have HI := Lib.hid hd
  clear hV hs hd
  go_enter Tryz.func50, Tryz.ntmps50
  go_upto_region 2 with (fail)
  generalize ((w.alloc (.cells (dcells d bv).toArray 41)).alloc (.cells #[.slice none 0 0] 100)) = W at *
  have c0 := HS.out.k.cell 0
  simp only [dcells, List.getElem?_toArray, List.getElem?_cons_zero, List.getElem?_cons_succ] at c0
  rw [hk] at c0
  have hz := HS.out.k.lt
  have c4 := HS.out.k.cell 4
  have c5 := HS.out.k.cell 5
  have c6 := HS.out.k.cell 6
  have c7 := HS.out.k.cell 7
  have c8 := HS.out.k.cell 8
  have c9 := HS.out.k.cell 9
  have c10 := HS.out.k.cell 10
  simp only [dcells, List.getElem?_toArray, List.getElem?_cons_zero, List.getElem?_cons_succ] at c4 c5 c6 c7 c8 c9 c10
  have g1 : W.cell? ⟨0, 5, none⟩ = some (.string (bs wCap)) := (HH.out.low HS.out.b).h 5 (by omega)
  have HKD := Lib.hid hk
  clear hk
  go_wp2_with fail
  have K0 := HS.out
  have V0 := HVB.out
  have zg := World.new_ne _ _ g1
  go_region_held3 (fun w' => w'.cell? ⟨w.heap.size, 0, none⟩ = some (.int .i64 5) ∧ w'.cell? ⟨w.heap.size, 4, none⟩ = some (.bool d.role.any) ∧ w'.cell? ⟨w.heap.size, 5, none⟩ = some (.string (bs d.role.nm)) ∧ w'.cell? ⟨w.heap.size, 6, none⟩ = some (.int .i64 d.role.n) ∧ w'.cell? ⟨w.heap.size, 7, none⟩ = some (.int .i64 d.role.p.1) ∧ w'.cell? ⟨w.heap.size, 8, none⟩ = some (.int .i64 d.role.p.2) ∧ w'.cell? ⟨w.heap.size, 9, none⟩ = some (.int .i64 d.lo) ∧ w'.cell? ⟨w.heap.size, 10, none⟩ = some (.int .i64 d.hi) ∧ w'.cell? ⟨0, 5, none⟩ = some (.string (bs wCap))) (first | (refine ⟨?_, ?_, ?_, ?_, ?_, ?_, ?_, ?_, ?_⟩ <;> first | assumption | exact cell_alloc (by assumption) _) | go_keep) (first | (go_at_call 93; refine (txwho_any d.role wAny _ (V0 _ (by first | exact K8.out.b | exact K8.out.drew.b | exact K0.b | exact K0.drew.b)) HI.out.role).mono ?_; rintro e w8 ⟨rfl, hb8⟩; have K1 : FSt w w8 d bv [] := (by first | exact K8.out.below hb8 | exact K8.out.drew.below hb8 | exact K0.below hb8 | exact K0.drew.below hb8); have K8 := Lib.hid K1; have c0 := K1.k.cell 0; have c4 := K1.k.cell 4; have c5 := K1.k.cell 5; have c6 := K1.k.cell 6; have c7 := K1.k.cell 7; have c8 := K1.k.cell 8; have c9 := K1.k.cell 9; have c10 := K1.k.cell 10; simp only [dcells, List.getElem?_toArray, List.getElem?_cons_zero, List.getElem?_cons_succ] at c0 c4 c5 c6 c7 c8 c9 c10; rw [HKD.out] at c0; have g1 := (HH.out.low K1.b).h 5 (by omega); have zg := World.new_ne _ _ g1; clear hb8 K1) | (go_at_call 94; refine (txtiers_any d.lo d.hi _ (V0 _ (by first | exact K8.out.b | exact K8.out.drew.b | exact K0.b | exact K0.drew.b)) HI.out.lo HI.out.hi).mono ?_; rintro e w8 ⟨rfl, hb8⟩; have K1 : FSt w w8 d bv [] := (by first | exact K8.out.below hb8 | exact K8.out.drew.below hb8 | exact K0.below hb8 | exact K0.drew.below hb8); have K8 := Lib.hid K1; have c0 := K1.k.cell 0; have c4 := K1.k.cell 4; have c5 := K1.k.cell 5; have c6 := K1.k.cell 6; have c7 := K1.k.cell 7; have c8 := K1.k.cell 8; have c9 := K1.k.cell 9; have c10 := K1.k.cell 10; simp only [dcells, List.getElem?_toArray, List.getElem?_cons_zero, List.getElem?_cons_succ] at c0 c4 c5 c6 c7 c8 c9 c10; rw [HKD.out] at c0; have g1 := (HH.out.low K1.b).h 5 (by omega); have zg := World.new_ne _ _ g1; clear hb8 K1) | (go_at_call 91; refine (put_any _ w.heap.size (w.heap.size + 1) [] [wCap, wRole, (txWho d.role wAny), wTier, (txTiers d.lo d.hi)] (some ⟨w8.heap.size, 0, none⟩) 5 (K8.out.alloc _).f (EOwn.block (M := [wCap, wRole, (txWho d.role wAny), wTier, (txTiers d.lo d.hi)]) elS_ok (Blk.new w8 9 #[.string (bs wCap), .string (bs wRole), .string (bs (txWho d.role wAny)), .string (bs wTier), .string (bs (txTiers d.lo d.hi))]) rfl (by simp)) (K8.out.alloc _).le (by simp)).mono ?_; intro e w9 hp; have K1 := ((K8.out.alloc _).put hp); have HS4 := Lib.hid K1; obtain ⟨rfl, hp⟩ := hp; have c0 := K1.k.cell 0; have c4 := K1.k.cell 4; have c5 := K1.k.cell 5; have c6 := K1.k.cell 6; have c7 := K1.k.cell 7; have c8 := K1.k.cell 8; have c9 := K1.k.cell 9; have c10 := K1.k.cell 10; simp only [dcells, List.getElem?_toArray, List.getElem?_cons_zero, List.getElem?_cons_succ] at c0 c4 c5 c6 c7 c8 c9 c10; rw [HKD.out] at c0; have g1 := (HH.out.low K1.b).h 5 (by omega); have zg := World.new_ne _ _ g1; clear hp K1))
  clear K0 zg g1 c0 c4 c5 c6 c7 c8 c9 c10 hz
  have F4 := HS4.out
  have c11 := F4.k.cell 11; have c12 := F4.k.cell 12; have c13 := F4.k.cell 13; have c14 := F4.k.cell 14; have c15 := F4.k.cell 15; have c16 := F4.k.cell 16; have c17 := F4.k.cell 17; have c18 := F4.k.cell 18; have c19 := F4.k.cell 19; have c20 := F4.k.cell 20; simp only [dcells, List.getElem?_toArray, List.getElem?_cons_zero, List.getElem?_cons_succ] at c11 c12 c13 c14 c15 c16 c17 c18 c19 c20; have hz4 := F4.k.lt
  clear F4
  go_wp2_with fail
  have K0 := HS4.out
  have HWL := Lib.hid (show ∀ W, Vs W → Calls Tryz.prog 93 #[.agg #[.bool d.label.any, .string (bs d.label.nm), .int .i64 d.label.n, .int .i64 d.label.p.1, .int .i64 d.label.p.2], .string ⟨#[97, 110, 121]⟩] W fun e w' => e = .returned (.string (bs (txWho d.label wAny))) ∧ Below W.heap.size W w' from fun W hv => txwho_any d.label wAny W hv HI.out.label)
  have HWW := Lib.hid (show ∀ W, Vs W → Calls Tryz.prog 93 #[.agg #[.bool d.wh.any, .string (bs d.wh.nm), .int .i64 d.wh.n, .int .i64 d.wh.p.1, .int .i64 d.wh.p.2], .string ⟨#[97, 108, 108]⟩] W fun e w' => e = .returned (.string (bs (txWho d.wh wAll))) ∧ Below W.heap.size W w' from fun W hv => txwho_any d.wh wAll W hv HI.out.wh)
  go_region_held3 (fun w' => w'.cell? ⟨w.heap.size, 11, none⟩ = some (.bool d.label.any) ∧ w'.cell? ⟨w.heap.size, 12, none⟩ = some (.string (bs d.label.nm)) ∧ w'.cell? ⟨w.heap.size, 13, none⟩ = some (.int .i64 d.label.n) ∧ w'.cell? ⟨w.heap.size, 14, none⟩ = some (.int .i64 d.label.p.1) ∧ w'.cell? ⟨w.heap.size, 15, none⟩ = some (.int .i64 d.label.p.2) ∧ w'.cell? ⟨w.heap.size, 16, none⟩ = some (.bool d.wh.any) ∧ w'.cell? ⟨w.heap.size, 17, none⟩ = some (.string (bs d.wh.nm)) ∧ w'.cell? ⟨w.heap.size, 18, none⟩ = some (.int .i64 d.wh.n) ∧ w'.cell? ⟨w.heap.size, 19, none⟩ = some (.int .i64 d.wh.p.1) ∧ w'.cell? ⟨w.heap.size, 20, none⟩ = some (.int .i64 d.wh.p.2)) (first | (refine ⟨?_, ?_, ?_, ?_, ?_, ?_, ?_, ?_, ?_, ?_⟩ <;> first | assumption | exact cell_alloc (by assumption) _) | go_keep) (first | (go_at_call 93; with_reducible refine Calls.mono (HWL.out _ ?_) ?_; (first | exact V0 _ J8.out.b | exact V0 _ J8.out.drew.b | exact V0 _ K0.b | exact V0 _ K0.drew.b); rintro e w8 ⟨rfl, hb8⟩; have K1 : FSt w w8 d bv _ := (by first | exact J8.out.below hb8 | exact J8.out.drew.below hb8 | exact K0.below hb8 | exact K0.drew.below hb8); have J8 := Lib.hid K1; have c11 := K1.k.cell 11; have c12 := K1.k.cell 12; have c13 := K1.k.cell 13; have c14 := K1.k.cell 14; have c15 := K1.k.cell 15; have c16 := K1.k.cell 16; have c17 := K1.k.cell 17; have c18 := K1.k.cell 18; have c19 := K1.k.cell 19; have c20 := K1.k.cell 20; simp only [dcells, List.getElem?_toArray, List.getElem?_cons_zero, List.getElem?_cons_succ] at c11 c12 c13 c14 c15 c16 c17 c18 c19 c20; clear hb8 K1) | (go_at_call 93; with_reducible refine Calls.mono (HWW.out _ ?_) ?_; (first | exact V0 _ J8.out.b | exact V0 _ J8.out.drew.b | exact V0 _ K0.b | exact V0 _ K0.drew.b); rintro e w8 ⟨rfl, hb8⟩; have K1 : FSt w w8 d bv _ := (by first | exact J8.out.below hb8 | exact J8.out.drew.below hb8 | exact K0.below hb8 | exact K0.drew.below hb8); have J8 := Lib.hid K1; have c11 := K1.k.cell 11; have c12 := K1.k.cell 12; have c13 := K1.k.cell 13; have c14 := K1.k.cell 14; have c15 := K1.k.cell 15; have c16 := K1.k.cell 16; have c17 := K1.k.cell 17; have c18 := K1.k.cell 18; have c19 := K1.k.cell 19; have c20 := K1.k.cell 20; simp only [dcells, List.getElem?_toArray, List.getElem?_cons_zero, List.getElem?_cons_succ] at c11 c12 c13 c14 c15 c16 c17 c18 c19 c20; clear hb8 K1) | (go_at_call 91; refine (put_any _ w.heap.size (w.heap.size + 1) _ [wLabel, (txWho d.label wAny), wIn, (txWho d.wh wAll), wZoom] (some ⟨w8.heap.size, 0, none⟩) 5 (J8.out.alloc _).f (EOwn.block (M := [wLabel, (txWho d.label wAny), wIn, (txWho d.wh wAll), wZoom]) elS_ok (Blk.new w8 9 #[.string (bs wLabel), .string (bs (txWho d.label wAny)), .string (bs wIn), .string (bs (txWho d.wh wAll)), .string (bs wZoom)]) rfl (by simp)) (J8.out.alloc _).le (by simp)).mono ?_; intro e w9 hp; have K1 := ((J8.out.alloc _).put hp); have HS5 := Lib.hid K1; obtain ⟨rfl, hp⟩ := hp; have c11 := K1.k.cell 11; have c12 := K1.k.cell 12; have c13 := K1.k.cell 13; have c14 := K1.k.cell 14; have c15 := K1.k.cell 15; have c16 := K1.k.cell 16; have c17 := K1.k.cell 17; have c18 := K1.k.cell 18; have c19 := K1.k.cell 19; have c20 := K1.k.cell 20; simp only [dcells, List.getElem?_toArray, List.getElem?_cons_zero, List.getElem?_cons_succ] at c11 c12 c13 c14 c15 c16 c17 c18 c19 c20; clear hp K1))
  clear c11 c12 c13 c14 c15 c16 c17 c18 c19 c20 hz4 K0
  have c21 := HS5.out.k.cell 21
  simp only [dcells, List.getElem?_toArray, List.getElem?_cons_zero, List.getElem?_cons_succ] at c21
  have hz5 := HS5.out.k.lt
  go_wp2_with fail
  refine (putnums_any _ w.heap.size (w.heap.size + 1) _ [d.zoom] (some ⟨w9.heap.size, 0, none⟩) 1 (HVB.out _ (HS5.out.alloc _).b) (HS5.out.alloc _).f (EOwn.block (M := [d.zoom]) elI_ok (Blk.new w9 3 #[.int .i64 d.zoom]) rfl (by simp)) (HS5.out.alloc _).le (by simp) (fun n hn => by obtain rfl := List.mem_singleton.1 hn; exact HI.out.zoom) (fun w' hb => HVB.out _ ((HS5.out.alloc _).b.trans hb))).mono ?_
  intro e W10 hp
  have HS6 := Lib.hid ((HS5.out.alloc _).put hp)
  obtain ⟨rfl, hp⟩ := hp
  clear hp HS5 c21 hz5
  obtain ⟨v, hv1, hv2, hv3, _⟩ := HS6.out.f
  obtain ⟨A9, c9, rfl, _, _⟩ := hv2.slice
  have k9 := hv1.cell 0
  simp only [List.getElem?_toArray, List.getElem?_cons_zero] at k9
  have HFL := Lib.hid (show formL d = [] ++ [wCap, wRole, (txWho d.role wAny), wTier, (txTiers d.lo d.hi)] ++ [wLabel, (txWho d.label wAny), wIn, (txWho d.wh wAll), wZoom] ++ [d.zoom].map Lib.itoa by simp [formL, HKD.out, List.map])
  have HO := Lib.hid hv2
  have HFAR := Lib.hid hv3
  clear hv1 hv2 hv3
  go_wp2_with fail
  go_ret
  exact ⟨_, rfl, by rw [HFL.out]; exact HO.out, HFAR.out, HS6.out.b⟩
set_option maxRecDepth 100000 in
set_option maxHeartbeats 8000000 in
theorem form_no (w : World) (d : Dc) (bv : Value) (h1 : d.k ≠ 1) (h2 : d.k ≠ 2) (h3 : d.k ≠ 3) (h4 : d.k ≠ 4) (h5 : d.k ≠ 5) (h6 : d.k ≠ 6) :
    Calls Tryz.prog 50 #[dV d bv] w (FormP d w) := by
  have HS := Lib.hid (FSt.new w d bv)
  have HFL := Lib.hid (show formL d = [] by simp [formL, h1, h2, h3, h4, h5, h6])
  have e1 : (d.k == 1) = false := beq_eq_false_iff_ne.2 h1
  have e2 : (d.k == 2) = false := beq_eq_false_iff_ne.2 h2
  have e3 : (d.k == 3) = false := beq_eq_false_iff_ne.2 h3
  have e4 : (d.k == 4) = false := beq_eq_false_iff_ne.2 h4
  have e5 : (d.k == 5) = false := beq_eq_false_iff_ne.2 h5
  have e6 : (d.k == 6) = false := beq_eq_false_iff_ne.2 h6
  clear h1 h2 h3 h4 h5 h6
  go_enter Tryz.func50, Tryz.ntmps50
  go_upto_region 2 with (fail)
  generalize ((w.alloc (.cells (dcells d bv).toArray 41)).alloc (.cells #[.slice none 0 0] 100)) = W at *
  have c0 := HS.out.k.cell 0
  simp only [dcells, List.getElem?_toArray, List.getElem?_cons_zero, List.getElem?_cons_succ] at c0
  have hz := HS.out.k.lt
  obtain ⟨v, hv1, hv2, hv3, _⟩ := HS.out.f
  obtain ⟨A9, c9, rfl, _, _⟩ := hv2.slice
  have k9 := hv1.cell 0
  simp only [List.getElem?_toArray, List.getElem?_cons_zero] at k9
  have HO := Lib.hid hv2
  have HFAR := Lib.hid hv3
  clear hv1 hv2 hv3
  go_wp2_with fail
  go_ret
  exact ⟨_, rfl, by rw [HFL.out]; exact HO.out, HFAR.out, HS.out.b⟩
theorem form_any (w : World) (d : Dc) (bv : Value) (hV : Vs w) (hs : Hs w) (hd : DI d) (hrd : ERd elR w bv d.bx) (hbl : d.bx.length ≤ 100000) :
    Calls Tryz.prog 50 #[dV d bv] w (FormP d w) := by
  by_cases h1 : d.k = 1
  · exact form_1 w d bv hV hs hd h1
  by_cases h2 : d.k = 2
  · exact form_2 w d bv hV hs hd h2
  by_cases h3 : d.k = 3
  · exact form_3 w d bv hV hs hd h3 hrd hbl
  by_cases h4 : d.k = 4
  · exact form_4 w d bv hV hs hd h4
  by_cases h5 : d.k = 5
  · exact form_5 w d bv hV hs hd h5
  by_cases h6 : d.k = 6
  · exact form_6 w d bv hV hs hd h6
  exact form_no w d bv h1 h2 h3 h4 h5 h6
end Go.Proofs.YtkpmeelbjldcoaaGreatDoor
