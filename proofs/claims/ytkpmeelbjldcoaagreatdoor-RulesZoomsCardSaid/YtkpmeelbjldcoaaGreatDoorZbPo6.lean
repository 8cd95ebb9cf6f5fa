/- Texts: Po6. -/
import Derived.Test.YtkpmeelbjldcoaaGreatDoorZbPo5
import Derived.Deep.MidRow
namespace Go.Proofs.YtkpmeelbjldcoaaGreatDoor
set_option linter.unusedVariables false
set_option linter.unusedSimpArgs false
open Go.RowKit
/-- Nothing is read twice. -/
theorem takesL_le (s : Bs) (L : List Tk) : (takesL s L).length ≤ L.length := by unfold takesL; split <;> simp
theorem whoW_le (L : List Tk) (w : Wh) : (whoW L w).2.1.length ≤ L.length := by
  unfold whoW
  split
  · simp
  · split
    · simp
    · exact kindL_le _ _
theorem whereW_le (L : List Tk) (w : Wh) : (whereW L w).2.1.length ≤ L.length := by
  unfold whereW
  split
  · simp
  · exact kindL_le _ _
theorem tiersM_le (q : PS) : (tiersM q).2.1.length ≤ q.1.length := by
  unfold tiersM
  split
  · simp
  · split
    · split
      · refine Nat.le_trans (kindL_le _ _) ?_; simp; omega
      · simp
    · exact Nat.le_refl _
theorem fourL_le (L : List Tk) : (fourL L).length ≤ L.length := by
  unfold fourL
  split
  · split
    · split
      · refine Nat.le_trans (kindL_le _ _) ?_; simp; omega
      · simp; omega
    · simp
  · exact Nat.le_refl _
theorem boxesF_le : ∀ n L a, (boxesF n L a).2.1.length ≤ L.length := by
  intro n
  induction n with
  | zero => intro L a; exact Nat.le_refl _
  | succ n ih =>
    intro L a
    have h1 := fourL_le L
    unfold boxesF
    split
    · split
      · refine Nat.le_trans (ih _ _) ?_; simp; omega
      · exact h1
    · exact h1
theorem andM_le {f g : PM} (hf : ∀ q, (f q).2.1.length ≤ q.1.length) (hg : ∀ q, (g q).2.1.length ≤ q.1.length) (q : PS) : (andM f g q).2.1.length ≤ q.1.length := by
  unfold andM
  split
  · exact Nat.le_trans (hg _) (hf _)
  · exact hf _
theorem takesM_le (s : Bs) (q : PS) : (takesM s q).2.1.length ≤ q.1.length := takesL_le s q.1
theorem afterM_le (s : Bs) {g : PM} (hg : ∀ q, (g q).2.1.length ≤ q.1.length) (q : PS) : (afterM s g q).2.1.length ≤ q.1.length := andM_le (takesM_le s) hg q
theorem bodyM_le (q : PS) : (bodyM q).2.1.length ≤ q.1.length := by
  have hN : ∀ q, (nmM q).2.1.length ≤ q.1.length := fun q => kindL_le _ _
  have hV : ∀ q, (valM q).2.1.length ≤ q.1.length := fun q => kindL_le _ _
  have hZ : ∀ q, (zoomM q).2.1.length ≤ q.1.length := fun q => kindL_le _ _
  have hB : ∀ q, (boxesM q).2.1.length ≤ q.1.length := fun q => boxesF_le _ _ _
  have hR : ∀ q, (roleM q).2.1.length ≤ q.1.length := fun q => whoW_le _ _
  have hL : ∀ q, (labelM q).2.1.length ≤ q.1.length := fun q => whoW_le _ _
  have hW : ∀ q, (whereM q).2.1.length ≤ q.1.length := fun q => whereW_le _ _
  unfold bodyM
  split
  · exact andM_le hN (afterM_le _ hV) q
  · split
    · exact andM_le hN (afterM_le _ hB) q
    · split
      · exact andM_le (afterM_le _ hR) (andM_le (afterM_le _ tiersM_le) (andM_le (afterM_le _ hL) (andM_le (afterM_le _ hW) (afterM_le _ hZ)))) q
      · split
        · exact afterM_le _ hR q
        · exact Nat.le_refl _
theorem headM_le (q : PS) : (headM q).2.1.length ≤ q.1.length := by
  unfold headM
  split <;> simp
theorem headM_bx (q : PS) : (headM q).2.2.bx = q.2.bx := by
  unfold headM
  split <;> rfl
/-- A row of declarations, each with its row of boxes. -/
structure RV where
  A : Option Addr
  n : Nat
  c : Nat
def RV.v (x : RV) : Value := .slice x.A x.n x.c
def elD : El (Dc × RV) := { T := 41, k := 24, by_ := 240, z := .agg (dcells (Dc.z (0, 0)) (.slice none 0 0)).toArray, enc := fun x => dcells x.1 x.2.v }
theorem elD_ok : elD.Ok := ⟨by decide, fun _ => rfl, fun x u hu => by simp only [elD, dcells, List.mem_cons, List.not_mem_nil, or_false] at hu; rcases hu with rfl | rfl | rfl | rfl | rfl | rfl | rfl | rfl | rfl | rfl | rfl | rfl | rfl | rfl | rfl | rfl | rfl | rfl | rfl | rfl | rfl | rfl | rfl | rfl <;> rfl, by kernel_rfl, rfl, by decide⟩
def DRow (w : World) (B : Nat) (v : Value) (L : List Dc) : Prop := ∃ acc : List (Dc × RV), acc.map (·.1) = L ∧ EOwn elD w v acc ∧ (∀ i, v.ownBlock = some i → B ≤ i) ∧ ∀ x ∈ acc, EOwn elR w x.2.v x.1.bx ∧ ∀ i, x.2.v.ownBlock = some i → B ≤ i
theorem DRow.nil_ (w : World) (B : Nat) : DRow w B (.slice none 0 0) [] := ⟨[], rfl, EOwn.nil_ w, fun i hi => by simp [Value.ownBlock] at hi, fun x hx => absurd hx (by simp)⟩
theorem DRow.but {w w' : World} {B r : Nat} {v : Value} {L : List Dc} (h : DRow w B v L) (hb : But r w w') (hr : r < B) : DRow w' B v L := by
  obtain ⟨acc, h1, h2, h3, h4⟩ := h
  exact ⟨acc, h1, h2.but hb (fun i hi => by have := h3 i hi; omega), h3, fun x hx => ⟨(h4 x hx).1.but hb (fun i hi => by have := (h4 x hx).2 i hi; omega), (h4 x hx).2⟩⟩
theorem DRow.below {w w' : World} {B : Nat} {v : Value} {L : List Dc} (h : DRow w B v L) (hb : Below w.heap.size w w') : DRow w' B v L := by
  obtain ⟨acc, h1, h2, h3, h4⟩ := h
  exact ⟨acc, h1, h2.below hb, h3, fun x hx => ⟨(h4 x hx).1.below hb, (h4 x hx).2⟩⟩
theorem DRow.le {w : World} {B B' : Nat} {v : Value} {L : List Dc} (h : DRow w B v L) (hb : B' ≤ B) : DRow w B' v L := by
  obtain ⟨acc, h1, h2, h3, h4⟩ := h
  exact ⟨acc, h1, h2, fun i hi => Nat.le_trans hb (h3 i hi), fun x hx => ⟨(h4 x hx).1, fun i hi => Nat.le_trans hb ((h4 x hx).2 i hi)⟩⟩
theorem EOwn.apart {α β : Type} {E : El α} {F : El β} (hT : E.T ≠ F.T) {w : World} {v u : Value} {L : List α} {M : List β} (h : EOwn E w v L) (k : EOwn F w u M) {i : Nat} (hi : v.ownBlock = some i) : u.ownBlock ≠ some i := by
  intro hj
  rcases h with ⟨rfl, _⟩ | ⟨g, cap, rfl, cur, h1, _⟩
  · simp [Value.ownBlock] at hi
  · rcases k with ⟨rfl, _⟩ | ⟨g', cap', rfl, cur', h1', _⟩
    · simp [Value.ownBlock] at hj
    · simp [Value.ownBlock] at hi hj
      subst hi; subst hj
      exact (Blk.ne_ h1 h1' hT) rfl
/-- One more. -/
theorem DRow.push {w w' : World} {B : Nat} {v v' : Value} {acc : List (Dc × RV)} {x : Dc × RV} (h2 : EOwn elD w v acc) (h3 : ∀ i, v.ownBlock = some i → B ≤ i) (h4 : ∀ x ∈ acc, EOwn elR w x.2.v x.1.bx ∧ ∀ i, x.2.v.ownBlock = some i → B ≤ i)
    (hx : EOwn elR w x.2.v x.1.bx) (hf : ∀ i, x.2.v.ownBlock = some i → B ≤ i) (hB : B ≤ w.heap.size) (hA : EAppended elD v (acc ++ [x]) w v' w') : EOwn elD w' v' (acc ++ [x]) ∧ (∀ i, v'.ownBlock = some i → B ≤ i) ∧ ∀ y ∈ acc ++ [x], EOwn elR w' y.2.v y.1.bx ∧ ∀ i, y.2.v.ownBlock = some i → B ≤ i := by
  refine ⟨hA.own, hA.far hB h3, fun y hy => ?_⟩
  have hy' : EOwn elR w y.2.v y.1.bx ∧ ∀ i, y.2.v.ownBlock = some i → B ≤ i := by
    rcases List.mem_append.1 hy with h | h
    · exact h4 y h
    · obtain rfl := List.mem_singleton.1 h
      exact ⟨hx, hf⟩
  refine ⟨hy'.1.keep fun i hi e => hA.keep hi fun e2 => EOwn.apart (by decide) h2 hy'.1 e2 e, hy'.2⟩
/-- all's rounds. -/
structure AllSt (w : World) (r : Nat) (L0 : List Tk) (g : Nat) (L : List Tk) (d : Dc) (bv : Value) (acc : List (Dc × RV)) (v : Value) (wr : World) : Prop where
  rd : PRd wr r L d bv
  own : EOwn elD wr v acc
  far : ∀ i, v.ownBlock = some i → w.heap.size ≤ i
  rows : ∀ x ∈ acc, EOwn elR wr x.2.v x.1.bx ∧ ∀ i, x.2.v.ownBlock = some i → w.heap.size ≤ i
  but : But r w wr
  few : acc.length + L.length ≤ L0.length
  eq : allF (L0.length + 1) L0 [] = allF g L (acc.map (·.1))
  fuel : L.length < g
def AllQ (w : World) (r : Nat) (L0 : List Tk) (e : Ending) (w' : World) : Prop :=
  ∃ v d bv, e = .returned (.tuple #[v, .bool (allP L0).1]) ∧ PRd w' r (allP L0).2.1 d bv ∧ DRow w' w.heap.size v (if (allP L0).1 = true then (allP L0).2.2 else []) ∧ But r w w'
theorem Hs.but {w w' : World} {r : Nat} (h : Hs w) (hb : But r w w') (hr : 0 ≠ r) : Hs w' := ⟨fun i hi => cell_block (h.h i hi) fun hl => hb.block _ hl hr⟩
def setsA (cs : Array Value) : Nat → List Value → Array Value
  | _, [] => cs
  | i, v :: vs => setsA (cs.set! i v) (i + 1) vs
theorem Blk.sets {r : Nat} {t : TypeId} : ∀ (vs : List Value) (w : World) (cs : Array Value) (i : Nat), Blk w r t cs → Blk (w.setCells r i vs) r t (setsA cs i vs) := by
  intro vs
  induction vs with
  | nil => intro w cs i h; exact h
  | cons v vs ih => intro w cs i h; exact ih _ _ _ (h.set_ i v)
theorem But.sets {r : Nat} : ∀ (vs : List Value) (w : World) (i : Nat), But r w (w.setCells r i vs) := by
  intro vs
  induction vs with
  | nil => intro w i; exact But.refl _ _
  | cons v vs ih => intro w i; exact (But.set w i v).trans (ih _ _)
theorem PRd.fresh {w : World} {r : Nat} {L : List Tk} {d : Dc} {bv : Value} (h : PRd w r L d bv) (p : Pl) : PRd (w.setCells r 1 (dcells (Dc.z p) (.slice none 0 0))) r L (Dc.z p) (.slice none 0 0) := by
  obtain ⟨lv, h1, h2⟩ := h
  have e : setsA (rcells lv d bv) 1 (dcells (Dc.z p) (.slice none 0 0)) = rcells lv (Dc.z p) (.slice none 0 0) := by simp [setsA, dcells, rcells]
  have h3 := Blk.sets (dcells (Dc.z p) (.slice none 0 0)) _ _ 1 h1
  rw [e] at h3
  exact ⟨lv, h3, h2.but (But.sets _ _ _)⟩
theorem But.belowB {r : Nat} {w a b : World} (h : But r w a) (k : Below w.heap.size a b) : But r w b := ⟨k.os.trans h.os, k.tape.trans h.tape, k.output.trans h.output, Nat.le_trans h.size k.size, fun i hi hr => (k.block i hi).trans (h.block i hi hr)⟩
theorem PRd.low {w w' : World} {r : Nat} {L : List Tk} {d : Dc} {bv : Value} (h : PRd w r L d bv) (hk : ∀ k, k ≤ r → w'.heap[k]? = w.heap[k]?) : PRd w' r L d bv := by
  obtain ⟨lv, h1, h2⟩ := h
  exact ⟨lv, (hk r (Nat.le_refl _)).trans h1, h2.low fun k hk' => hk k (by omega)⟩
theorem But.of_appended {α : Type} {E : El α} {B : Nat} {w w' : World} {v v' : Value} {L : List α} (hA : EAppended E v L w v' w') (hB : B ≤ w.heap.size) (hv : ∀ i, v.ownBlock = some i → B ≤ i) : Below B w w' := (hA.below hB hv).1
theorem headM_lt {q : PS} (h : (headM q).1 = true) : (headM q).2.1.length + 1 = q.1.length := by
  unfold headM at h ⊢
  cases hF : headF q.1 with
  | none => simp [hF] at h
  | some k =>
    simp only
    unfold headF at hF
    have h2 : takesB (headsL.getD k []) q.1 = true := by simpa using List.find?_some hF
    exact takes_cons h2
theorem dcells_one (d : Dc) {bv : Value} (h : bv.oneCell' = true) : (dcells d bv).toArray.all (·.oneCell') = true :=
  all_oneCell_toArray fun v hv => by
    simp only [dcells, List.mem_cons, List.not_mem_nil, or_false] at hv
    rcases hv with rfl | rfl | rfl | rfl | rfl | rfl | rfl | rfl | rfl | rfl | rfl | rfl | rfl | rfl | rfl | rfl | rfl | rfl | rfl | rfl | rfl | rfl | rfl | rfl <;> first | rfl | exact h
theorem PRd.there {w : World} {r : Nat} {L : List Tk} {d : Dc} {bv : Value} (h : PRd w r L d bv) : w.there r 1 24 := by
  obtain ⟨lv, h1, h2⟩ := h
  intro j hj
  refine ⟨?_, h1.frozen _⟩
  rw [Blk.cell h1 (1 + j)]
  have hs : 1 + j < (rcells lv d bv).size := by simp [rcells]; omega
  rw [Array.getElem?_eq_getElem hs]
  rfl
theorem PRd.range {w : World} {r : Nat} {L : List Tk} {d : Dc} {bv : Value} (h : PRd w r L d bv) : w.rangeAt r 1 (dcells d bv) := by
  obtain ⟨lv, h1, h2⟩ := h
  intro j v hv
  rw [Blk.cell h1 (1 + j), ← hv]
  have e : rcells lv d bv = (lv :: dcells d bv).toArray := rfl
  rw [e, List.getElem?_toArray, Nat.add_comm, List.getElem?_cons_succ]
set_option maxRecDepth 100000 in
set_option maxHeartbeats 8000000 in
theorem pall_any (w : World) (r : Nat) (L0 : List Tk) (d0 : Dc) (bv0 : Value) (h : PRd w r L0 d0 bv0) (hs : Hs w) (hr : 0 ≠ r) (hl : L0.length ≤ 100000) :
    Calls Tryz.prog 46 #[ptr r] w (AllQ w r L0) := by
  have HST := Lib.hid (show AllSt w r L0 (L0.length + 1) L0 d0 bv0 [] (.slice none 0 0) w from ⟨h, EOwn.nil_ w, fun i hi => by simp [Value.ownBlock] at hi, fun x hx => absurd hx (by simp), But.refl _ _, by simp, rfl, Nat.lt_succ_self _⟩)
  have HRL := Lib.hid (show r < w.heap.size by obtain ⟨lv, h1, _⟩ := h; exact h1.lt)
  have HS0 := Lib.hid hs
  have HRG := Lib.hid hr
  have HLN := Lib.hid hl
  clear h hs hr hl
  go_enter Tryz.func46, Tryz.ntmps46
  go_wp2_with fail
  go_loopg [4] (L0.length + 1) (fun g v wr => ∃ (L : List Tk) (d : Dc) (bv : Value) (acc : List (Dc × RV)) (v0 : Value), v = v0 ∧ Hid (AllSt w r L0 g L d bv acc v0 wr))
  case atStart => exact ⟨L0, d0, bv0, [], _, rfl, HST⟩
  case round =>
    clear HST
    obtain ⟨L, d, bv, acc, v, hv, HS⟩ := hrel
    subst hv
    obtain ⟨g', hg⟩ : ∃ g', gk = g' + 1 := ⟨gk - 1, by have := HS.out.fuel; omega⟩
    subst hg
    cases L with
    | nil =>
      obtain ⟨A1, c1, hc1, hK⟩ := HS.out.rd.left0
      have k0 : _ = some (Value.slice A1 0 c1) := Blk.cell hK 0
      have HM := Lib.hid (show allP L0 = (true, [], acc.map (·.1)) from HS.out.eq)
      clear hK
      go_wp2_with fail
      refine bodyPost_ret (v := .tuple #[_, .bool true]) ?_ rfl ⟨_, d, bv, by rw [HM.out], by rw [HM.out]; exact HS.out.rd, by rw [HM.out]; exact ⟨acc, rfl, HS.out.own, HS.out.far, HS.out.rows⟩, HS.out.but⟩
      simp [results, Tryz.results46, go_sem, *]
    | cons x L =>
      obtain ⟨lv, hK, hL⟩ := id HS.out.rd
      obtain ⟨gt, ot, ct, rfl, hc1, hc2, hg, hcell, hnext⟩ := hL.next
      have c0 := Blk.cell hK 0
      simp only [rcells] at c0
      simp only [List.getElem?_toArray, List.getElem?_cons_zero] at c0
      have t3 : wr.cell? ⟨gt, ot + 3, none⟩ = some (.int .i64 x.p.1) := by simpa [elT] using hcell 3 _ rfl
      have t4 : wr.cell? ⟨gt, ot + 4, none⟩ = some (.int .i64 x.p.2) := by simpa [elT] using hcell 4 _ rfl
      have hz : decide (((L.length + 1 : Nat) : Int) > 0) = true := by simp
      have HTH := Lib.hid HS.out.rd.there
      have HP0 := Lib.hid (HS.out.rd.fresh x.p)
      have HB0 := Lib.hid (HS.out.but.trans (But.sets (dcells (Dc.z x.p) (.slice none 0 0)) wr 1))
      clear hK hL hcell hnext
      go_wp2_with ((refine wpList_store_mid rfl 41 _ _ rfl r 1 (dcells (Dc.z x.p) (.slice none 0 0)).toArray ?hx ?hy ?ht ?hi ?h1 ?_))
      case hx => rfl
      case hy => rfl
      case ht => exact HTH.out
      case hi => kernel_rfl
      case h1 => exact dcells_one (Dc.z x.p) rfl
      have HP0' : Hid (PRd (wr.setCells r 1 (dcells (Dc.z x.p) (.slice none 0 0)).toArray.toList) r (x :: L) (Dc.z x.p) (.slice none 0 0)) := HP0
      have HB0' : Hid (But r w (wr.setCells r 1 (dcells (Dc.z x.p) (.slice none 0 0)).toArray.toList)) := HB0
      have HW0' : Hid (But r wr (wr.setCells r 1 (dcells (Dc.z x.p) (.slice none 0 0)).toArray.toList)) := Lib.hid (But.sets (dcells (Dc.z x.p) (.slice none 0 0)) wr 1)
      clear HP0 HB0 HTH c0 t3 t4 hz
      generalize (wr.setCells r 1 (dcells (Dc.z x.p) (.slice none 0 0)).toArray.toList) = W0 at *
      have HD1 := Lib.hid (headM_bx (x :: L, Dc.z x.p))
      have HT1 := Lib.hid (fun h => headM_lt (q := (x :: L, Dc.z x.p)) h)
      have HT2 := Lib.hid (headM_le (x :: L, Dc.z x.p))
      refine (phead_any W0 r (x :: L) (Dc.z x.p) (.slice none 0 0) HP0'.out (HS0.out.but HB0'.out HRG.out)).mono ?_
      intro e W1 hq
      generalize hq1 : headM (x :: L, Dc.z x.p) = q1 at *
      obtain ⟨rfl, hP1, hB1⟩ := hq
      obtain ⟨b1, L1, d1⟩ := q1
      have HQ1 := Lib.hid hq1
      have HP1 := Lib.hid hP1
      have HB1 := Lib.hid (HB0'.out.trans hB1)
      have HW1 := Lib.hid (HW0'.out.trans hB1)
      clear hq1 hP1 hB1 HP0' HB0' HW0'
      cases b1 with
      | false =>
        have hM : allP L0 = (false, L1, acc.map (·.1)) := by
          refine HS.out.eq.trans ?_
          simp [allF, oneM, andM, HQ1.out]
        go_wp2_with fail
        refine bodyPost_ret (v := .tuple #[.slice none 0 0, .bool false]) ?_ rfl ⟨_, d1, _, by rw [hM], by rw [hM]; exact HP1.out, by rw [hM]; exact DRow.nil_ _ _, HB1.out⟩
        simp [results, Tryz.results46, go_sem, *]
      | true =>
        have HZ1 := Lib.hid (show L1.length = L.length by have := HT1.out rfl; simp only [List.length_cons] at this; omega)
        have HDD : Hid (d1.bx = []) := Lib.hid HD1.out
        clear HT1 HT2 HD1
        go_wp2_with fail
        have HLE := Lib.hid (bodyM_le (L1, d1))
        refine (pbody_any W1 r L1 d1 HP1.out HDD.out (by have := HZ1.out; have := HS.out.few; have := HLN.out; simp only [List.length_cons] at *; omega)).mono ?_
        intro e W2 hq
        generalize hq2 : bodyM (L1, d1) = q2 at *
        obtain ⟨bv2, rfl, hP2, hO2, hF2, hB2⟩ := hq
        obtain ⟨b2, L2, d2⟩ := q2
        obtain ⟨A2, c2, e2, _, _⟩ := hO2.slice
        subst e2
        have HQ2 := Lib.hid hq2
        have HP2 := Lib.hid hP2
        have HO2 := Lib.hid hO2
        have HF2 := Lib.hid (show ∀ i, (Value.slice A2 d2.bx.length c2).ownBlock = some i → w.heap.size ≤ i from fun i hi => by have := hF2 i hi; have := HB1.out.size; omega)
        have HB2 := Lib.hid (HB1.out.trans hB2)
        have HW2 := Lib.hid (HW1.out.trans hB2)
        clear hq2 hP2 hO2 hF2 hB2 HP1 HB1 HW1 HDD
        cases b2 with
        | false =>
          have hM : allP L0 = (false, L2, acc.map (·.1)) := by
            refine HS.out.eq.trans ?_
            simp [allF, oneM, andM, HQ1.out, HQ2.out]
          go_wp2_with fail
          refine bodyPost_ret (v := .tuple #[.slice none 0 0, .bool false]) ?_ rfl ⟨_, d2, _, by rw [hM], by rw [hM]; exact HP2.out, by rw [hM]; exact DRow.nil_ _ _, HB2.out⟩
          simp [results, Tryz.results46, go_sem, *]
        | true =>
          go_wp2_with fail
          have hTK := takes_any W2 r L2 d2 (.slice A2 d2.bx.length c2) mEnd HP2.out
          cases hT : takesB mEnd L2 with
          | false =>
            rw [takesL_f hT, hT] at hTK
            have HTK := Lib.hid hTK
            have hM : allP L0 = (false, L2, acc.map (·.1)) := by
              refine HS.out.eq.trans ?_
              simp [allF, oneM, andM, HQ1.out, HQ2.out, takesM, hT, takesL_f hT]
            clear hTK hT
            refine HTK.out.mono ?_
            rintro e W3 ⟨rfl, hP3, hB3⟩
            have HP3 := Lib.hid hP3
            have HB3 := Lib.hid (HB2.out.trans hB3)
            clear hP3 hB3 HTK
            go_wp2_with fail
            refine bodyPost_ret (v := .tuple #[.slice none 0 0, .bool false]) ?_ rfl ⟨_, d2, _, by rw [hM], by rw [hM]; exact HP3.out, by rw [hM]; exact DRow.nil_ _ _, HB3.out⟩
            simp [results, Tryz.results46, go_sem, *]
          | true =>
            rw [takesL_t hT, hT] at hTK
            have HTK := Lib.hid hTK
            have HAF := Lib.hid (show allF (g' + 1) (x :: L) (acc.map (·.1)) = allF g' L2.tail (acc.map (·.1) ++ [d2]) by simp [allF, oneM, andM, HQ1.out, HQ2.out, takesM, hT, takesL_t hT])
            have HSZ := Lib.hid (takes_cons hT)
            clear hTK hT
            refine HTK.out.mono ?_
            rintro e W3 ⟨rfl, hP3, hB3⟩
            have HP3 := Lib.hid hP3
            have HB3 := Lib.hid (HB2.out.trans hB3)
            have HW3 := Lib.hid (HW2.out.trans hB3)
            have HO3 := Lib.hid (HO2.out.but hB3 (fun i hi => by have := HF2.out i hi; have := HRL.out; omega))
            have HOW := Lib.hid (HS.out.own.but HW3.out (fun i hi => by have := HS.out.far i hi; have := HRL.out; omega))
            clear hP3 hB3 HTK HP2 HB2 HW2 HO2
            have HRN := Lib.hid HP3.out.range
            have HAC := Lib.hid (show acc.length ≤ 1000000 by have := HS.out.few; have := HLN.out; omega)
            go_wp2_with ((first | (refine wpList_load_mid rfl 41 _ rfl r 1 ?hx [.int .i64 d2.k, .string (bs d2.nm), .int .i64 d2.n, .slice A2 d2.bx.length c2, .bool d2.role.any, .string (bs d2.role.nm), .int .i64 d2.role.n, .int .i64 d2.role.p.1, .int .i64 d2.role.p.2, .int .i64 d2.lo, .int .i64 d2.hi, .bool d2.label.any, .string (bs d2.label.nm), .int .i64 d2.label.n, .int .i64 d2.label.p.1, .int .i64 d2.label.p.2, .bool d2.wh.any, .string (bs d2.wh.nm), .int .i64 d2.wh.n, .int .i64 d2.wh.p.1, .int .i64 d2.wh.p.2, .int .i64 d2.zoom, .int .i64 d2.p.1, .int .i64 d2.p.2] ?d ?hc ?hu ?hd ?hi ?_) | (at_builtin; refine wpList_epush elD_ok rfl _ _ 22 rfl (by kernel_rfl) _ acc (d2, (⟨A2, d2.bx.length, c2⟩ : RV)) W3.heap.size 1 rfl rfl (HOW.out.alloc _) (fun j u hu => new_cell W3 _ _ j (by simpa [elD, dcells, RV.v] using hu)) HAC.out ?_; intro v' w4 hA)))
            case hx => rfl
            case hc => exact HRN.out
            case hu => exact Tryz.underlying41
            case hd => rfl
            case hi => kernel_rfl
            have hAL : Below W3.heap.size W3 (W3.alloc (.cells #[.int .i64 d2.k, .string (bs d2.nm), .int .i64 d2.n, .slice A2 d2.bx.length c2, .bool d2.role.any, .string (bs d2.role.nm), .int .i64 d2.role.n, .int .i64 d2.role.p.1, .int .i64 d2.role.p.2, .int .i64 d2.lo, .int .i64 d2.hi, .bool d2.label.any, .string (bs d2.label.nm), .int .i64 d2.label.n, .int .i64 d2.label.p.1, .int .i64 d2.label.p.2, .bool d2.wh.any, .string (bs d2.wh.nm), .int .i64 d2.wh.n, .int .i64 d2.wh.p.1, .int .i64 d2.wh.p.2, .int .i64 d2.zoom, .int .i64 d2.p.1, .int .i64 d2.p.2] 41)) := (Below.refl _ _).alloc (Nat.le_refl _) _
            have hB4 : w.heap.size ≤ (W3.alloc (.cells #[.int .i64 d2.k, .string (bs d2.nm), .int .i64 d2.n, .slice A2 d2.bx.length c2, .bool d2.role.any, .string (bs d2.role.nm), .int .i64 d2.role.n, .int .i64 d2.role.p.1, .int .i64 d2.role.p.2, .int .i64 d2.lo, .int .i64 d2.hi, .bool d2.label.any, .string (bs d2.label.nm), .int .i64 d2.label.n, .int .i64 d2.label.p.1, .int .i64 d2.label.p.2, .bool d2.wh.any, .string (bs d2.wh.nm), .int .i64 d2.wh.n, .int .i64 d2.wh.p.1, .int .i64 d2.wh.p.2, .int .i64 d2.zoom, .int .i64 d2.p.1, .int .i64 d2.p.2] 41)).heap.size := by have := HB3.out.size; have := hAL.size; omega
            have hP := DRow.push (x := (d2, (⟨A2, d2.bx.length, c2⟩ : RV))) (HOW.out.below hAL) HS.out.far (fun y hy => ⟨((HS.out.rows y hy).1.but HW3.out (fun i hi => by have := (HS.out.rows y hy).2 i hi; have := HRL.out; omega)).below hAL, (HS.out.rows y hy).2⟩) (HO3.out.below hAL) HF2.out hB4 hA
            have hK4 : ∀ k, k ≤ r → w4.heap[k]? = W3.heap[k]? := fun k hk => (hA.keep (by have := HB3.out.size; have := HRL.out; have := hAL.size; omega) (fun e => by have := HS.out.far k e; have := HRL.out; omega)).trans (hAL.block k (by have := HB3.out.size; have := HRL.out; omega))
            have HN := Lib.hid (show AllSt w r L0 g' L2.tail d2 _ (acc ++ [(d2, (⟨A2, d2.bx.length, c2⟩ : RV))]) v' w4 from ⟨HP3.out.low hK4, hP.1, hP.2.1, hP.2.2, (HB3.out.trans (But.of_below hAL)).belowB (But.of_appended hA hB4 HS.out.far), by have := HSZ.out; have := HZ1.out; have := HLE.out; have := HS.out.few; simp only [List.length_append, List.length_cons, List.length_nil] at *; omega, by rw [List.map_append]; exact HS.out.eq.trans HAF.out, by have := HSZ.out; have := HZ1.out; have := HLE.out; have := HS.out.fuel; simp only [List.length_cons] at *; omega⟩)
            clear hA hAL hB4 hP hK4
            go_wp2_with fail
            go_roundg g'
            case rel => exact ⟨_, _, _, _, _, rfl, HN⟩
            case measure => omega
end Go.Proofs.YtkpmeelbjldcoaaGreatDoor
