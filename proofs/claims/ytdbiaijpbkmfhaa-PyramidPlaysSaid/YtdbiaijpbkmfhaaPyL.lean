/- pyramid: the keys of a map as a row of one's own, in order. -/
import Derived.Test.YtdbiaijpbkmfhaaPyK
namespace Go.Proofs.Ytdbiaijpbkmfhaa
set_option linter.unusedVariables false
set_option linter.unusedSimpArgs false
open Go.RowKit Go.Shelf Go.Maps Go.Sort
attribute [local go_sem] Oper.semAt_some
theorem wpListIn_epush {α : Type} {E : El α} {F : Fence} {n : Nat} {w : World} {ops : Array Oper} {rest : List Oper} {o : Oper} {a : Act} {Q : Exit → Act → World → Prop} (hE : E.Ok) (hgd : o.guard = none) (s x : Operand) (t : TypeId)
    (ho : o.op = .call { callee := .builtin .append, args := #[s, x], argTypes := #[t, t] }) (ht : Try.prog.underlying t = some (.slice E.T)) (v : Value) (L : List α) (e : α) (b c : Nat) (hs : a.eval s = v) (hx : a.eval x = .slice (some ⟨b, 0, none⟩) 1 c)
    (h : EOwn E w v L) (h0 : ∀ j u, (E.enc e)[j]? = some u → w.cell? ⟨b, j, none⟩ = some u) (hl : L.length ≤ 1000000)
    (hK : ∀ v' w', EAppended E v (L ++ [e]) w v' w' → wpListIn F n Try.prog ops Q rest (a.put o.dst v') w') : wpListIn F n Try.prog ops Q (o :: rest) a w := by
  refine wpListIn_plain hgd fun K hK' => ?_
  obtain ⟨v', w', hrun, hA⟩ := run_epush (ty := o.type) (c := c) hE ht h h0 hl
  unfold Oper.wpIn
  refine ⟨?_, ?_⟩
  · simp [Oper.about, ho, resolve, Target.leads, Sem.run_pure]
  · rw [Oper.semAt_plain F _ _ (by rw [ho]; intro c hc'; cases hc')]
    simp [execOp, ho, resolve, invoke, builtin, hs, hx, hrun, Result.andThen]
    exact hK' _ _ (hK v' w' hA)
theorem EOwn.put {α : Type} {E : El α} {W : World} {v : Value} {L : List α} (h : EOwn E W v L) {D : Nat} {o : Obj} (hD : W.heap[D]? = some o) (ho : o.isCells = false) (o' : Obj) : EOwn E (W.putObj D o') v L :=
  h.keep fun i hi e => (grownBy_putObj' W D o').block i hi fun e' => by
    obtain rfl : i = D := by simpa using e'
    rcases h with ⟨rfl, _⟩ | ⟨g, cap, rfl, cur, h1, _⟩
    · simp [Value.ownBlock] at e
    · simp [Value.ownBlock] at e
      subst e
      rw [show W.heap[g]? = _ from h1] at hD
      cases hD; cases ho
/-- Behind an append to the row that a box holds. -/
structure PB {α : Type} (E : El α) (B b : Nat) (t : TypeId) (W w6 : World) (lv v2 : Value) (L : List α) : Prop where
  old : Boxed w6 b t lv
  box : Boxed (w6.setCell ⟨b, 0, none⟩ v2) b t v2
  own : EOwn E (w6.setCell ⟨b, 0, none⟩ v2) v2 L
  but6 : ∀ k, k < B → w6.heap[k]? = W.heap[k]?
  size6 : W.heap.size ≤ w6.heap.size
  far : ∀ i, v2.ownBlock = some i → B ≤ i
  oth : KeepsOthers W (w6.setCell ⟨b, 0, none⟩ v2)
  but : ∀ k, k < B → k ≠ b → (w6.setCell ⟨b, 0, none⟩ v2).heap[k]? = W.heap[k]?
  bel : Below 0 W (w6.setCell ⟨b, 0, none⟩ v2)
theorem PB.of {α : Type} {E : El α} {B b : Nat} {t : TypeId} {W w6 : World} {lv v2 : Value} {L : List α} {x : α} {o : Obj} (hb : Boxed W b t lv) (hO : EOwn E W lv L) (hfar : ∀ i, lv.ownBlock = some i → B ≤ i) (hbB : b < B) (hB : B ≤ W.heap.size) (hA : EAppended E lv (L ++ [x]) (W.alloc o) v2 w6) : PB E B b t W w6 lv v2 (L ++ [x]) := by
  have hlt := hb.lt
  have hk6 : ∀ k, k < B → w6.heap[k]? = W.heap[k]? := fun k hk => (hA.keep (by simp; omega) (fun e => by have := hfar k e; omega)).trans (Below.heap_alloc W o k (by omega))
  have hold : Boxed w6 b t lv := (hk6 b hbB).trans hb
  have hb6 := hA.below (B := B) (by simp; omega) hfar
  obtain ⟨g, cap, rfl, hr, hg, hor⟩ := id hA
  refine ⟨hold, hold.set _, hA.own.keep fun i hi e => Below.heap_setCell w6 ⟨b, 0, none⟩ _ i (fun e2 => by have := hb6.2 i e; simp at e2; omega), hk6, by have := hA.below0.size; simp at this; omega, hb6.2, ?_, fun k hk hkb => (Below.heap_setCell w6 ⟨b, 0, none⟩ _ k (by simpa using hkb)).trans (hk6 k hk), ?_⟩
  · refine (((KeepsOthers.alloc W o).trans (KeepsOthers.of_grownBy hg fun j o' ej hj => ?_)).trans (KeepsOthers.setCell _ _ _))
    rcases hO.below ((Below.refl _ W).alloc (Nat.le_refl _) o) with ⟨rfl, _⟩ | ⟨g', cap', rfl, cur, h1, _⟩
    · simp [Value.ownBlock] at ej
    · obtain rfl : g' = j := by simpa [Value.ownBlock] using ej
      rw [show (W.alloc o).heap[g']? = _ from h1] at hj
      cases hj; rfl
  · exact (((Below.refl 0 W).alloc (Nat.zero_le _) o).trans hA.below0).setCell (Nat.zero_le _) _
theorem ownFrom_eown {α β : Type} {E : El α} (B : Nat) (L : β → List α) (P : β → Value → Prop) (b : Nat) (t : TypeId) : OwnFrom B (fun s W => ∃ v, Boxed W b t v ∧ EOwn E W v (L s) ∧ P s v) := by
  rintro s X Y row ⟨v, hv, hr, hP⟩ hg hrow
  refine ⟨v, hv.kept hg (fun e' => ?_), hr.keep (fun i hi e => hg.block i hi fun e' => ?_), hP⟩
  · obtain ⟨_, o, ho, hc⟩ := hrow b e'.symm
    rw [show X.heap[b]? = _ from hv] at ho; cases ho; cases hc
  · obtain ⟨_, o, ho, hc⟩ := hrow i e'.symm
    rcases hr with ⟨rfl, _⟩ | ⟨g, cap, rfl, cur, h1, _⟩
    · simp [Value.ownBlock] at e
    · simp [Value.ownBlock] at e
      subst e
      rw [show X.heap[g]? = _ from h1] at ho; cases ho; cases hc
theorem new_cellU (w : World) (cs : Array Value) (t : TypeId) (i : Nat) {v : Value} (h : cs[i]? = some v) : (w.alloc (.cells cs t)).cell? ⟨w.heap.size, i, none⟩ = some v := by rw [(Blk.new w t cs).cell]; exact h
def elU6 : El Int := { T := 60, k := 1, by_ := 8, z := .int .u64 0, enc := fun x => [.int .u64 x] }
theorem elU6_ok : elU6.Ok := ⟨by decide, fun _ => rfl, fun x u hu => by simp only [elU6, List.mem_cons, List.not_mem_nil, or_false] at hu; rcases hu with rfl; rfl, by kernel_rfl, rfl, by decide⟩
theorem elU6_encs (L : List Int) : elU6.encs L = L.map (Value.int .u64) := by
  induction L with
  | nil => rfl
  | cons x r ih => rw [List.map_cons, ← ih]; rfl
set_option maxHeartbeats 1000000 in
theorem keys_any (m : Nat) (q : Option Nat) (w : World) : CallsIn Fence.wide m Try.prog 38 #[.map q] w fun e w' =>
    e = .returned (.func (.func 51) #[] #[.pointer (some ⟨w.heap.size, 0, none⟩)]) ∧ w' = w.alloc (.cells #[.map q] 55) := by
  refine callsIn_wide.2 ?_
  go_enter Try.func38, Try.ntmps38
  go_wp2
  go_ret
  exact ⟨by simp, rfl⟩
theorem keys_stops (m : Nat) (hm : 1 ≤ m) (bm b n c : Nat) (H : Int → Option Int) (w : World) (hM : MapP w b n H c) (cb : w.cell? ⟨bm, 0, none⟩ = some (.map (some b))) :
    SeqStopsK Fence.wide m Try.prog 51 #[.pointer (some ⟨bm, 0, none⟩)] (fun x : Int => #[.int .u64 x]) KeepsWalks (KeyR H) (fun _ => True) c w := fun l J Jx W hW hJ _ hY h0 => by
  have hbm := World.block_lt_of_cell? w _ cb
  simp only at hbm
  exact keys1_in m hm l bm b n c H J Jx W (hM.keep (hW.block b hM.lt)) ((hW.cell (p := ⟨bm, 0, none⟩) hbm).trans cb) hJ hY h0
set_option maxRecDepth 100000 in
set_option maxHeartbeats 1000000 in
theorem keys1_nil (m : Nat) (l bm : Nat) (J : List Int → World → Prop) (W : World) (hJ : AbidesFrom W.heap.size J) (hm : W.cell? ⟨bm, 0, none⟩ = some (.map none)) (h0 : J [] W) :
    CallsIn Fence.wide m Try.prog 51 #[.func (.yield l) #[] #[], .pointer (some ⟨bm, 0, none⟩)] W fun e W' => (∃ v, e = .returned v) ∧ J [] W' := by
  refine callsIn_of_wp Try.func51 rfl trivial ?_ rfl
  simp only [Try.ntmps51, List.size_toArray, List.length_cons, List.length_nil, Nat.reduceAdd, Nat.reduceSub, Array.replicate_succ, Array.replicate_zero, List.push_toArray, List.append_toArray, List.nil_append, List.cons_append]
  have hrg := run_range_nilMap (P := Try.prog) W 55 60 3 Try.underlying55
  have hnx : ∀ ty, (Instr.next (.pointer (some ⟨W.heap.size, 0, none⟩)) false ty).run Try.prog (W.alloc (.mapIter none 0 #[] 0)) = _ := fun ty => run_next_nilMap _ ty 0 0 #[]
  gi_wp2
  refine wpIn_loop_rounds 1 ?_
  rw [roundsIn_succ]
  gi_wp2
  go_end0
  exact ⟨⟨_, rfl⟩, hJ [] W _ none h0 (World.grownBy_alloc W _ none) (fun r e => by cases e)⟩
theorem keys_stops_nil (m : Nat) (bm : Nat) (w : World) (cb : w.cell? ⟨bm, 0, none⟩ = some (.map none)) :
    SeqStopsK Fence.wide m Try.prog 51 #[.pointer (some ⟨bm, 0, none⟩)] (fun x : Int => #[.int .u64 x]) KeepsWalks (KeyR (fun _ => none)) (fun _ => True) 0 w := fun l J Jx W hW hJ _ hY h0 => by
  have hbm := World.block_lt_of_cell? w _ cb
  simp only at hbm
  exact (keys1_nil m l bm J W hJ ((hW.cell (p := ⟨bm, 0, none⟩) hbm).trans cb) h0).mono fun e w2 ⟨h1, h2⟩ => ⟨h1, .inl ⟨[], ⟨List.nodup_nil, fun u hu => by simp at hu, fun u => by simp⟩, h2⟩⟩
def AseqP (H : Int → Option Int) (c : Nat) (w : World) (e : Ending) (w' : World) : Prop := ∃ v Ks, e = .returned v ∧ KeyR H Ks ∧ EOwn elU6 w' v Ks ∧ (∀ i, v.ownBlock = some i → w.heap.size ≤ i) ∧ Below w.heap.size w w'
set_option maxRecDepth 100000 in
set_option maxHeartbeats 8000000 in
theorem aseq_any (w : World) (bm c : Nat) (H : Int → Option Int) (hc : c ≤ 100000) (hq : ∀ W, Below w.heap.size w W → SeqStopsK Fence.wide 8 Try.prog 51 #[.pointer (some ⟨bm, 0, none⟩)] (fun x : Int => #[.int .u64 x]) KeepsWalks (KeyR H) (fun _ => True) c W) :
    Calls Try.prog 54 #[.slice none 0 0, .func (.func 51) #[] #[.pointer (some ⟨bm, 0, none⟩)]] w (AseqP H c w) := by
  have hro : Fence.wide.round = none := rfl
  refine (callsIn_wide (n := 9)).1 ?_
  refine callsIn_of_wp_marks Try.func54 rfl trivial ?_ rfl
  simp only [Try.ntmps54, List.size_toArray, List.length_cons, List.length_nil, Nat.reduceAdd, Nat.reduceSub, Array.replicate_succ, Array.replicate_zero, List.push_toArray, List.append_toArray, List.nil_append, List.cons_append]
  have HQ := Lib.hid hq
  clear hq
  gi_wp2
  have bL := Boxed.new w 71 (.slice none 0 0)
  have hB0 : Below w.heap.size w (w.alloc (.cells #[.slice none 0 0] 71)) := (Below.refl _ w).alloc (Nat.le_refl _) _
  have hsz : (w.alloc (.cells #[.slice none 0 0] 71)).heap.size = w.heap.size + 1 := by simp
  obtain ⟨W0, hW0⟩ : ∃ W0, w.alloc (.cells #[.slice none 0 0] 71) = W0 := ⟨_, rfl⟩
  rw [hW0] at bL hB0 hsz ⊢
  clear hW0
  refine wpIn_rangeFunc_ownG hro (by decide) (gf := 51) (lb := #[.pointer (some ⟨bm, 0, none⟩)]) rfl trivial (enters_of Try.func51 (by kernel_rfl) rfl)
    (HQ.out W0 hB0) KeepsWalks.trans (fun W l o o' _ h _ h2 => KeepsWalks.putObj o' h h2) (Below.refl _ _) (fun _ => rfl)
    (fun pre W => (∃ lv, Boxed W w.heap.size 71 lv ∧ EOwn elU6 W lv pre ∧ ∀ i, lv.ownBlock = some i → w.heap.size + 1 ≤ i) ∧ Below w.heap.size w W)
    (fun _ _ _ => False)
    (OwnFrom.and (ownFrom_eown _ _ (fun _ lv => ∀ i, lv.ownBlock = some i → w.heap.size + 1 ≤ i) _ _) (ownFrom_below (Nat.le_refl _) (by omega)))
    (fun _ _ _ _ _ hs _ _ => hs)
    ⟨⟨_, bL, EOwn.nil_ _, fun i hi => by simp [Value.ownBlock] at hi⟩, hB0⟩
    (fun x => { tmps := #[.slice none 0 0, .func (.func 51) #[] #[.pointer (some ⟨bm, 0, none⟩)], .pointer (some ⟨w.heap.size, 0, none⟩), undef, .slice none 0 0, .int .u64 x, .func (.func 51) #[] #[.pointer (some ⟨bm, 0, none⟩)], .int .u64 x, undef, undef, undef, undef, undef], defers := [] }) ?assign ?body ?done ?stop
  case assign =>
    intro l x W K hK
    gi_wp2
    simpa using hK
  case body =>
    rintro l pre x W ⟨⟨lv, bL1, hO1, hF1⟩, hB1⟩ hlt
    have hpl : pre.length ≤ 1000000 := by omega
    have hWs : w.heap.size + 1 ≤ W.heap.size := bL1.lt
    have HO1 := Lib.hid hO1
    have HF1 := Lib.hid hF1
    have HL1 := Lib.hid bL1
    have HBW := Lib.hid hB1
    have cL := bL1.cell
    have fL := bL1.frozen
    have zL := bL1.lt
    obtain ⟨A, c', e, _, _⟩ := hO1.slice
    obtain ⟨z, hz⟩ : ∃ z, z = pre.length := ⟨_, rfl⟩
    rw [← hz] at e
    subst e
    have HZ := Lib.hid hz
    clear hz hO1 hF1 bL1 hB1 hlt
    have HTY := Lib.hid (show Try.prog.underlying 71 = some (.slice elU6.T) from Try.underlying71)
    gi_wp2_with (gi_at_builtin; refine wpListIn_epush elU6_ok rfl (.tmp 8) (.tmp 10) _ rfl HTY.out (.slice A z c') pre x W.heap.size 1 rfl rfl (HO1.out.below ((Below.refl _ _).alloc (Nat.le_refl _) _)) (fun j u hu => new_cellU _ _ _ j (by simpa [elU6] using hu)) hpl ?_; intro v2 w6 hA; have HPB := Lib.hid (PB.of (B := w.heap.size + 1) HL1.out HO1.out HF1.out (by omega) hWs hA); obtain ⟨gg, cap2, rfl, -⟩ := hA; simp only [List.length_append, List.length_cons, List.length_nil, Nat.zero_add] at HPB ⊢; have q6 := HPB.out.old.cell; have f6 := HPB.out.old.frozen; have z6 := HPB.out.old.lt; have hs6 := HPB.out.size6; clear cL fL)
    have p1 := HPB.out.box
    have p2 := HPB.out.own
    have p3 := HPB.out.oth
    have p4 := HPB.out.but
    have p5 := HPB.out.bel
    have p6 := HPB.out.far
    clear HPB q6 f6 z6 hs6
    refine ⟨p3.from _, p3.walks, ⟨_, p1, p2, p6⟩, HBW.out.trans ⟨p5.os, p5.tape, p5.output, p5.size, fun i hi => p4 i (by omega) (by omega)⟩⟩
  case done =>
    rintro D ys W hD hys ⟨⟨lv, bL1, hO1, hF1⟩, hB1⟩ hK
    have cL := bL1.cell
    gi_wp2
    refine ⟨by simp, .inl ⟨_, _, rfl, run_takeDeferred hK, ?_⟩⟩
    exact ⟨_, results_tmp rfl _ _ _, lv, ys, rfl, hys, hO1.put hK rfl _, fun i hi => by have := hF1 i hi; omega, hB1.trans (belowK_b (w := w) (Nat.le_refl _) W D _ _ (by omega) hK rfl rfl)⟩
  case stop =>
    rintro D c pre W _ _ h _
    exact h.elim
set_option maxHeartbeats 2000000 in
theorem coll_any (w : World) (bm c : Nat) (H : Int → Option Int) (hc : c ≤ 100000) (hq : ∀ W, Below w.heap.size w W → SeqStopsK Fence.wide 8 Try.prog 51 #[.pointer (some ⟨bm, 0, none⟩)] (fun x : Int => #[.int .u64 x]) KeepsWalks (KeyR H) (fun _ => True) c W) :
    Calls Try.prog 49 #[.func (.func 51) #[] #[.pointer (some ⟨bm, 0, none⟩)]] w (AseqP H c w) := by
  have HA := Lib.hid (aseq_any w bm c H hc hq)
  clear hq
  go_enter Try.func49, Try.ntmps49
  go_wp2_with fail
  refine HA.out.mono ?_
  rintro e w2 ⟨v, Ks, rfl, hh⟩
  have HE := Lib.hid hh
  clear hh
  go_wp2
  go_ret
  exact ⟨v, Ks, rfl, HE.out⟩
/-- The keys in order. -/
def SrtdP (H : Int → Option Int) (w : World) (e : Ending) (w' : World) : Prop := ∃ v Ks, e = .returned v ∧ KeyR H Ks ∧ Ks.Pairwise (· ≤ ·) ∧ EOwn elU6 w' v Ks ∧ (∀ i, v.ownBlock = some i → w.heap.size ≤ i) ∧ Below w.heap.size w w'
theorem KeyR.perm {H : Int → Option Int} {A B : List Int} (h : KeyR H A) (hp : B.Perm A) : KeyR H B := ⟨hp.nodup_iff.2 h.1, fun u hu => h.2.1 u (hp.mem_iff.1 hu), fun u => (hp.mem_iff).trans (h.2.2 u)⟩
theorem getBang {L : List Int} {i : Nat} (h : i < L.length) : L.toArray[i]! = L[i] := by rw [getElem!_pos L.toArray i (by simpa using h)]; simp
theorem urow_of {w : World} {g cap : Nat} {L : List Int} (h : ERow elU6 w g cap L) : U6.URow w g cap L.toArray := by
  obtain ⟨cur, h1, h2, h3, h4, h5⟩ := h
  have e : elU6.k = 1 := rfl
  rw [e] at h2 h5
  rw [elU6_encs] at h5
  refine ⟨cur, h1, by omega, by simpa using h3, h4, fun i hi => ?_⟩
  have hi' : i < L.length := by simpa using hi
  have := congrArg (fun l => l[i]?) h5
  simp only [List.getElem?_take, Array.getElem?_toList, List.getElem?_map] at this
  rw [if_pos (by omega)] at this
  rw [this, getBang hi', List.getElem?_eq_getElem hi']
  rfl
theorem erow_of {w : World} {g cap : Nat} {d : Array Int} (h : U6.URow w g cap d) : ERow elU6 w g cap d.toList := by
  obtain ⟨cur, h1, h2, h3, h4, h5⟩ := h
  have e : elU6.k = 1 := rfl
  refine ⟨cur, h1, by rw [e]; omega, by simpa using h3, h4, ?_⟩
  rw [e, elU6_encs]
  apply List.ext_getElem?
  intro i
  simp only [List.getElem?_take, Array.getElem?_toList, List.getElem?_map, Nat.mul_one, Array.length_toList]
  by_cases hi : i < d.size
  · rw [if_pos hi, h5 i hi, getElem!_pos d i hi, Array.getElem?_eq_getElem hi]; rfl
  · rw [if_neg hi, Array.getElem?_eq_none (by omega)]; rfl
set_option maxHeartbeats 2000000 in
theorem srtd_any (w : World) (bm c : Nat) (H : Int → Option Int) (hc : c ≤ 100000) (hq : ∀ W, Below w.heap.size w W → SeqStopsK Fence.wide 8 Try.prog 51 #[.pointer (some ⟨bm, 0, none⟩)] (fun x : Int => #[.int .u64 x]) KeepsWalks (KeyR H) (fun _ => True) c W)
    (hlen : ∀ Ks, KeyR H Ks → Ks.length ≤ 100000) :
    Calls Try.prog 37 #[.func (.func 51) #[] #[.pointer (some ⟨bm, 0, none⟩)]] w (SrtdP H w) := by
  have HA := Lib.hid (coll_any w bm c H hc hq)
  have HLEN := Lib.hid hlen
  clear hq hlen
  go_enter Try.func37, Try.ntmps37
  go_wp2_with fail
  refine HA.out.mono ?_
  rintro e w2 ⟨v, Ks, rfl, hk, ho, hf, hb⟩
  have HK := Lib.hid hk
  have HL := Lib.hid (HLEN.out Ks hk)
  have HF := Lib.hid hf
  have HB := Lib.hid hb
  clear hk hf hb HLEN HA
  rcases ho with ⟨rfl, rfl⟩ | ⟨g, cap, rfl, hr⟩
  · go_wp2_with fail
    refine (U6.usort_nil _).mono ?_
    rintro e w3 ⟨rfl, rfl⟩
    go_wp2
    go_ret
    exact ⟨_, [], rfl, HK.out, List.Pairwise.nil, EOwn.nil_ _, fun i hi => by simp [Value.ownBlock] at hi, HB.out⟩
  · have hsa : U6.SA w2 g cap Ks.toArray w2 := ⟨hr.lt, urow_of hr, ⟨rfl, rfl, rfl, Nat.le_refl _, fun _ _ _ => rfl⟩⟩
    obtain ⟨n, hn⟩ : ∃ n, Ks.length = n := ⟨_, rfl⟩
    have HS := Lib.hid (U6.usort_any w2 g cap n Ks.toArray w2 hsa (by simpa using hn) (by have := HL.out; omega))
    have HN := Lib.hid hn
    rw [hn]
    clear hsa hr hn
    go_wp2_with fail
    refine HS.out.mono ?_
    rintro e w3 ⟨rfl, d', hp, hs, hk⟩
    have HE := Lib.hid (show SrtdP H w (.returned (.slice (some ⟨g, 0, none⟩) n cap)) w3 from by
      have hn : Ks.toArray.size = n := by simpa using HN.out
      rw [← hn] at hp hs
      have hpl := U6.permIn_full hp
      have hds : d'.size = n := hp.1.trans hn
      have hss := U6.srt_full (d := d') (by rw [hds, ← hn]; exact hs)
      simp only [List.toList_toArray] at hpl
      refine ⟨_, d'.toList, rfl, HK.out.perm hpl, hss, .inr ⟨g, cap, by simp [hds], erow_of hk.2.1⟩, fun i hi => HF.out i (by simpa [Value.ownBlock] using hi), ?_⟩
      have hg := hk.2.2
      have hgw : w.heap.size ≤ g := HF.out g (by simp [Value.ownBlock])
      have hb := HB.out
      exact ⟨hg.os.trans hb.os, hg.tape.trans hb.tape, hg.output.trans hb.output, Nat.le_trans hb.size hg.size, fun i hi => (hg.block i (Nat.lt_of_lt_of_le hi hb.size) (fun e => by injection e with e; omega)).trans (hb.block i hi)⟩)
    clear hp hs hk HS
    go_wp2
    go_ret
    exact HE.out
end Go.Proofs.Ytdbiaijpbkmfhaa
