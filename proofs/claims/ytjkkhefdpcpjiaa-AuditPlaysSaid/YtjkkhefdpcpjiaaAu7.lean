/- audit: Own by contract. -/
import Derived.Test.YtjkkhefdpcpjiaaAu6
namespace Go.Proofs.Ytjkkhefdpcpjiaa
set_option linter.unusedVariables false
set_option linter.unusedSimpArgs false
open Go.RowKit Go.Shelf
attribute [local go_sem] Oper.semAt_some
theorem wpListIn_epush {α : Type} {E : El α} {F : Fence} {n : Nat} {w : World} {ops : Array Oper} {rest : List Oper} {o : Oper} {a : Act} {Q : Exit → Act → World → Prop} (hE : E.Ok) (hgd : o.guard = none) (s x : Operand) (t : TypeId)
    (ho : o.op = .call { callee := .builtin .append, args := #[s, x], argTypes := #[t, t] }) (ht : Try.prog.underlying t = some (.slice E.T)) (v : Value) (L : List α) (e : α) (b c : Nat) (hs : a.eval s = v) (hx : a.eval x = .slice (some ⟨b, 0, none⟩) 1 c)
    (h : EOwn E w v L) (h0 : ∀ j u, (E.enc e)[j]? = some u → w.cell? ⟨b, j, none⟩ = some u) (hl : L.length ≤ 1000000)
    (hK : ∀ v' w', EAppended E v (L ++ [e]) w v' w' → wpListIn F n Try.prog ops Q rest (a.put o.dst v') w') : wpListIn F n Try.prog ops Q (o :: rest) a w := by
  refine wpListIn_plain hgd fun K hK' => ?_
  obtain ⟨v', w', hrun, hA⟩ := run_epush (ty := o.type) (c := c) hE ht h h0 hl
  unfold Oper.wpIn
  refine ⟨?_, ?_⟩
  · simp [Oper.about, ho, resolve, Target.leads, Sem.run_pure]
  · rw [Oper.semAt_plain F _ _ (by rw [ho]; intro c hc'; cases hc')]
    simp [execOp, ho, resolve, invoke, builtin, hs, hx, hrun, Result.andThen]
    exact hK' _ _ (hK v' w' hA)
/-- A page: the events from the number f on, at most m. -/
def pageL (R : List Ev) (f m : Nat) : List Ev := (R.drop f).take m
theorem pageL_len (R : List Ev) (f m : Nat) : (pageL R f m).length = min m (R.length - f) := by simp [pageL]
theorem pageL_full {R : List Ev} {f m : Nat} (x : Ev) (h : m ≤ R.length - f) : pageL (R ++ [x]) f m = pageL R f m := by
  unfold pageL
  by_cases hf : f ≤ R.length
  · rw [List.drop_append_of_le_length hf, List.take_append_of_le_length (by simp; omega)]
  · have : m = 0 := by omega
    subst this; simp
theorem pageL_skip {R : List Ev} {f m : Nat} (x : Ev) (h : R.length < f) : pageL (R ++ [x]) f m = pageL R f m := by
  unfold pageL
  rw [List.drop_eq_nil_of_le (by simp; omega), List.drop_eq_nil_of_le (by omega)]
theorem pageL_push {R : List Ev} {f m : Nat} (x : Ev) (h : f ≤ R.length) (h2 : R.length - f < m) : pageL (R ++ [x]) f m = pageL R f m ++ [x] := by
  unfold pageL
  rw [List.drop_append_of_le_length h, List.take_of_length_le (by simp; omega), List.take_of_length_le (by simp; omega)]
theorem pageL_pre {R q : List Ev} {f m : Nat} (h : q <+: R) (h2 : m ≤ q.length - f) : pageL R f m = pageL q f m := by
  obtain ⟨t, rfl⟩ := h
  unfold pageL
  by_cases hf : f ≤ q.length
  · rw [List.drop_append_of_le_length hf, List.take_append_of_le_length (by simp; omega)]
  · have : m = 0 := by omega
    subst this; simp
theorem pageL_all (R : List Ev) (f m : Nat) (h : R.length - f ≤ m) : pageL R f m = R.drop f := by unfold pageL; rw [List.take_of_length_le (by simp; omega)]
theorem EOwn.put {α : Type} {E : El α} {W : World} {v : Value} {L : List α} (h : EOwn E W v L) {D : Nat} {o : Obj} (hD : W.heap[D]? = some o) (ho : o.isCells = false) (o' : Obj) : EOwn E (W.putObj D o') v L :=
  h.keep fun i hi e => (grownBy_putObj' W D o').block i hi fun e' => by
    obtain rfl : i = D := by simpa using e'
    rcases h with ⟨rfl, _⟩ | ⟨g, cap, rfl, cur, h1, _⟩
    · simp [Value.ownBlock] at e
    · simp [Value.ownBlock] at e
      subst e
      rw [show W.heap[g]? = _ from h1] at hD
      cases hD; cases ho
/-- Behind an append to the row that a box holds. -/
structure PB {α : Type} (E : El α) (B b : Nat) (t : TypeId) (W w6 : World) (lv v2 : Value) (L : List α) : Prop where
  old : Boxed w6 b t lv
  box : Boxed (w6.setCell ⟨b, 0, none⟩ v2) b t v2
  own : EOwn E (w6.setCell ⟨b, 0, none⟩ v2) v2 L
  but6 : ∀ k, k < B → w6.heap[k]? = W.heap[k]?
  size6 : W.heap.size ≤ w6.heap.size
  far : ∀ i, v2.ownBlock = some i → B ≤ i
  from_ : KeepsFrom B W (w6.setCell ⟨b, 0, none⟩ v2)
  but : ∀ k, k < B → k ≠ b → (w6.setCell ⟨b, 0, none⟩ v2).heap[k]? = W.heap[k]?
  bel : Below 0 W (w6.setCell ⟨b, 0, none⟩ v2)
theorem PB.of {α : Type} {E : El α} {B b : Nat} {t : TypeId} {W w6 : World} {lv v2 : Value} {L : List α} {x : α} {o : Obj} (hb : Boxed W b t lv) (hO : EOwn E W lv L) (hfar : ∀ i, lv.ownBlock = some i → B ≤ i) (hbB : b < B) (hB : B ≤ W.heap.size) (hA : EAppended E lv (L ++ [x]) (W.alloc o) v2 w6) : PB E B b t W w6 lv v2 (L ++ [x]) := by
  have hlt := hb.lt
  have hk6 : ∀ k, k < B → w6.heap[k]? = W.heap[k]? := fun k hk => (hA.keep (by simp; omega) (fun e => by have := hfar k e; omega)).trans (Below.heap_alloc W o k (by omega))
  have hold : Boxed w6 b t lv := (hk6 b hbB).trans hb
  have hb6 := hA.below (B := B) (by simp; omega) hfar
  obtain ⟨g, cap, rfl, hr, hg, hor⟩ := id hA
  refine ⟨hold, hold.set _, hA.own.keep fun i hi e => Below.heap_setCell w6 ⟨b, 0, none⟩ _ i (fun e2 => by have := hb6.2 i e; simp at e2; omega), hk6, by have := hA.below0.size; simp at this; omega, hb6.2, ?_, fun k hk hkb => (Below.heap_setCell w6 ⟨b, 0, none⟩ _ k (by simpa using hkb)).trans (hk6 k hk), ?_⟩
  · refine (((KeepsOthers.alloc W o).trans (KeepsOthers.of_grownBy hg fun j o' ej hj => ?_)).trans (KeepsOthers.setCell _ _ _)).from _
    rcases hO.below ((Below.refl _ W).alloc (Nat.le_refl _) o) with ⟨rfl, _⟩ | ⟨g', cap', rfl, cur, h1, _⟩
    · simp [Value.ownBlock] at ej
    · obtain rfl : g' = j := by simpa [Value.ownBlock] using ej
      rw [show (W.alloc o).heap[g']? = _ from h1] at hj
      cases hj; rfl
  · exact (((Below.refl 0 W).alloc (Nat.zero_le _) o).trans hA.below0).setCell (Nat.zero_le _) _
/-- What is told: a row of one's own. -/
def OwP (w : World) (L : List Ev) (e : Ending) (w' : World) : Prop := ∃ v2, e = .returned v2 ∧ EOwn elE w' v2 L ∧ (∀ i, v2.ownBlock = some i → w.heap.size ≤ i) ∧ Below w.heap.size w w'
set_option maxRecDepth 100000 in
set_option maxHeartbeats 8000000 in
theorem gown_page (w : World) (y : Option Addr) (u : Int) (R : List Ev) (f m : Nat) (h : Yields w.heap.size w y u R) (hOL : R.length ≤ 1000000) (hf : f ≤ 9223372036854775807) (hm : m ≤ 9223372036854775807) :
    Calls Try.prog 21 #[.pointer y, .int .i64 u, .int .i64 f, .int .i64 m] w (OwP w (pageL R f m)) := by
  have hro : Fence.wide.round = none := rfl
  refine (callsIn_wide (n := 9)).1 ?_
  refine callsIn_of_wp_marks Try.func21 rfl trivial ?_ rfl
  simp only [Try.ntmps21, List.size_toArray, List.length_cons, List.length_nil, Nat.reduceAdd, Nat.reduceSub, Array.replicate_succ, Array.replicate_zero, List.push_toArray, List.append_toArray, List.nil_append, List.cons_append]
  have hd1 : decide ((f : Int) < 0) = false := by simp
  have hd2 : decide ((m : Int) < 0) = false := by simp
  gi_wp2_with (refine ⟨trivial, ?_⟩; gi_at_call 26; refine (own_any 8 _ _ _).mono ?_; rintro e w1 ⟨rfl, rfl⟩)
  clear hd1 hd2
  have bF := (((((Boxed.new w 3 (.int .i64 f)).alloc (.cells #[.int .i64 m] 3)).alloc (.cells #[.slice none 0 0] 25)).alloc (.cells #[.int .i64 0] 3)).alloc (.cells #[Value.pointer y] 23)).alloc (.cells #[.int .i64 u] 3)
  have bM := ((((Boxed.new (w.alloc (.cells #[.int .i64 f] 3)) 3 (.int .i64 m)).alloc (.cells #[.slice none 0 0] 25)).alloc (.cells #[.int .i64 0] 3)).alloc (.cells #[Value.pointer y] 23)).alloc (.cells #[.int .i64 u] 3)
  have bL := (((Boxed.new ((w.alloc (.cells #[.int .i64 f] 3)).alloc (.cells #[.int .i64 m] 3)) 25 (.slice none 0 0)).alloc (.cells #[.int .i64 0] 3)).alloc (.cells #[Value.pointer y] 23)).alloc (.cells #[.int .i64 u] 3)
  have bA := ((Boxed.new (((w.alloc (.cells #[.int .i64 f] 3)).alloc (.cells #[.int .i64 m] 3)).alloc (.cells #[.slice none 0 0] 25)) 3 (.int .i64 0)).alloc (.cells #[Value.pointer y] 23)).alloc (.cells #[.int .i64 u] 3)
  have bT := (Boxed.new ((((w.alloc (.cells #[.int .i64 f] 3)).alloc (.cells #[.int .i64 m] 3)).alloc (.cells #[.slice none 0 0] 25)).alloc (.cells #[.int .i64 0] 3)) 23 (Value.pointer y)).alloc (.cells #[.int .i64 u] 3)
  have bU := Boxed.new (((((w.alloc (.cells #[.int .i64 f] 3)).alloc (.cells #[.int .i64 m] 3)).alloc (.cells #[.slice none 0 0] 25)).alloc (.cells #[.int .i64 0] 3)).alloc (.cells #[Value.pointer y] 23)) 3 (.int .i64 u)
  simp only [World.size_alloc] at bM bL bA bT bU
  have hB0 : Below w.heap.size w ((((((w.alloc (.cells #[.int .i64 f] 3)).alloc (.cells #[.int .i64 m] 3)).alloc (.cells #[.slice none 0 0] 25)).alloc (.cells #[.int .i64 0] 3)).alloc (.cells #[Value.pointer y] 23)).alloc (.cells #[.int .i64 u] 3)) := by go_grown
  have hsz : ((((((w.alloc (.cells #[.int .i64 f] 3)).alloc (.cells #[.int .i64 m] 3)).alloc (.cells #[.slice none 0 0] 25)).alloc (.cells #[.int .i64 0] 3)).alloc (.cells #[Value.pointer y] 23)).alloc (.cells #[.int .i64 u] 3)).heap.size = w.heap.size + 6 := by simp
  obtain ⟨W0, hW0⟩ : ∃ W0, ((((((w.alloc (.cells #[.int .i64 f] 3)).alloc (.cells #[.int .i64 m] 3)).alloc (.cells #[.slice none 0 0] 25)).alloc (.cells #[.int .i64 0] 3)).alloc (.cells #[Value.pointer y] 23)).alloc (.cells #[.int .i64 u] 3)) = W0 := ⟨_, rfl⟩
  rw [hW0] at bF bM bL bA bT bU hB0 hsz ⊢
  clear hW0
  have HS := Lib.hid h
  have HOL := Lib.hid hOL
  clear hOL h
  refine wpIn_rangeFunc_ownH hro (by decide) (gf := 28) (lb := #[.pointer (some ⟨w.heap.size + 1 + 1 + 1 + 1, 0, none⟩), .pointer (some ⟨w.heap.size + 1 + 1 + 1 + 1 + 1, 0, none⟩)]) rfl trivial (enters_of Try.func28 (by kernel_rfl) rfl)
    (HS.out (w.heap.size + 1 + 1 + 1 + 1) (w.heap.size + 1 + 1 + 1 + 1 + 1) W0 hB0 (by omega) bT.cell bU.cell) KpO.trans (KpO.put (by omega) (by omega) (by omega)) (Below.refl _ _) (fun _ => rfl)
    (fun pre W => (∃ lv, Boxed W (w.heap.size + 1 + 1) 25 lv ∧ EOwn elE W lv (pageL pre f m) ∧ ∀ i, lv.ownBlock = some i → w.heap.size + 6 ≤ i) ∧ (((Boxed W w.heap.size 3 (.int .i64 f) ∧ Boxed W (w.heap.size + 1) 3 (.int .i64 m)) ∧ Boxed W (w.heap.size + 1 + 1 + 1) 3 (.int .i64 (pre.length : Nat))) ∧ Below w.heap.size w W))
    (fun c pre W => (∃ lv, Boxed W (w.heap.size + 1 + 1) 25 lv ∧ EOwn elE W lv (pageL pre f m) ∧ ∀ i, lv.ownBlock = some i → w.heap.size + 6 ≤ i) ∧ ((c = .exit 0 ∧ m ≤ pre.length - f) ∧ Below w.heap.size w W))
    (OwnFrom.and (ownFrom_eown _ _ (fun _ lv => ∀ i, lv.ownBlock = some i → w.heap.size + 6 ≤ i) _ _) (OwnFrom.and (OwnFrom.and (OwnFrom.and (Own.from (boxed_own _ _ _) _) (Own.from (boxed_own _ _ _) _)) (Own.from (boxed_own _ _ _) _)) (ownFrom_below (Nat.le_refl _) (by omega))))
    (fun c => OwnFrom.and (ownFrom_eown _ _ (fun _ lv => ∀ i, lv.ownBlock = some i → w.heap.size + 6 ≤ i) _ _) (OwnFrom.and (ownFrom_pure _ (fun (pre : List Ev) => c = .exit 0 ∧ m ≤ pre.length - f)) (ownFrom_below (Nat.le_refl _) (by omega))))
    ⟨⟨_, bL, by unfold pageL; simpa using EOwn.nil_ _, fun i hi => by simp [Value.ownBlock] at hi⟩, ⟨⟨bF, bM⟩, bA⟩, hB0⟩
    (fun x a' W => ∃ Bx, w.heap.size + 3 < Bx ∧ Blk W Bx 27 #[.int .i64 x.user, .int .i64 x.op, .int .i64 x.st, .int .i64 x.tick] ∧ a' = { tmps := #[Value.pointer y, .int .i64 u, .int .i64 f, .int .i64 m, undef, undef, .pointer (some ⟨w.heap.size, 0, none⟩), .pointer (some ⟨w.heap.size + 1, 0, none⟩), .slice none 0 0, .pointer (some ⟨w.heap.size + 1 + 1, 0, none⟩), .pointer (some ⟨w.heap.size + 1 + 1 + 1, 0, none⟩), .pointer (some ⟨Bx, 0, none⟩), .int .i64 f, .bool false, .bool false, .int .i64 m, .bool false, .bool false, Value.pointer y, .int .i64 u, .func (.func 28) #[] #[.pointer (some ⟨w.heap.size + 1 + 1 + 1 + 1, 0, none⟩), .pointer (some ⟨w.heap.size + 1 + 1 + 1 + 1 + 1, 0, none⟩)], Ev.V x, undef, undef, undef, undef, undef, undef, undef, undef, undef, undef, undef, undef, undef, undef], defers := [] })
    (fun x a' _ X Y row hs hg hr => by
      obtain ⟨Bx, h1, h2, h3⟩ := hs
      exact ⟨Bx, h1, (hg.block Bx h2.lt fun e => by obtain ⟨_, o, ho, hc⟩ := hr Bx e.symm; rw [show X.heap[Bx]? = _ from h2] at ho; cases ho; cases hc).trans h2, h3⟩)
    ?assign ?body ?done ?stop
  case assign =>
    rintro l pre x W K ⟨⟨lv, bL1, hO1, hF1⟩, ⟨⟨bF1, bM1⟩, bA1⟩, hB1⟩ hK
    have hz0 : w.heap.size + 3 < W.heap.size := bA1.lt
    gi_wp2
    have hal : Below W.heap.size W (W.alloc (.cells #[.int .i64 x.user, .int .i64 x.op, .int .i64 x.st, .int .i64 x.tick] 27)) := (Below.refl _ W).alloc (Nat.le_refl _) _
    refine hK _ _ ((KeepsOthers.alloc _ _).from _) ⟨hal.mono hB1.size, fun hi => hal.block _ hi, fun hi => hal.block _ hi⟩ ⟨⟨lv, bL1.alloc _, hO1.below hal, hF1⟩, ⟨⟨bF1.alloc _, bM1.alloc _⟩, bA1.alloc _⟩, hB1.alloc hB1.size _⟩ ⟨W.heap.size, by omega, Blk.new W _ _, rfl⟩
  case body =>
    rintro l pre x a' W hl ⟨r, hr⟩ ⟨⟨lv, bL1, hO1, hF1⟩, ⟨⟨bF1, bM1⟩, bA1⟩, hB1⟩ ⟨Bx, hBx, bX, rfl⟩ hlt
    have hpl : pre.length ≤ 1000000 := by have := HOL.out; omega
    obtain ⟨x0, x1, x2, x3⟩ := x
    simp only at bX
    obtain ⟨z, hz⟩ : ∃ z, z = (pageL pre f m).length := ⟨_, rfl⟩
    have hz2 := pageL_len pre f m
    rw [← hz] at hz2
    obtain ⟨A, c, e, _, _⟩ := hO1.slice
    rw [← hz] at e
    subst e
    have hlW : l < W.heap.size := (Array.getElem?_eq_some_iff.1 hr).1
    have hWs : w.heap.size + 6 ≤ W.heap.size := by omega
    have HO1 := Lib.hid hO1
    have HF1 := Lib.hid hF1
    have HL1 := Lib.hid bL1
    have HBO := Lib.hid (show Boxed W w.heap.size 3 (.int .i64 f) ∧ Boxed W (w.heap.size + 1) 3 (.int .i64 m) ∧ Boxed W (w.heap.size + 1 + 1 + 1) 3 (.int .i64 (pre.length : Nat)) from ⟨bF1, bM1, bA1⟩)
    have HBW := Lib.hid hB1
    have HZ := Lib.hid (show z = (pageL pre f m).length ∧ z = min m (pre.length - f) from ⟨hz, hz2⟩)
    have cF := bF1.cell
    have cM := bM1.cell
    have cA := bA1.cell
    have fA := bA1.frozen
    have cL := bL1.cell
    have fL := bL1.frozen
    have cX0 := bX.cell 0
    have cX1 := bX.cell 1
    have cX2 := bX.cell 2
    have cX3 := bX.cell 3
    simp only [List.getElem?_toArray, List.getElem?_cons_zero, List.getElem?_cons_succ] at cX0 cX1 cX2 cX3
    have zL := bL1.lt
    have zA := bA1.lt
    have zX := bX.lt
    clear hz hz2 hO1 hF1 bL1 bF1 bM1 bA1 hB1 bX hlt hr hl hlW
    by_cases hc1 : m ≤ z
    · gi_wp2
      exact ⟨KeepsFrom.refl _ _, ⟨_, HL1.out, by rw [pageL_full _ (by have := HZ.out; omega)]; exact HO1.out, HF1.out⟩, ⟨rfl, by have := HZ.out; simp; omega⟩, HBW.out⟩
    · have hc1' : z < m := by omega
      by_cases hc2 : f ≤ pre.length
      · have HTY := Lib.hid (show Try.prog.underlying 25 = some (.slice elE.T) from Try.underlying25)
        gi_wp2_with (gi_at_builtin; refine wpListIn_epush elE_ok rfl (.tmp 29) (.tmp 31) _ rfl HTY.out (.slice A z c) (pageL pre f m) ⟨x0, x1, x2, x3⟩ W.heap.size 1 rfl rfl (HO1.out.below ((Below.refl _ _).alloc (Nat.le_refl _) _)) (fun j u hu => new_cellT _ _ _ j (by simpa [elE] using hu)) (by have := HZ.out; omega) ?_; intro v2 w6 hA; have HPB := Lib.hid (PB.of (B := w.heap.size + 6) HL1.out HO1.out HF1.out (by omega) hWs hA); obtain ⟨gg, cap2, rfl, -⟩ := hA; simp only [List.length_append, List.length_cons, List.length_nil, Nat.zero_add] at HPB ⊢; have q6 := HPB.out.old.cell; have f6 := HPB.out.old.frozen; have z6 := HPB.out.old.lt; have hs6 := HPB.out.size6; have a6 := (show Boxed w6 (w.heap.size + 1 + 1 + 1) 3 (.int .i64 (pre.length : Nat)) from (HPB.out.but6 _ (by omega)).trans HBO.out.2.2).cell; have g6 := (show Boxed w6 (w.heap.size + 1 + 1 + 1) 3 (.int .i64 (pre.length : Nat)) from (HPB.out.but6 _ (by omega)).trans HBO.out.2.2).frozen; clear cF cM cA fA cL fL cX0 cX1 cX2 cX3)
        have p1 := HPB.out.box
        have p2 := HPB.out.own
        have p3 := HPB.out.from_
        have p4 := HPB.out.but
        have p5 := HPB.out.bel
        have p6 := HPB.out.far
        clear HPB q6 f6 z6 hs6 a6 g6
        generalize hw7 : w6.setCell ⟨w.heap.size + 1 + 1, 0, none⟩ (.slice (some ⟨gg, 0, none⟩) ((pageL pre f m).length + 1) cap2) = W7 at p1 p2 p3 p4 p5 ⊢
        have hbel7 : Below w.heap.size W W7 := ⟨p5.os, p5.tape, p5.output, p5.size, fun i hi => p4 i (by omega) (by omega)⟩
        have hkeep7 : ∀ i, i ≠ w.heap.size + 1 + 1 + 1 → (W7.setCell ⟨w.heap.size + 1 + 1 + 1, 0, none⟩ (.int .i64 ((pre.length : Int) + 1))).heap[i]? = W7.heap[i]? := fun i hi => Below.heap_setCell W7 ⟨w.heap.size + 1 + 1 + 1, 0, none⟩ _ i (by simpa using hi)
        have hb7 : ∀ {b : Nat} {t : TypeId} {x : Value}, Boxed W b t x → b < w.heap.size + 6 → b ≠ w.heap.size + 1 + 1 → Boxed W7 b t x := fun h1 h2 h3 => (p4 _ h2 h3).trans h1
        refine ⟨by rw [hsz]; exact p3.trans ((KeepsOthers.setCell _ _ _).from _), ⟨hbel7.setCell (p := ⟨w.heap.size + 1 + 1 + 1, 0, none⟩) (by simp; omega) _, fun _ => (hkeep7 _ (by omega)).trans (p4 _ (by omega) (by omega)), fun _ => (hkeep7 _ (by omega)).trans (p4 _ (by omega) (by omega))⟩, ⟨_, p1.other (by omega) _, ?_, p6⟩, ⟨⟨(hb7 HBO.out.1 (by omega) (by omega)).other (by omega) _, (hb7 HBO.out.2.1 (by omega) (by omega)).other (by omega) _⟩, ?_⟩, (HBW.out.trans hbel7).setCell (p := ⟨w.heap.size + 1 + 1 + 1, 0, none⟩) (by simp; omega) _⟩
        · rw [pageL_push _ hc2 (by have := HZ.out; omega)]
          exact p2.keep fun i hi e => hkeep7 i (fun e2 => by have := p6 i e; omega)
        · have h9 := (hb7 HBO.out.2.2 (by omega) (by omega)).set (.int .i64 ((pre.length : Int) + 1))
          rw [show ((pre ++ [(⟨x0, x1, x2, x3⟩ : Ev)]).length : Int) = (pre.length : Int) + 1 by simp]
          exact h9
      · gi_wp2
        refine ⟨(KeepsOthers.setCell _ _ _).from _, ⟨(Below.refl _ W).setCell (p := ⟨w.heap.size + 1 + 1 + 1, 0, none⟩) (by simp; omega) _, fun _ => Below.heap_setCell W _ _ _ (by simp <;> omega), fun _ => Below.heap_setCell W _ _ _ (by simp <;> omega)⟩, ⟨_, HL1.out.other (by omega) _, ?_, HF1.out⟩, ⟨⟨HBO.out.1.other (by omega) _, HBO.out.2.1.other (by omega) _⟩, ?_⟩, HBW.out.setCell (p := ⟨w.heap.size + 1 + 1 + 1, 0, none⟩) (by simp; omega) _⟩
        · rw [pageL_skip _ (by omega)]
          exact HO1.out.keep fun i hi e => Below.heap_setCell W ⟨w.heap.size + 1 + 1 + 1, 0, none⟩ _ i (fun e2 => by have := HF1.out i e; simp at e2; omega)
        · have h9 := HBO.out.2.2.set (.int .i64 ((pre.length : Int) + 1))
          rw [show ((pre ++ [(⟨x0, x1, x2, x3⟩ : Ev)]).length : Int) = (pre.length : Int) + 1 by simp]
          exact h9
  case done =>
    rintro D ys W hD rfl ⟨⟨lv, bL1, hO1, hF1⟩, ⟨⟨bF1, bM1⟩, bA1⟩, hB1⟩ hK
    have cL := bL1.cell
    gi_wp2
    refine ⟨by simp, .inl ⟨_, _, rfl, run_takeDeferred hK, ?_⟩⟩
    exact ⟨_, results_tmp rfl _ _ _, lv, rfl, hO1.put hK rfl _, fun i hi => by have := hF1 i hi; omega, hB1.trans (belowK_b (w := w) (Nat.le_refl _) W D _ _ (by omega) hK rfl rfl)⟩
  case stop =>
    rintro D c pre W hD hpre ⟨⟨lv, bL1, hO1, hF1⟩, ⟨rfl, hm2⟩, hB1⟩ hK
    have cL := bL1.cell
    gi_wp2
    refine ⟨by simp, .inl ⟨_, _, rfl, run_takeDeferred hK, ?_⟩⟩
    exact ⟨_, results_tmp rfl _ _ _, lv, rfl, by rw [pageL_pre hpre hm2]; exact hO1.put hK rfl _, fun i hi => by have := hF1 i hi; omega, hB1.trans (belowK_b (w := w) (Nat.le_refl _) W D _ _ (by omega) hK rfl rfl)⟩
/-- A page at any two numbers. -/
def pageI (R : List Ev) (f m : Int) : List Ev := if f < 0 ∨ m < 0 then [] else pageL R f.toNat m.toNat
set_option maxHeartbeats 4000000 in
theorem gown_any (w : World) (y : Option Addr) (u : Int) (R : List Ev) (f m : Int) (h : Yields w.heap.size w y u R) (hOL : R.length ≤ 1000000) (hf : -9223372036854775808 ≤ f ∧ f ≤ 9223372036854775807) (hm : -9223372036854775808 ≤ m ∧ m ≤ 9223372036854775807) :
    Calls Try.prog 21 #[.pointer y, .int .i64 u, .int .i64 f, .int .i64 m] w (OwP w (pageI R f m)) := by
  by_cases hn : f < 0 ∨ m < 0
  · rw [pageI, if_pos hn]
    have HN := Lib.hid hn
    clear h hOL
    refine (callsIn_wide (n := 9)).1 ?_
    refine callsIn_of_wp_marks Try.func21 rfl trivial ?_ rfl
    simp only [Try.ntmps21, List.size_toArray, List.length_cons, List.length_nil, Nat.reduceAdd, Nat.reduceSub, Array.replicate_succ, Array.replicate_zero, List.push_toArray, List.append_toArray, List.nil_append, List.cons_append]
    by_cases h1 : f < 0
    · clear hn
      gi_wp2
      exact ⟨_, results_tmp rfl _ _ _, _, rfl, EOwn.nil_ _, fun i hi => by simp [Value.ownBlock] at hi, by go_grown⟩
    · have h2 : m < 0 := by omega
      clear hn
      gi_wp2
      exact ⟨_, results_tmp rfl _ _ _, _, rfl, EOwn.nil_ _, fun i hi => by simp [Value.ownBlock] at hi, by go_grown⟩
  · rw [pageI, if_neg hn]
    obtain ⟨f', rfl⟩ := Int.eq_ofNat_of_zero_le (show 0 ≤ f by omega)
    obtain ⟨m', rfl⟩ := Int.eq_ofNat_of_zero_le (show 0 ≤ m by omega)
    exact gown_page w y u R f' m' h hOL (by omega) (by omega)
theorem aown_any (w : World) (y : Nat) (v : Value) (H : List Ev) (n p : Nat) (u f m : Int) (h : TR w y v H n p) (hl : H.length ≤ 1000000) (hf : -9223372036854775808 ≤ f ∧ f ≤ 9223372036854775807) (hm : -9223372036854775808 ≤ m ∧ m ≤ 9223372036854775807) :
    Calls Try.prog 21 #[ptrA y, .int .i64 u, .int .i64 f, .int .i64 m] w (OwP w (pageI (owns u (H.drop n)) f m)) :=
  gown_any w _ u _ f m (yields_any h u) (by have := owns_len u (H.drop n); simp at this; omega) hf hm
theorem aown_nil (w : World) (u f m : Int) (hf : -9223372036854775808 ≤ f ∧ f ≤ 9223372036854775807) (hm : -9223372036854775808 ≤ m ∧ m ≤ 9223372036854775807) :
    Calls Try.prog 21 #[.pointer none, .int .i64 u, .int .i64 f, .int .i64 m] w (OwP w []) := by
  have := gown_any w _ u _ f m (yields_nil w u) (by simp) hf hm
  have e : pageI [] f m = [] := by unfold pageI pageL; split <;> simp
  rw [e] at this
  exact this
end Go.Proofs.Ytjkkhefdpcpjiaa
