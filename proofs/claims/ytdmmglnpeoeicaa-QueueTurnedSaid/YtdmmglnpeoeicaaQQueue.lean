/- queue: New, Push, Top, Pop, Len of a queue, by contract; of a nil one. -/
import Derived.Test.YtdmmglnpeoeicaaQPop
namespace Go.Proofs.Ytdmmglnpeoeicaa
set_option linter.unusedVariables false
set_option linter.unusedSimpArgs false
open Go.RowKit
attribute [local go_sem] assert_entry
theorem callee_of {P : Program} {f : FuncId} {fn : Func} {c : Code} (hf : P.funcs[f]? = some fn) (hn : (fn.name == "runtime.NumGoroutine") = false) (hb : fn.body = some c) : ∀ args w, (callFunc f args).run P w = .ok (.enter f args) w := by
  intro args w
  have h : fn.name ≠ "runtime.NumGoroutine" := by simpa using hn
  simp [callFunc, hf, h, hb, mark]
theorem qnew_any (w : World) : Calls Try.prog 9 #[] w fun e w' => e = .returned (.pointer (some ⟨w.heap.size, 0, none⟩)) ∧ w' = w.alloc (.cells #[.slice none 0 0] 48) := by
  go_enter Try.func9, Try.ntmps9
  go_wp2
  go_ret
  exact ⟨rfl, rfl⟩
theorem qlen_any (q n c : Nat) (A : Option Addr) (w : World) (h : Blk w q 48 #[.slice A n c]) : Calls Try.prog 11 #[.pointer (some ⟨q, 0, none⟩)] w fun e w' => e = .returned (.int .i64 (n : Int)) ∧ w = w' := by
  have k0 := h.cell 0
  simp only [List.getElem?_toArray, List.getElem?_cons_zero, List.getElem?_cons_succ] at k0
  clear h
  go_enter Try.func11, Try.ntmps11
  go_wp2
  go_ret
  exact ⟨rfl, rfl⟩
theorem qlen_nil (w : World) : Calls Try.prog 11 #[.pointer none] w fun e w' => e = .returned (.int .i64 0) ∧ w = w' := by
  go_enter Try.func11, Try.ntmps11
  go_wp2
  go_ret
  exact ⟨rfl, rfl⟩
theorem QQ.drew {w : World} {q : Nat} {v : Value} {L : List En} (h : QQ w q v L) : QQ w.drew q v L := h
theorem Turned.of_drew {q : Nat} {r : Option Nat} {w w' : World} (h : Turned q r w.drew w') : Turned q r w w' := h
theorem Turned.blk {q b : Nat} {r : Option Nat} {t : TypeId} {cs : Array Value} {w w' : World} (h : Turned q r w w') (hb : Blk w b t cs) (hq : b ≠ q) (hr : r ≠ some b) : Blk w' b t cs := (h.2.2.2.2 b hb.lt hq hr).trans hb
def QPushPost (q : Nat) (v : Value) (x : En) (L : List En) (w : World) (e : Ending) (w' : World) : Prop :=
  e = .returned (.bool true) ∧ ∃ v' L', QQ w' q v' L' ∧ L'.Perm (x :: L) ∧ Turned q v.ownBlock w w' ∧ (v'.ownBlock = v.ownBlock ∨ ∀ i, v'.ownBlock = some i → w.heap.size ≤ i)
set_option maxHeartbeats 1000000 in
theorem qpush_any (q : Nat) (v : Value) (L : List En) (x : En) (w : World) (h : QQ w q v L) (hl : L.length ≤ 4398046511102) :
    Calls Try.prog 12 #[.pointer (some ⟨q, 0, none⟩), .agg #[.int .u64 x.1, .int .u64 x.2.1, .int .i64 x.2.2]] w fun e w' => QPushPost q v x L w e w' := by
  have HQ0 := Lib.hid h; clear h
  go_enter Try.func12, Try.ntmps12
  go_wp2_with fail
  have hb0 : Below w.heap.size w (w.alloc (.cells #[.int .u64 x.1, .int .u64 x.2.1, .int .i64 x.2.2] 29)) := (Below.refl w.heap.size w).alloc (Nat.le_refl _) _
  have hE := Blk.new w 29 #[.int .u64 x.1, .int .u64 x.2.1, .int .i64 x.2.2]
  generalize (w.alloc (.cells #[.int .u64 x.1, .int .u64 x.2.1, .int .i64 x.2.2] 29)) = W at hb0 hE ⊢
  have e0 := hE.cell 0
  have e1 := hE.cell 1
  have e2 := hE.cell 2
  simp only [List.getElem?_toArray, List.getElem?_cons_zero, List.getElem?_cons_succ] at e0 e1 e2
  have HQ1 := Lib.hid (show QQ W q v L from ⟨HQ0.out.1.below hb0 HQ0.out.1.lt, HQ0.out.2.1.below hb0, HQ0.out.2.2⟩)
  have HB0 := Lib.hid hb0
  have HC := fun X h => hpush_any q v L x X h hl
  have HCE := Lib.hid HC
  have HE := Lib.hid hE
  have HNQ := Lib.hid (show w.heap.size ≠ q from Nat.ne_of_gt HQ0.out.1.lt)
  have HNO := Lib.hid (show v.ownBlock ≠ some w.heap.size from fun e => Nat.lt_irrefl _ (HQ0.out.2.1.lt e))
  clear hE hb0 HC
  go_region_held3 (fun w' => w'.cell? ⟨w.heap.size, 0, none⟩ = some (.int .u64 x.1) ∧ w'.cell? ⟨w.heap.size, 1, none⟩ = some (.int .u64 x.2.1) ∧ w'.cell? ⟨w.heap.size, 2, none⟩ = some (.int .i64 x.2.2)) (first | go_keep | (refine ⟨?_, ?_, ?_⟩ <;> assumption) | (go_split_ands; refine ⟨?_, ?_, ?_⟩ <;> assumption))
    ((go_at_call 23; refine (HCE.out _ (by first | exact HQ1.out | exact HQ1.out.drew)).mono ?_; rintro e w2 ⟨rfl, hpost⟩; have hE2 := (show Blk w2 w.heap.size 29 #[.int .u64 x.1, .int .u64 x.2.1, .int .i64 x.2.2] from by obtain ⟨g, cap, L', _, _, _, ht, _⟩ := hpost; exact (Turned.of_drew ht).blk HE.out HNQ.out HNO.out); have s0 := hE2.cell 0; have s1 := hE2.cell 1; have s2 := hE2.cell 2; simp only [List.getElem?_toArray, List.getElem?_cons_zero, List.getElem?_cons_succ] at s0 s1 s2; have HPO := Lib.hid hpost; clear hpost hE2))
  all_goals
    obtain ⟨g, cap, L', hg, hh, hp, ht, ho⟩ := HPO.out
    have HF := Lib.hid (show QPushPost q v x L w (.returned (.bool true)) w2 from ⟨rfl, _, L', ⟨hg.1, .inr ⟨g, cap, rfl, hg.2⟩, hh⟩, hp, (Turned.of_below HB0.out).trans (Turned.of_drew ht) (.inl rfl), by
      rcases ho with h | h
      · exact .inl h.symm
      · right; intro i hi; simp [Value.ownBlock] at hi; have := HB0.out.size; simp at h; omega⟩)
    clear hg hh hp ht ho
    go_wp2
    go_ret
    exact HF.out
theorem qpush_nil (x : En) (w : World) : Calls Try.prog 12 #[.pointer none, .agg #[.int .u64 x.1, .int .u64 x.2.1, .int .i64 x.2.2]] w fun e w' => e = .returned (.bool false) ∧ Below w.heap.size w w' := by
  go_enter Try.func12, Try.ntmps12
  go_wp2
  go_ret
  exact ⟨rfl, by go_grown⟩
def enV (x : En) (b : Bool) : Ending := .returned (.tuple #[.agg #[.int .u64 x.1, .int .u64 x.2.1, .int .i64 x.2.2], .bool b])
def NoneAt (w : World) (a : Option Addr) : Prop := a = none ∨ ∃ q c A, a = some ⟨q, 0, none⟩ ∧ Blk w q 48 #[.slice A 0 c]
theorem NoneAt.below {w w' : World} {a : Option Addr} (h : NoneAt w a) (hb : Below w.heap.size w w') : NoneAt w' a := by
  rcases h with h | ⟨q, c, A, h1, h2⟩
  · exact .inl h
  · exact .inr ⟨q, c, A, h1, h2.below hb h2.lt⟩
theorem NoneAt.len {w : World} {a : Option Addr} (h : NoneAt w a) : Calls Try.prog 11 #[.pointer a] w fun e w' => e = .returned (.int .i64 0) ∧ w = w' := by
  rcases h with rfl | ⟨q, c, A, rfl, hb2⟩
  · exact qlen_nil w
  · exact qlen_any q 0 c A w hb2
set_option maxHeartbeats 1000000 in
theorem least_none (a : Option Addr) (f : Value) (w : World) (h : NoneAt w a) : Calls Try.prog 21 #[.pointer a, f] w fun e w' => e = enV (0, 0, 0) false ∧ Below w.heap.size w w' := by
  have HN := Lib.hid h; clear h
  go_enter Try.func21, Try.ntmps21
  go_wp2_with fail
  refine (HN.out.below ((Below.refl _ _).alloc (Nat.le_refl _) _)).len.mono ?_
  rintro e w1 ⟨rfl, hw1⟩
  subst hw1
  go_wp2
  refine bodyPost_ret (v := .tuple #[.agg #[.int .u64 0, .int .u64 0, .int .i64 0], .bool false]) ?_ rfl ⟨rfl, by go_grown⟩
  simp [results, Try.results21, go_sem, *]
set_option maxHeartbeats 1000000 in
/-- A nil queue, or one without entries, has none. -/
theorem qtop_none (a : Option Addr) (w : World) (h : NoneAt w a) : Calls Try.prog 10 #[.pointer a] w fun e w' => e = enV (0, 0, 0) false ∧ Below w.heap.size w w' := by
  have HN := Lib.hid h; clear h
  go_enter Try.func10, Try.ntmps10
  go_wp2_with fail
  refine (least_none a _ _ (HN.out.below ((Below.refl _ _).alloc (Nat.le_refl _) _))).mono ?_
  rintro e w1 ⟨he, hb1⟩
  unfold enV at he
  subst he
  have K := (Blk.new w 29 #[.int .u64 0, .int .u64 0, .int .i64 0]).below hb1 (by simp)
  have HB := Lib.hid (below_trans ((Below.refl w.heap.size w).alloc (Nat.le_refl _) (.cells #[.int .u64 0, .int .u64 0, .int .i64 0] 29)) hb1)
  clear hb1
  have k0 := K.cell 0
  have k1 := K.cell 1
  have k2 := K.cell 2
  have f0 := K.frozen 0
  have f1 := K.frozen 1
  have f2 := K.frozen 2
  simp only [List.getElem?_toArray, List.getElem?_cons_zero, List.getElem?_cons_succ] at k0 k1 k2
  go_wp2
  have hb := HB.out
  refine bodyPost_ret (v := .tuple #[.agg #[.int .u64 0, .int .u64 0, .int .i64 0], .bool false]) ?_ rfl ⟨rfl, by go_grown⟩
  simp [results, Try.results10, go_sem, *]
set_option maxHeartbeats 1000000 in
theorem qpop_none (a : Option Addr) (w : World) (h : NoneAt w a) : Calls Try.prog 14 #[.pointer a] w fun e w' => e = enV (0, 0, 0) false ∧ Below w.heap.size w w' := by
  have HN := Lib.hid h; clear h
  go_enter Try.func14, Try.ntmps14
  go_wp2_with fail
  refine (least_none a _ _ (HN.out.below ((Below.refl _ _).alloc (Nat.le_refl _) _))).mono ?_
  rintro e w1 ⟨he, hb1⟩
  unfold enV at he
  subst he
  have K := (Blk.new w 29 #[.int .u64 0, .int .u64 0, .int .i64 0]).below hb1 (by simp)
  have HB := Lib.hid (below_trans ((Below.refl w.heap.size w).alloc (Nat.le_refl _) (.cells #[.int .u64 0, .int .u64 0, .int .i64 0] 29)) hb1)
  clear hb1
  have k0 := K.cell 0
  have k1 := K.cell 1
  have k2 := K.cell 2
  have f0 := K.frozen 0
  have f1 := K.frozen 1
  have f2 := K.frozen 2
  simp only [List.getElem?_toArray, List.getElem?_cons_zero, List.getElem?_cons_succ] at k0 k1 k2
  go_wp2
  have hb := HB.out
  refine bodyPost_ret (v := .tuple #[.agg #[.int .u64 0, .int .u64 0, .int .i64 0], .bool false]) ?_ rfl ⟨rfl, by go_grown⟩
  simp [results, Try.results14, go_sem, *]
/-- What least does where there is an entry, whatever its ask does. -/
def AskPost (x : En) (P : World → World → Prop) (X : World) (e : Ending) (w' : World) : Prop := e = .returned (.iface 29 (.agg #[.int .u64 x.1, .int .u64 x.2.1, .int .i64 x.2.2])) ∧ P X w'
def LeastPost (x : En) (P : World → World → Prop) (w : World) (e : Ending) (w' : World) : Prop := e = enV x true ∧ ∃ X w2, Below w.heap.size w X ∧ P X w2 ∧ Below w.heap.size w2 w'
set_option maxHeartbeats 2000000 in
theorem least_some (q g cap F : Nat) (L : List En) (x : En) (P : World → World → Prop) (w : World) (h : HG w q g cap L) (h0 : 0 < L.length)
    (eF : ∀ args w, (callFunc F args).run Try.prog w = .ok (.enter F args) w)
    (hask : ∀ X : World, Below w.heap.size w X → Calls Try.prog F #[.pointer (some ⟨q, 0, none⟩)] X fun e w' => AskPost x P X e w')
    (hP : ∀ X w2 : World, P X w2 → Turned q (some g) X w2) :
    Calls Try.prog 21 #[.pointer (some ⟨q, 0, none⟩), .func (.func F) #[] #[]] w fun e w' => LeastPost x P w e w' := by
  have h0i : ((L.length : Int) == 0) = false := by
    have : ¬ (L.length : Int) = 0 := by omega
    simpa using this
  have HH := Lib.hid h; have HA := Lib.hid hask; have HP := Lib.hid hP
  clear h hask hP
  go_enter Try.func21, Try.ntmps21
  go_wp2_with fail
  refine (qlen_any q L.length cap _ _ (HH.out.1.alloc _)).mono ?_
  rintro e w1 ⟨rfl, hw1⟩
  subst hw1
  have hB0 := (Below.refl w.heap.size w).alloc (Nat.le_refl _) (.cells #[.int .u64 0, .int .u64 0, .int .i64 0] 29)
  go_wp2_with fail
  refine (HA.out _ hB0).mono ?_
  rintro e w2 ⟨rfl, hp⟩
  have ht := HP.out _ _ hp
  have hql := HH.out.1.lt
  have hgl := HH.out.2.lt
  have K := ht.blk (Blk.new w 29 #[.int .u64 0, .int .u64 0, .int .i64 0]) (by omega) (by simp; omega)
  have hz : w.heap.size < w2.heap.size := by have := ht.2.2.2.1; simp at this; omega
  have k0 := K.cell 0
  have k1 := K.cell 1
  have k2 := K.cell 2
  have f0 := K.frozen 0
  have f1 := K.frozen 1
  have f2 := K.frozen 2
  simp only [List.getElem?_toArray, List.getElem?_cons_zero, List.getElem?_cons_succ] at k0 k1 k2
  have HPP := Lib.hid hp; have HB0 := Lib.hid hB0
  clear hp ht K hB0
  go_wp2
  have hzle := Nat.le_of_lt hz
  refine bodyPost_ret (v := .tuple #[.agg #[.int .u64 x.1, .int .u64 x.2.1, .int .i64 x.2.2], .bool true]) ?_ rfl ⟨rfl, _, w2, HB0.out, HPP.out, ?_⟩
  · simp [results, Try.results21, go_sem, *]
  · refine Below.alloc (Below.setCell (Below.setCell (Below.setCell (Below.refl _ _) ?_ _) ?_ _) ?_ _) (by simpa using hzle) _ <;> exact Nat.le_refl _
set_option maxHeartbeats 2000000 in
theorem qtop_some (q g cap n : Nat) (L : List En) (w : World) (h : HG w q g cap L) (hh : HeapTo L.length L) (hn : L.length = n + 1) (hl : n ≤ 4398046511102) :
    Calls Try.prog 10 #[.pointer (some ⟨q, 0, none⟩)] w fun e w' => e = enV (at_ L 0) true ∧ Below w.heap.size w w' := by
  have HL := Lib.hid (fun X (hx : HG X q g cap L) => least_some q g cap 22 L (at_ L 0) (fun X w' => X = w') X hx (by omega) (callee_of Try.func22 (by kernel_rfl) rfl) (fun Y hb => (first_any q g cap L Y (hx.below hb) (by omega) (by omega)).mono fun e w' ⟨h1, h2⟩ => ⟨h1, h2⟩) (fun X w2 e => e ▸ Turned.refl _ _ _))
  have HH := Lib.hid h; have HHH := Lib.hid hh
  have hql := h.1.lt
  have hgl := h.2.lt
  have hB0 := (Below.refl w.heap.size w).alloc (Nat.le_refl _) (.cells #[.int .u64 0, .int .u64 0, .int .i64 0] 29)
  have HX := Lib.hid (HH.out.below hB0)
  have HB0 := Lib.hid hB0
  generalize at_ L 0 = x at *
  clear h hh hB0
  go_enter Try.func10, Try.ntmps10
  go_wp2_with fail
  refine (HL.out _ HX.out).mono ?_
  rintro e w3 ⟨he, Y, w2, hb1, hp, hb2⟩
  unfold enV at he
  subst he
  subst hp
  have ht : Turned q (some g) Y Y := Turned.refl _ _ _
  have hz : w.heap.size < w3.heap.size := by have := hb2.size; have := ht.2.2.2.1; have := hb1.size; simp at *; omega
  have K1 : Blk Y w.heap.size 29 #[.int .u64 0, .int .u64 0, .int .i64 0] := (Blk.new w _ _).below hb1 (by simp)
  have K2 := ht.blk K1 (by omega) (by simp; omega)
  have K := K2.below hb2 (by simp)
  have k0 := K.cell 0
  have k1 := K.cell 1
  have k2 := K.cell 2
  have f0 := K.frozen 0
  have f1 := K.frozen 1
  have f2 := K.frozen 2
  simp only [List.getElem?_toArray, List.getElem?_cons_zero, List.getElem?_cons_succ] at k0 k1 k2
  have HF := Lib.hid (show Below w.heap.size w w3 from below_trans HB0.out (hb1.trans hb2))
  clear hb1 hb2 ht K1 K2 K
  go_wp2
  refine bodyPost_ret (v := .tuple #[.agg #[.int .u64 x.1, .int .u64 x.2.1, .int .i64 x.2.2], .bool true]) ?_ rfl ⟨rfl, ?_⟩
  · simp [results, Try.results10, go_sem, *]
  · have hf := HF.out
    go_grown
def QPopPost (q g cap : Nat) (L : List En) (w : World) (e : Ending) (w' : World) : Prop :=
  e = enV (at_ L 0) true ∧ ∃ L', HG w' q g cap L' ∧ HeapTo L'.length L' ∧ (at_ L 0 :: L').Perm L ∧ Turned q (some g) w w'
def TakenP (q g cap : Nat) (L : List En) (X w' : World) : Prop := ∃ L', HG w' q g cap L' ∧ HeapTo L'.length L' ∧ (at_ L 0 :: L').Perm L ∧ Turned q (some g) X w'
set_option maxHeartbeats 2000000 in
theorem qpop_some (q g cap n : Nat) (L : List En) (w : World) (h : HG w q g cap L) (hh : HeapTo L.length L) (hn : L.length = n + 1) (hl : n ≤ 4398046511102) :
    Calls Try.prog 14 #[.pointer (some ⟨q, 0, none⟩)] w fun e w' => QPopPost q g cap L w e w' := by
  have HL := Lib.hid (fun X (hx : HG X q g cap L) => least_some q g cap 24 L (at_ L 0) (TakenP q g cap L) X hx (by omega) (callee_of Try.func24 (by kernel_rfl) rfl) (fun Y hb => (takeFirst_any q g cap n L Y (hx.below hb) hh hn hl).mono fun e w' ⟨h1, h2⟩ => ⟨h1, h2⟩) (fun X w2 ⟨_, _, _, _, h⟩ => h))
  have HH := Lib.hid h; have HHH := Lib.hid hh
  have hql := h.1.lt
  have hgl := h.2.lt
  have hB0 := (Below.refl w.heap.size w).alloc (Nat.le_refl _) (.cells #[.int .u64 0, .int .u64 0, .int .i64 0] 29)
  have HX := Lib.hid (HH.out.below hB0)
  have HB0 := Lib.hid hB0
  generalize hx0 : at_ L 0 = x at *
  have HX0 := Lib.hid hx0; clear hx0
  clear h hh hB0
  go_enter Try.func14, Try.ntmps14
  go_wp2_with fail
  refine (HL.out _ HX.out).mono ?_
  rintro e w3 ⟨he, Y, w2, hb1, hp, hb2⟩
  unfold enV at he
  subst he
  obtain ⟨L', hg, hh', hpm, ht⟩ := hp
  have hz : w.heap.size < w3.heap.size := by have := hb2.size; have := ht.2.2.2.1; have := hb1.size; simp at *; omega
  have K1 : Blk Y w.heap.size 29 #[.int .u64 0, .int .u64 0, .int .i64 0] := (Blk.new w _ _).below hb1 (by simp)
  have K2 := ht.blk K1 (by omega) (by simp; omega)
  have K := K2.below hb2 (by simp)
  have k0 := K.cell 0
  have k1 := K.cell 1
  have k2 := K.cell 2
  have f0 := K.frozen 0
  have f1 := K.frozen 1
  have f2 := K.frozen 2
  simp only [List.getElem?_toArray, List.getElem?_cons_zero, List.getElem?_cons_succ] at k0 k1 k2
  have hg3 : HG w3 q g cap L' := ⟨hg.1.below hb2 (by simp; omega), hg.2.keep (hb2.block g (by simp; omega))⟩
  have ht3 : Turned q (some g) w w3 := ⟨hb2.os.trans (ht.1.trans (hb1.os.trans HB0.out.os)), hb2.tape.trans (ht.2.1.trans (hb1.tape.trans HB0.out.tape)), hb2.output.trans (ht.2.2.1.trans (hb1.output.trans HB0.out.output)), Nat.le_of_lt hz, fun i hi hne hr => by
    have h1 := hb1.block i (by simp; omega)
    have h2 := ht.2.2.2.2 i (by have := hb1.size; simp at this; omega) hne hr
    have h3 := hb2.block i (by simp; omega)
    rw [h3, h2, h1]
    exact Below.heap_alloc w _ i hi⟩
  have HF := Lib.hid (show ∀ W : World, Below w.heap.size w3 W → ∃ L', HG W q g cap L' ∧ HeapTo L'.length L' ∧ (at_ L 0 :: L').Perm L ∧ Turned q (some g) w W from fun W hb => ⟨L', ⟨hg3.1.below hb (by omega), hg3.2.keep (hb.block g (by omega))⟩, hh', hpm, ⟨hb.os.trans ht3.1, hb.tape.trans ht3.2.1, hb.output.trans ht3.2.2.1, Nat.le_trans ht3.2.2.2.1 hb.size, fun i hi hne hr => (hb.block i hi).trans (ht3.2.2.2.2 i hi hne hr)⟩⟩)
  clear hb1 hb2 ht K1 K2 K hg hh' hpm hg3 ht3
  go_wp2
  refine bodyPost_ret (v := .tuple #[.agg #[.int .u64 x.1, .int .u64 x.2.1, .int .i64 x.2.2], .bool true]) ?_ rfl ⟨by rw [HX0.out]; rfl, HF.out _ ?_⟩
  · simp [results, Try.results14, go_sem, *]
  · refine Below.setCell (Below.setCell (Below.setCell (Below.refl _ _) ?_ _) ?_ _) ?_ _ <;> exact Nat.le_refl _
end Go.Proofs.Ytdmmglnpeoeicaa
