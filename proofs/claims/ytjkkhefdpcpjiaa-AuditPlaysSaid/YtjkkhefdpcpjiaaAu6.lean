/- audit: own, Count by contract. -/
import Derived.Test.YtjkkhefdpcpjiaaAu5
namespace Go.Proofs.Ytjkkhefdpcpjiaa
set_option linter.unusedVariables false
set_option linter.unusedSimpArgs false
open Go.RowKit Go.Shelf
attribute [local go_sem] Oper.semAt_some
set_option maxHeartbeats 1000000 in
theorem own_any (m : Nat) (q : Option Addr) (u : Int) (w : World) : CallsIn Fence.wide m Try.prog 26 #[.pointer q, .int .i64 u] w fun e w' =>
    e = .returned (.func (.func 28) #[] #[.pointer (some ⟨w.heap.size, 0, none⟩), .pointer (some ⟨w.heap.size + 1, 0, none⟩)]) ∧ w' = (w.alloc (.cells #[.pointer q] 23)).alloc (.cells #[.int .i64 u] 3) := by
  refine callsIn_wide.2 ?_
  go_enter Try.func26, Try.ntmps26
  go_wp2
  go_ret
  exact ⟨by simp, rfl⟩
theorem own_stops (m : Nat) (hm : 1 ≤ m) (bt bu y n0 : Nat) (v : Value) (H : List Ev) (n p : Nat) (u : Int) (w : World) (hT : TR w y v H n p) (hv : ∀ i, v.ownBlock = some i → i < n0) (hn : n0 ≤ w.heap.size) (ct : w.cell? ⟨bt, 0, none⟩ = some (ptrA y)) (cu : w.cell? ⟨bu, 0, none⟩ = some (.int .i64 u)) :
    SeqStopsK Fence.wide m Try.prog 28 #[.pointer (some ⟨bt, 0, none⟩), .pointer (some ⟨bu, 0, none⟩)] (fun x : Ev => #[Ev.V x]) (KpO n0 bt bu) (fun ys => ys = owns u (H.drop n)) (fun pre => pre <+: owns u (H.drop n)) (owns u (H.drop n)).length w := fun l J Jx W hW hJ _ hY h0 => by
  have hbt := World.block_lt_of_cell? w _ ct
  have hbu := World.block_lt_of_cell? w _ cu
  simp only at hbt hbu
  exact own1_in m hm l bt bu y n0 v H n p u J Jx W (hT.below hW) hv (Nat.le_trans hn hW.size) ((hW.cell (p := ⟨bt, 0, none⟩) hbt).trans ct) ((hW.cell (p := ⟨bu, 0, none⟩) hbu).trans cu) hJ hY h0
set_option maxRecDepth 100000 in
set_option maxHeartbeats 4000000 in
theorem own1_nil (m : Nat) (hm : 1 ≤ m) (l bt bu : Nat) (J : List Ev → World → Prop) (W : World) (ct : W.cell? ⟨bt, 0, none⟩ = some (.pointer none)) (hJ : AbidesFrom W.heap.size J) (h0 : J [] W) :
    CallsIn Fence.wide m Try.prog 28 #[.func (.yield l) #[] #[], .pointer (some ⟨bt, 0, none⟩), .pointer (some ⟨bu, 0, none⟩)] W fun e W' => (∃ v, e = .returned v) ∧ J [] W' := by
  refine callsIn_of_wp Try.func28 rfl trivial ?_ rfl
  simp only [Try.ntmps28, List.size_toArray, List.length_cons, List.length_nil, Nat.reduceAdd, Nat.reduceSub, Array.replicate_succ, Array.replicate_zero, List.push_toArray, List.append_toArray, List.nil_append, List.cons_append]
  have HJ := Lib.hid hJ
  have H0 := Lib.hid h0
  clear hJ h0
  gi_wp2_with (refine ⟨trivial, ?_⟩; gi_at_call 24; refine (callsIn_wide.2 (left_nil _)).mono ?_; rintro e w1 ⟨rfl, q, rfl⟩)
  have HJ1 := Lib.hid (HJ.out [] _ _ none H0.out (grown_drew W q none) (fun r e => by cases e))
  clear ct HJ H0
  generalize W.drewN q = W1 at *
  gi_loopw [9] (fun i wr => i = .int .i64 0 ∧ J [] wr) (fun _ _ => 0)
  case atStart => exact ⟨rfl, HJ1.out⟩
  case round =>
    obtain ⟨rfl, hJs⟩ := hrel
    gi_wp2
    go_end0
    exact ⟨⟨_, rfl⟩, hJs⟩
/-- What own hands back yields these. -/
def Yields (n0 : Nat) (w : World) (q : Option Addr) (u : Int) (R : List Ev) : Prop := ∀ (bt bu : Nat) (W : World), Below w.heap.size w W → n0 ≤ W.heap.size → W.cell? ⟨bt, 0, none⟩ = some (.pointer q) → W.cell? ⟨bu, 0, none⟩ = some (.int .i64 u) →
    SeqStopsK Fence.wide 8 Try.prog 28 #[.pointer (some ⟨bt, 0, none⟩), .pointer (some ⟨bu, 0, none⟩)] (fun x : Ev => #[Ev.V x]) (KpO n0 bt bu) (fun ys => ys = R) (fun pre => pre <+: R) R.length W
theorem yields_any {w : World} {y : Nat} {v : Value} {H : List Ev} {n p : Nat} (h : TR w y v H n p) (u : Int) : Yields w.heap.size w (some ⟨y, 0, none⟩) u (owns u (H.drop n)) := fun bt bu W hW hn ct cu =>
  own_stops 8 (by decide) bt bu y w.heap.size v H n p u W (h.below hW) (fun i hi => h.own.lt hi) hn ct cu
theorem yields_nil (w : World) (u : Int) : Yields w.heap.size w none u [] := fun bt bu W hW hn ct cu l J Jx W' hW' hJ _ hY h0 => by
  have hbt := World.block_lt_of_cell? W _ ct
  simp only at hbt
  exact (own1_nil 8 (by decide) l bt bu J W' ((hW'.cell (p := ⟨bt, 0, none⟩) hbt).trans ct) hJ h0).mono fun e w2 ⟨h1, h2⟩ => ⟨h1, .inl ⟨[], rfl, h2⟩⟩
theorem ownFrom_eown {α β : Type} {E : El α} (B : Nat) (L : β → List α) (P : β → Value → Prop) (b : Nat) (t : TypeId) : OwnFrom B (fun s W => ∃ v, Boxed W b t v ∧ EOwn E W v (L s) ∧ P s v) := by
  rintro s X Y row ⟨v, hv, hr, hP⟩ hg hrow
  refine ⟨v, hv.kept hg (fun e' => ?_), hr.keep (fun i hi e => hg.block i hi fun e' => ?_), hP⟩
  · obtain ⟨_, o, ho, hc⟩ := hrow b e'.symm
    rw [show X.heap[b]? = _ from hv] at ho; cases ho; cases hc
  · obtain ⟨_, o, ho, hc⟩ := hrow i e'.symm
    rcases hr with ⟨rfl, _⟩ | ⟨g, cap, rfl, cur, h1, _⟩
    · simp [Value.ownBlock] at e
    · simp [Value.ownBlock] at e
      subst e
      rw [show X.heap[g]? = _ from h1] at ho; cases ho; cases hc
set_option maxRecDepth 100000 in
set_option maxHeartbeats 4000000 in
theorem gcount_any (w : World) (y : Option Addr) (u : Int) (R : List Ev) (h : Yields w.heap.size w y u R) (hOL : R.length ≤ 1000000) :
    Calls Try.prog 17 #[.pointer y, .int .i64 u] w fun e w' => e = .returned (.int .i64 (R.length : Nat)) ∧ Below w.heap.size w w' := by
  have hro : Fence.wide.round = none := rfl
  refine (callsIn_wide (n := 9)).1 ?_
  refine callsIn_of_wp_marks Try.func17 rfl trivial ?_ rfl
  simp only [Try.ntmps17, List.size_toArray, List.length_cons, List.length_nil, Nat.reduceAdd, Nat.reduceSub, Array.replicate_succ, Array.replicate_zero, List.push_toArray, List.append_toArray, List.nil_append, List.cons_append]
  gi_wp2_with (refine ⟨trivial, ?_⟩; gi_at_call 26; refine (own_any 8 _ _ _).mono ?_; rintro e w1 ⟨rfl, rfl⟩)
  have bC := ((Boxed.new w 3 (.int .i64 0)).alloc (.cells #[Value.pointer y] 23)).alloc (.cells #[.int .i64 u] 3)
  have bT := (Boxed.new (w.alloc (.cells #[.int .i64 0] 3)) 23 (Value.pointer y)).alloc (.cells #[.int .i64 u] 3)
  have bU := Boxed.new ((w.alloc (.cells #[.int .i64 0] 3)).alloc (.cells #[Value.pointer y] 23)) 3 (.int .i64 u)
  simp only [World.size_alloc] at bT bU
  have hB0 : Below w.heap.size w (((w.alloc (.cells #[.int .i64 0] 3)).alloc (.cells #[Value.pointer y] 23)).alloc (.cells #[.int .i64 u] 3)) := (((Below.refl _ w).alloc (Nat.le_refl _) _).alloc (by simp) _).alloc (by simp; omega) _
  have hsz : (((w.alloc (.cells #[.int .i64 0] 3)).alloc (.cells #[Value.pointer y] 23)).alloc (.cells #[.int .i64 u] 3)).heap.size = w.heap.size + 3 := by simp
  have HS := Lib.hid h
  obtain ⟨W0, hW0⟩ : ∃ W0, ((w.alloc (.cells #[.int .i64 0] 3)).alloc (.cells #[Value.pointer y] 23)).alloc (.cells #[.int .i64 u] 3) = W0 := ⟨_, rfl⟩
  rw [hW0] at bC bT bU hB0 hsz ⊢
  clear hW0 h
  have HOL := Lib.hid hOL
  clear hOL
  refine wpIn_rangeFunc_ownG hro (by decide) (gf := 28) (lb := #[.pointer (some ⟨w.heap.size + 1, 0, none⟩), .pointer (some ⟨w.heap.size + 1 + 1, 0, none⟩)]) rfl trivial (enters_of Try.func28 (by kernel_rfl) rfl)
    (HS.out (w.heap.size + 1) (w.heap.size + 1 + 1) W0 hB0 (by omega) bT.cell bU.cell) KpO.trans (KpO.put (by omega) (by omega) (by omega)) (Below.refl _ _) (fun _ => rfl)
    (fun pre W => Boxed W w.heap.size 3 (.int .i64 (pre.length : Nat)) ∧ Below w.heap.size w W)
    (fun _ _ _ => False)
    (OwnFrom.and (Own.from (boxed_own _ _ _) _) (ownFrom_below (Nat.le_refl _) (by omega)))
    (fun _ _ _ _ _ hs _ _ => hs)
    ⟨bC, hB0⟩
    (fun x => { tmps := #[Value.pointer y, .int .i64 u, undef, undef, .int .i64 0, .pointer (some ⟨w.heap.size, 0, none⟩), Value.pointer y, .int .i64 u, .func (.func 28) #[] #[.pointer (some ⟨w.heap.size + 1, 0, none⟩), .pointer (some ⟨w.heap.size + 1 + 1, 0, none⟩)], Ev.V x, undef, undef, undef], defers := [] }) ?assign ?body ?done ?stop
  case assign =>
    intro l x W K hK
    gi_wp2
    simpa using hK
  case body =>
    rintro l pre x W ⟨bC1, hB1⟩ hlt
    have hpl : pre.length ≤ 1000000 := by have := HOL.out; omega
    have cC := bC1.cell
    have fC := bC1.frozen
    have zC := bC1.lt
    clear hlt
    gi_wp2
    refine ⟨(KeepsOthers.setCell _ _ _).from _, ⟨(Below.refl _ W).setCell (p := ⟨w.heap.size, 0, none⟩) (Nat.le_refl _) _, fun _ => Below.heap_setCell W _ _ _ (by simp), fun _ => Below.heap_setCell W _ _ _ (by simp; omega)⟩, ?_, hB1.setCell (p := ⟨w.heap.size, 0, none⟩) (Nat.le_refl _) _⟩
    have h9 := bC1.set (.int .i64 ((pre.length : Int) + 1))
    rw [show ((pre ++ [x]).length : Int) = (pre.length : Int) + 1 by simp]
    exact h9
  case done =>
    rintro D ys W hD rfl ⟨bC1, hB1⟩ hK
    have cC := bC1.cell
    gi_wp2
    refine ⟨by simp, .inl ⟨_, _, rfl, run_takeDeferred hK, ?_⟩⟩
    exact ⟨_, results_tmp rfl _ _ _, rfl, hB1.trans (belowK_b (w := w) (Nat.le_refl _) W D _ _ (by omega) hK rfl rfl)⟩
  case stop =>
    rintro D c pre W _ _ h _
    exact h.elim
theorem acount_any (w : World) (y : Nat) (v : Value) (H : List Ev) (n p : Nat) (u : Int) (h : TR w y v H n p) (hl : H.length ≤ 1000000) :
    Calls Try.prog 17 #[ptrA y, .int .i64 u] w fun e w' => e = .returned (.int .i64 ((owns u (H.drop n)).length : Nat)) ∧ Below w.heap.size w w' :=
  gcount_any w _ u _ (yields_any h u) (by have := owns_len u (H.drop n); simp at this; omega)
theorem acount_nil (w : World) (u : Int) : Calls Try.prog 17 #[.pointer none, .int .i64 u] w fun e w' => e = .returned (.int .i64 0) ∧ Below w.heap.size w w' :=
  gcount_any w _ u _ (yields_nil w u) (by simp)
end Go.Proofs.Ytjkkhefdpcpjiaa
