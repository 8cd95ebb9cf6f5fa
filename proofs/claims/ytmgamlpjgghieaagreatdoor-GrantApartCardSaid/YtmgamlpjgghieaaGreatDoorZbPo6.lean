/- policy: all declarations are read, by contract. -/
import Derived.Test.YtmgamlpjgghieaaGreatDoorZbPo5
import Derived.Deep.MidRow
namespace Go.Proofs.YtmgamlpjgghieaaGreatDoor
set_option linter.unusedVariables false
set_option linter.unusedSimpArgs false
open Go.RowKit
/-- Nothing is read twice. -/
theorem takesL_le (s : Bs) (L : List Tk) : (takesL s L).length ≤ L.length := by unfold takesL; split <;> simp
theorem whoW_le (L : List Tk) (w : Wh) : (whoW L w).2.1.length ≤ L.length := by
  unfold whoW
  split
  · simp
  · split
    · simp
    · exact kindL_le _ _
theorem whereW_le (L : List Tk) (w : Wh) : (whereW L w).2.1.length ≤ L.length := by
  unfold whereW
  split
  · simp
  · exact kindL_le _ _
theorem tiersM_le (q : PS) : (tiersM q).2.1.length ≤ q.1.length := by
  unfold tiersM
  split
  · simp
  · split
    · split
      · refine Nat.le_trans (kindL_le _ _) ?_; simp; omega
      · simp
    · exact Nat.le_refl _
theorem fourL_le (L : List Tk) : (fourL L).length ≤ L.length := by
  unfold fourL
  split
  · split
    · split
      · refine Nat.le_trans (kindL_le _ _) ?_; simp; omega
      · simp; omega
    · simp
  · exact Nat.le_refl _
theorem boxesF_le : ∀ n L a, (boxesF n L a).2.1.length ≤ L.length := by
  intro n
  induction n with
  | zero => intro L a; exact Nat.le_refl _
  | succ n ih =>
    intro L a
    have h1 := fourL_le L
    unfold boxesF
    split
    · split
      · refine Nat.le_trans (ih _ _) ?_; simp; omega
      · exact h1
    · exact h1
theorem andM_le {f g : PM} (hf : ∀ q, (f q).2.1.length ≤ q.1.length) (hg : ∀ q, (g q).2.1.length ≤ q.1.length) (q : PS) : (andM f g q).2.1.length ≤ q.1.length := by
  unfold andM
  split
  · exact Nat.le_trans (hg _) (hf _)
  · exact hf _
theorem takesM_le (s : Bs) (q : PS) : (takesM s q).2.1.length ≤ q.1.length := takesL_le s q.1
theorem afterM_le (s : Bs) {g : PM} (hg : ∀ q, (g q).2.1.length ≤ q.1.length) (q : PS) : (afterM s g q).2.1.length ≤ q.1.length := andM_le (takesM_le s) hg q
theorem bodyM_le (q : PS) : (bodyM q).2.1.length ≤ q.1.length := by
  have hN : ∀ q, (nmM q).2.1.length ≤ q.1.length := fun q => kindL_le _ _
  have hV : ∀ q, (valM q).2.1.length ≤ q.1.length := fun q => kindL_le _ _
  have hZ : ∀ q, (zoomM q).2.1.length ≤ q.1.length := fun q => kindL_le _ _
  have hB : ∀ q, (boxesM q).2.1.length ≤ q.1.length := fun q => boxesF_le _ _ _
  have hR : ∀ q, (roleM q).2.1.length ≤ q.1.length := fun q => whoW_le _ _
  have hL : ∀ q, (labelM q).2.1.length ≤ q.1.length := fun q => whoW_le _ _
  have hW : ∀ q, (whereM q).2.1.length ≤ q.1.length := fun q => whereW_le _ _
  unfold bodyM
  split
  · exact andM_le hN (afterM_le _ hV) q
  · split
    · exact andM_le hN (afterM_le _ hB) q
    · split
      · exact andM_le (afterM_le _ hR) (andM_le (afterM_le _ tiersM_le) (andM_le (afterM_le _ hL) (andM_le (afterM_le _ hW) (afterM_le _ hZ)))) q
      · split
        · exact afterM_le _ hR q
        · exact Nat.le_refl _
theorem headM_le (q : PS) : (headM q).2.1.length ≤ q.1.length := by
  unfold headM
  split <;> simp
theorem headM_bx (q : PS) : (headM q).2.2.bx = q.2.bx := by
  unfold headM
  split <;> rfl
/-- A row of declarations, each with its row of boxes. -/
structure RV where
  A : Option Addr
  n : Nat
  c : Nat
def RV.v (x : RV) : Value := .slice x.A x.n x.c
theorem EOwn.apart {α β : Type} {E : El α} {F : El β} (hT : E.T ≠ F.T) {w : World} {v u : Value} {L : List α} {M : List β} (h : EOwn E w v L) (k : EOwn F w u M) {i : Nat} (hi : v.ownBlock = some i) : u.ownBlock ≠ some i := by
  intro hj
  rcases h with ⟨rfl, _⟩ | ⟨g, cap, rfl, cur, h1, _⟩
  · simp [Value.ownBlock] at hi
  · rcases k with ⟨rfl, _⟩ | ⟨g', cap', rfl, cur', h1', _⟩
    · simp [Value.ownBlock] at hj
    · simp [Value.ownBlock] at hi hj
      subst hi; subst hj
      exact (Blk.ne_ h1 h1' hT) rfl
def setsA (cs : Array Value) : Nat → List Value → Array Value
  | _, [] => cs
  | i, v :: vs => setsA (cs.set! i v) (i + 1) vs
theorem Blk.sets {r : Nat} {t : TypeId} : ∀ (vs : List Value) (w : World) (cs : Array Value) (i : Nat), Blk w r t cs → Blk (w.setCells r i vs) r t (setsA cs i vs) := by
  intro vs
  induction vs with
  | nil => intro w cs i h; exact h
  | cons v vs ih => intro w cs i h; exact ih _ _ _ (h.set_ i v)
theorem But.sets {r : Nat} : ∀ (vs : List Value) (w : World) (i : Nat), But r w (w.setCells r i vs) := by
  intro vs
  induction vs with
  | nil => intro w i; exact But.refl _ _
  | cons v vs ih => intro w i; exact (But.set w i v).trans (ih _ _)
theorem But.belowB {r : Nat} {w a b : World} (h : But r w a) (k : Below w.heap.size a b) : But r w b := ⟨k.os.trans h.os, k.tape.trans h.tape, k.output.trans h.output, Nat.le_trans h.size k.size, fun i hi hr => (k.block i hi).trans (h.block i hi hr)⟩
theorem But.of_appended {α : Type} {E : El α} {B : Nat} {w w' : World} {v v' : Value} {L : List α} (hA : EAppended E v L w v' w') (hB : B ≤ w.heap.size) (hv : ∀ i, v.ownBlock = some i → B ≤ i) : Below B w w' := (hA.below hB hv).1
theorem headM_lt {q : PS} (h : (headM q).1 = true) : (headM q).2.1.length + 1 = q.1.length := by
  unfold headM at h ⊢
  cases hF : headF q.1 with
  | none => simp [hF] at h
  | some k =>
    simp only
    unfold headF at hF
    have h2 : takesB (headsL.getD k []) q.1 = true := by simpa using List.find?_some hF
    exact takes_cons h2
theorem dcells_one (d : Dc) {bv : Value} (h : bv.oneCell' = true) : (dcells d bv).toArray.all (·.oneCell') = true :=
  all_oneCell_toArray fun v hv => by
    simp only [dcells, List.mem_cons, List.not_mem_nil, or_false] at hv
    rcases hv with rfl | rfl | rfl | rfl | rfl | rfl | rfl | rfl | rfl | rfl | rfl | rfl | rfl | rfl | rfl | rfl | rfl | rfl | rfl | rfl | rfl | rfl | rfl | rfl <;> first | rfl | exact h
end Go.Proofs.YtmgamlpjgghieaaGreatDoor
