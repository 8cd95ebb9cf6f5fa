/- pyramid: what a level counts; a pyramid as it lies. -/
import Derived.Test.YtdbiaijpbkmfhaaPyM
import Derived.Test.YtdbiaijpbkmfhaaCellAbove
namespace Go.Proofs.Ytdbiaijpbkmfhaa
set_option linter.unusedVariables false
set_option linter.unusedSimpArgs false
open Go.RowKit
/-- The code of a point's cell of a level. -/
def codeAt (l : Nat) (p : Pn) : Int := codU (l : Int) (a1 16 p.1 p.2 (l : Int)) (a2 16 p.1 p.2 (l : Int))
def cnt (S : List Pn) (l : Nat) (c : Int) : Nat := S.countP (fun p => codeAt l p == c)
def nd : List Int → Nat
  | [] => 0
  | a :: r => if a ∈ r then nd r else nd r + 1
theorem nd_perm {a b : List Int} (h : a.Perm b) : nd a = nd b := by
  induction h with
  | nil => rfl
  | cons x h ih => simp only [nd, h.mem_iff, ih]
  | swap x y l =>
    simp only [nd, List.mem_cons]
    by_cases h : x = y
    · subst h; simp
    · have h2 : ¬ y = x := fun e => h e.symm
      simp only [h, h2, false_or]
      by_cases hx : x ∈ l <;> by_cases hy : y ∈ l <;> simp [hx, hy]
  | trans _ _ h1 h2 => exact h1.trans h2
theorem cnt_perm {S T : List Pn} (h : S.Perm T) (l : Nat) (c : Int) : cnt S l c = cnt T l c := h.countP_eq _
theorem cnt_pos {S : List Pn} {l : Nat} {c : Int} : cnt S l c ≠ 0 ↔ c ∈ S.map (codeAt l) := by
  unfold cnt
  rw [Nat.ne_zero_iff_zero_lt, List.countP_pos_iff, List.mem_map]
  constructor
  · rintro ⟨p, hp, h⟩; exact ⟨p, hp, by simpa using h⟩
  · rintro ⟨p, hp, h⟩; exact ⟨p, hp, by simpa using h⟩
theorem cnt_cons (p : Pn) (S : List Pn) (l : Nat) (c : Int) : cnt (p :: S) l c = if c = codeAt l p then cnt S l c + 1 else cnt S l c := by
  unfold cnt
  rw [List.countP_cons]
  by_cases h : c = codeAt l p
  · subst h; simp
  · have : ¬ codeAt l p = c := fun e => h e.symm
    simp [h, this]
theorem nd_cons (p : Pn) (S : List Pn) (l : Nat) : nd ((p :: S).map (codeAt l)) = if cnt S l (codeAt l p) = 0 then nd (S.map (codeAt l)) + 1 else nd (S.map (codeAt l)) := by
  simp only [List.map_cons, nd]
  by_cases h : cnt S l (codeAt l p) = 0
  · have : ¬ codeAt l p ∈ S.map (codeAt l) := fun e => cnt_pos.2 e h
    simp [h, this]
  · simp [h, cnt_pos.1 h]
/-- What a level's map has. -/
def cH (S : List Pn) (l : Nat) : Int → Option Int := fun c => if cnt S l c = 0 then none else some (cnt S l c : Int)
theorem cH_get (S : List Pn) (l : Nat) (c : Int) : (cH S l c).getD 0 = (cnt S l c : Int) := by
  unfold cH
  split
  · rename_i h; simp [h]
  · rfl
theorem cH_some (S : List Pn) (l : Nat) (c : Int) : (cH S l c).isSome = decide (cnt S l c ≠ 0) := by
  unfold cH
  split <;> simp [*]
theorem cH_cons (p : Pn) (S : List Pn) (l : Nat) : putH (cH S l) (codeAt l p) ((cnt S l (codeAt l p) : Int) + 1) = cH (p :: S) l := by
  funext j
  unfold putH cH
  rw [cnt_cons]
  by_cases h : j = codeAt l p
  · subst h; simp
  · simp [h]
theorem cH_perm {S T : List Pn} (h : S.Perm T) (l : Nat) : cH S l = cH T l := by
  funext j; unfold cH; rw [cnt_perm h]
/-- The value of a level: a map of its counts; nil only where there are no points. -/
def LV (w : World) (v : Value) (S : List Pn) (l B : Nat) : Prop :=
  (v = Value.map none ∧ S = []) ∨ ∃ m n, v = Value.map (some m) ∧ n ≤ B ∧ MapP w m n (cH S l) (nd (S.map (codeAt l)))
theorem LV.perm {w : World} {v : Value} {S T : List Pn} {l B : Nat} (h : LV w v S l B) (hp : S.Perm T) : LV w v T l B := by
  rcases h with ⟨h1, rfl⟩ | ⟨m, n, h1, h2, h3⟩
  · exact .inl ⟨h1, hp.symm.eq_nil⟩
  · refine .inr ⟨m, n, h1, h2, ?_⟩
    rw [← cH_perm hp, ← nd_perm (hp.map _)]
    exact h3
theorem LV.more {w : World} {v : Value} {S : List Pn} {l B C : Nat} (h : LV w v S l B) (hB : B ≤ C) : LV w v S l C := by
  rcases h with h | ⟨m, n, h1, h2, h3⟩
  · exact .inl h
  · exact .inr ⟨m, n, h1, Nat.le_trans h2 hB, h3⟩
theorem LV.keep {w w' : World} {v : Value} {S : List Pn} {l B : Nat} (h : LV w v S l B) (hk : ∀ m, v = Value.map (some m) → w'.heap[m]? = w.heap[m]?) : LV w' v S l B := by
  rcases h with h | ⟨m, n, h1, h2, h3⟩
  · exact .inl h
  · exact .inr ⟨m, n, h1, h2, h3.keep (hk m h1)⟩
theorem LV.lt {w : World} {v : Value} {S : List Pn} {l B m : Nat} (h : LV w v S l B) (hv : v = Value.map (some m)) : m < w.heap.size := by
  rcases h with ⟨h, _⟩ | ⟨m', n, h1, h2, h3⟩
  · rw [h] at hv; cases hv
  · rw [h1] at hv; cases hv; exact h3.lt
structure PyR (w : World) (y : Nat) (cs : Array Value) (P : Nat → List Pn) (B : Nat) : Prop where
  hq : Blk w y 58 cs
  hs : cs.size = 17
  hl : ∀ l, l < 17 → ∃ v, cs[l]? = some v ∧ LV w v (P l) l B
  sep : ∀ l l' m : Nat, cs[l]? = some (Value.map (some m)) → cs[l']? = some (Value.map (some m)) → l = l'
/-- Block i is none of the pyramid's own. -/
def Out (y : Nat) (cs : Array Value) (i : Nat) : Prop := i ≠ y ∧ ∀ l : Nat, cs[l]? ≠ some (Value.map (some i))
/-- All but the pyramid's own is kept; what is its own now was so, or is new. -/
def Kp (y : Nat) (cs : Array Value) (w : World) (cs' : Array Value) (w' : World) : Prop :=
  w'.os = w.os ∧ w'.tape = w.tape ∧ w'.output = w.output ∧ w.heap.size ≤ w'.heap.size ∧ (∀ i, i < w.heap.size → Out y cs i → w'.heap[i]? = w.heap[i]?) ∧ ∀ (l : Nat) (i : Nat), cs'[l]? = some (Value.map (some i)) → (∃ k : Nat, cs[k]? = some (Value.map (some i))) ∨ w.heap.size ≤ i
theorem Kp.refl (y : Nat) (cs : Array Value) (w : World) : Kp y cs w cs w := ⟨rfl, rfl, rfl, Nat.le_refl _, fun _ _ _ => rfl, fun l i h => .inl ⟨l, h⟩⟩
theorem Kp.out {y : Nat} {cs cs' : Array Value} {w w' : World} (h : Kp y cs w cs' w') {i : Nat} (hi : i < w.heap.size) (ho : Out y cs i) : Out y cs' i :=
  ⟨ho.1, fun l e => by
    rcases h.2.2.2.2.2 l i e with ⟨k, hk⟩ | hk
    · exact ho.2 k hk
    · omega⟩
theorem Kp.trans {y : Nat} {c1 c2 c3 : Array Value} {a b c : World} (h : Kp y c1 a c2 b) (k : Kp y c2 b c3 c) : Kp y c1 a c3 c :=
  ⟨k.1.trans h.1, k.2.1.trans h.2.1, k.2.2.1.trans h.2.2.1, Nat.le_trans h.2.2.2.1 k.2.2.2.1, fun i hi ho => (k.2.2.2.2.1 i (Nat.lt_of_lt_of_le hi h.2.2.2.1) (h.out hi ho)).trans (h.2.2.2.2.1 i hi ho), fun l i e => by
    rcases k.2.2.2.2.2 l i e with ⟨l2, e2⟩ | e2
    · exact h.2.2.2.2.2 l2 i e2
    · exact .inr (Nat.le_trans h.2.2.2.1 e2)⟩
theorem Kp.below {y : Nat} {cs cs' : Array Value} {a b c : World} (h : Kp y cs a cs' b) (hb : Below b.heap.size b c) : Kp y cs a cs' c :=
  h.trans ⟨hb.os, hb.tape, hb.output, hb.size, fun i hi _ => hb.block i hi, fun l i e => .inl ⟨l, e⟩⟩
theorem Kp.of_below {y : Nat} {cs : Array Value} {w w' : World} (hb : Below w.heap.size w w') : Kp y cs w cs w' := (Kp.refl _ _ _).below hb
theorem Kp.blk {y : Nat} {cs cs' : Array Value} {w w' : World} (h : Kp y cs w cs' w') {g : Nat} {t : TypeId} {xs : Array Value} (hb : Blk w g t xs) (ho : Out y cs g) : Blk w' g t xs := (h.2.2.2.2.1 g hb.lt ho).trans hb
theorem PyR.lt {w : World} {y : Nat} {cs : Array Value} {P : Nat → List Pn} {B : Nat} (h : PyR w y cs P B) {l m : Nat} (e : cs[l]? = some (Value.map (some m))) : m < w.heap.size := by
  have hl : l < 17 := by have := (Array.getElem?_eq_some_iff.1 e).1; rw [h.hs] at this; exact this
  obtain ⟨v, hv, hL⟩ := h.hl l hl
  rw [e] at hv
  exact hL.lt (Option.some.inj hv).symm
theorem PyR.out {w : World} {y : Nat} {cs : Array Value} {P : Nat → List Pn} {B : Nat} (h : PyR w y cs P B) {i : Nat} (hi : w.heap.size ≤ i) : Out y cs i :=
  ⟨fun e => by have := h.hq.lt; omega, fun l e => by have := h.lt e; omega⟩
theorem PyR.keep {w w' : World} {y : Nat} {cs : Array Value} {P : Nat → List Pn} {B : Nat} (h : PyR w y cs P B) (hb : ∀ i, i < w.heap.size → w'.heap[i]? = w.heap[i]?) : PyR w' y cs P B :=
  { h with
    hq := (hb y h.hq.lt).trans h.hq
    hl := fun l hl => by
      obtain ⟨v, hv, hL⟩ := h.hl l hl
      exact ⟨v, hv, hL.keep fun m hm => hb m (hL.lt hm)⟩ }
theorem PyR.below {w w' : World} {y : Nat} {cs : Array Value} {P : Nat → List Pn} {B : Nat} (h : PyR w y cs P B) (hb : Below w.heap.size w w') : PyR w' y cs P B := h.keep hb.block
theorem PyR.alloc {w : World} {y : Nat} {cs : Array Value} {P : Nat → List Pn} {B : Nat} (h : PyR w y cs P B) (o : Obj) : PyR (w.alloc o) y cs P B := h.below ((Below.refl _ _).alloc (Nat.le_refl _) _)
theorem PyR.drew {w : World} {y : Nat} {cs : Array Value} {P : Nat → List Pn} {B : Nat} (h : PyR w y cs P B) : PyR w.drew y cs P B := h.keep fun _ _ => rfl
theorem PyR.perm {w : World} {y : Nat} {cs : Array Value} {P Q : Nat → List Pn} {B : Nat} (h : PyR w y cs P B) (hp : ∀ l, (P l).Perm (Q l)) : PyR w y cs Q B :=
  { h with
    hl := fun l hl => by
      obtain ⟨v, hv, hL⟩ := h.hl l hl
      exact ⟨v, hv, hL.perm (hp l)⟩ }
def updP (P : Nat → List Pn) (l : Nat) (S : List Pn) : Nat → List Pn := fun k => if k = l then S else P k
/-- A level's map is made. -/
theorem PyR.make {w : World} {y : Nat} {cs : Array Value} {P : Nat → List Pn} {B l : Nat} (h : PyR w y cs P B) (hl : l < 17) (hv : cs[l]? = some (Value.map none)) :
    PyR ((w.alloc (.map #[] 0)).setCell ⟨y, l, none⟩ (Value.map (some w.heap.size))) y (cs.setIfInBounds l (Value.map (some w.heap.size))) P B ∧
    Kp y cs w (cs.setIfInBounds l (Value.map (some w.heap.size))) ((w.alloc (.map #[] 0)).setCell ⟨y, l, none⟩ (Value.map (some w.heap.size))) := by
  have hA := h.alloc (.map #[] 0)
  have hsz : (w.alloc (.map #[] 0)).heap.size = w.heap.size + 1 := by simp
  have hP : P l = [] := by
    obtain ⟨v, hv2, hL⟩ := h.hl l hl
    rw [hv] at hv2
    cases hv2
    rcases hL with ⟨_, h2⟩ | ⟨m, n, h1, _⟩
    · exact h2
    · cases h1
  have hset : ∀ k : Nat, (cs.setIfInBounds l (Value.map (some w.heap.size)))[k]? = if k = l then some (Value.map (some w.heap.size)) else cs[k]? := fun k => by
    rw [Array.getElem?_setIfInBounds]
    by_cases e : k = l
    · subst e; simp [h.hs, hl]
    · rw [if_neg (fun x => e x.symm), if_neg e]
  refine ⟨{ hq := hA.hq.set_ l _, hs := by simp [h.hs], hl := fun k hk => ?_, sep := fun a b m ha hb => ?_ }, rfl, rfl, rfl, by simp, fun i hi ho => ?_, fun k i e => ?_⟩
  · rw [hset]
    by_cases e : k = l
    · subst e
      refine ⟨_, if_pos rfl, ?_⟩
      rw [hP]
      refine .inr ⟨w.heap.size, 0, rfl, Nat.zero_le _, ?_⟩
      have hm := MapP.made w
      have := hm.keep (w' := (w.alloc (.map #[] 0)).setCell ⟨y, k, none⟩ (Value.map (some w.heap.size))) (Below.heap_setCell _ _ _ _ (fun e2 => by have := h.hq.lt; simp only at e2; omega))
      exact this
    · obtain ⟨v, hv2, hL⟩ := hA.hl k hk
      refine ⟨v, by rw [if_neg e]; exact hv2, hL.keep fun m hm => Below.heap_setCell _ _ _ _ (fun e2 => ?_)⟩
      rcases hL with ⟨h1, _⟩ | ⟨m', n, h1, _, h3⟩
      · rw [h1] at hm; cases hm
      · rw [h1] at hm; cases hm
        obtain ⟨D, ⟨es, clock, hb, _⟩, _⟩ := h3
        have := hA.hq
        unfold Blk at this
        simp only at e2
        subst e2
        rw [hb] at this
        cases this
  · rw [hset] at ha hb
    by_cases e1 : a = l <;> by_cases e2 : b = l
    · rw [e1, e2]
    · rw [if_pos e1] at ha; rw [if_neg e2] at hb
      have := h.lt hb
      cases ha
      omega
    · rw [if_neg e1] at ha; rw [if_pos e2] at hb
      have := h.lt ha
      cases hb
      omega
    · rw [if_neg e1] at ha; rw [if_neg e2] at hb
      exact h.sep a b m ha hb
  · rw [Below.heap_setCell _ _ _ _ (fun e => ho.1 (by simpa using e))]
    exact Below.heap_alloc w _ i hi
  · rw [hset] at e
    split at e
    · cases e; exact .inr (Nat.le_refl _)
    · exact .inl ⟨k, e⟩
/-- A level's map is turned. -/
theorem PyR.turn {w w' : World} {y : Nat} {cs : Array Value} {P : Nat → List Pn} {B C l m n : Nat} {S : List Pn} (h : PyR w y cs P B) (hl : l < 17) (hv : cs[l]? = some (Value.map (some m))) (hg : w.grownBy w' (some m)) (hBC : B ≤ C) (hn : n ≤ C) (hm : MapP w' m n (cH S l) (nd (S.map (codeAt l)))) :
    PyR w' y cs (updP P l S) C ∧ Kp y cs w cs w' := by
  have hmy : y ≠ m := by
    intro e
    obtain ⟨v, hv2, hL⟩ := h.hl l hl
    rw [hv] at hv2; cases hv2
    rcases hL with ⟨h1, _⟩ | ⟨m', n, h1, _, h3⟩
    · cases h1
    · cases h1
      obtain ⟨D, ⟨es, clock, hb, _⟩, _⟩ := h3
      have := h.hq
      unfold Blk at this
      rw [e, hb] at this
      cases this
  refine ⟨{ h with hq := h.hq.grown hg (fun e => hmy (by injection e)), hl := fun k hk => ?_ }, hg.os, hg.tape, hg.output, hg.size, fun i hi ho => hg.block i hi (fun e => ho.2 l (by rw [hv]; injection e with e; rw [e])), fun k i e => .inl ⟨k, e⟩⟩
  by_cases e : k = l
  · subst e
    exact ⟨_, hv, by rw [updP, if_pos rfl]; exact .inr ⟨m, n, rfl, hn, hm⟩⟩
  · obtain ⟨v, hv2, hL⟩ := h.hl k hk
    refine ⟨v, hv2, ?_⟩
    rw [updP, if_neg e]
    refine (hL.more hBC).keep fun m' hm' => hg.block m' (hL.lt hm') (fun e2 => ?_)
    injection e2 with e2
    subst e2
    rw [hm'] at hv2
    exact e (h.sep k l m' hv2 hv)
end Go.Proofs.Ytdbiaijpbkmfhaa
