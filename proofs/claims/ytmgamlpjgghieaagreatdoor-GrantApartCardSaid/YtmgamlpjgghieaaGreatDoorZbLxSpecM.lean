/- Texts: LxSpec, Lx1, Lx2, Lx3, LxRow, Lx4, Lx5. -/
import Derived.Test.YtmgamlpjgghieaaGreatDoorZbBlk
import Derived.Test.YtmgamlpjgghieaaGreatDoorRows
import Derived.Lib.Hide
import Derived.BigQuiet
import Derived.Deep.QuietTactic
import Derived.Deep.AppendSrc
import Derived.Laws.BytesArg
namespace Go.Proofs.YtmgamlpjgghieaaGreatDoor
section
set_option linter.unusedVariables false
set_option linter.unusedSimpArgs false
open Go.RowKit
abbrev Bs := List UInt8
def bs (l : Bs) : ByteArray := ⟨l.toArray⟩
theorem bs_size (l : Bs) : (bs l).size = l.length := by simp [bs, ByteArray.size]
theorem bs_self (s : ByteArray) : bs s.data.toList = s := by cases s; simp [bs]
theorem bs_inj {a b : Bs} (h : bs a = bs b) : a = b := by simpa [bs] using h
def isLet (c : UInt8) : Bool := decide (97 ≤ c.toNat) && decide (c.toNat ≤ 122)
def isDg (c : UInt8) : Bool := decide (48 ≤ c.toNat) && decide (c.toNat ≤ 57)
def ofNm (c : UInt8) : Bool := isLet c || isDg c || c.toNat == 45
def isBl (c : UInt8) : Bool := c.toNat == 32 || c.toNat == 10
def ofLn (c : UInt8) : Bool := !(c.toNat == 10)
abbrev Pl := Int × Int
def adv (p : Pl) (c : UInt8) : Pl := if c.toNat = 10 then (p.1 + 1, 1) else (p.1, p.2 + 1)
def advs (p : Pl) (l : Bs) : Pl := l.foldl adv p
theorem advs_app (p : Pl) (a b : Bs) : advs p (a ++ b) = advs (advs p a) b := List.foldl_append
/-- What is next: -1: nothing. -/
def nx : Bs → Int
  | [] => -1
  | c :: _ => (c.toNat : Int)
def on (f : UInt8 → Bool) : Bs → Bool
  | [] => false
  | c :: _ => f c
/-- Behind blanks and remarks; the flag: within a remark. -/
def skp : Bool → Bs → Pl → Bs × Pl
  | _, [], p => ([], p)
  | b, c :: l, p => if (b || isBl c || c.toNat == 35) = true then skp ((b || c.toNat == 35) && !(c.toNat == 10)) l (adv p c) else (c :: l, p)
/-- What a place may be. -/
def OkP (l : Bs) (p : Pl) : Prop := l.length ≤ 512 ∧ 1 ≤ p.1 ∧ p.1 + l.length ≤ 1000 ∧ 1 ≤ p.2 ∧ p.2 + l.length ≤ 1000
theorem OkP.step {c : UInt8} {l : Bs} {p : Pl} (h : OkP (c :: l) p) : OkP l (adv p c) := by
  unfold OkP at *
  simp only [List.length_cons] at h
  unfold adv
  split <;> simp only <;> omega
theorem OkP.steps {a l : Bs} : ∀ {p : Pl}, OkP (a ++ l) p → OkP l (advs p a) := by
  induction a with
  | nil => intro p h; exact h
  | cons c a ih => intro p h; exact ih (OkP.step h)
theorem skp_take (f : UInt8 → Bool) (b : Bool) (hf : ∀ c, f c = true → (b || isBl c || c.toNat == 35) = true ∧ ((b || c.toNat == 35) && !(c.toNat == 10)) = b) : ∀ (l : Bs) (p : Pl), skp b l p = skp b (l.dropWhile f) (advs p (l.takeWhile f)) := by
  intro l
  induction l with
  | nil => intro p; rfl
  | cons c l ih =>
    intro p
    by_cases h : f c = true
    · obtain ⟨h1, h2⟩ := hf c h
      rw [List.dropWhile_cons_of_pos h, List.takeWhile_cons_of_pos h, skp, if_pos h1, h2, ih]
      rfl
    · rw [List.dropWhile_cons_of_neg h, List.takeWhile_cons_of_neg h]
      rfl
theorem skp_bl (l : Bs) (p : Pl) : skp false l p = skp false (l.dropWhile isBl) (advs p (l.takeWhile isBl)) := by
  refine skp_take isBl false (fun c h => ⟨by simp [h], ?_⟩) l p
  have : ¬ c.toNat = 35 := by
    intro e; simp [isBl, e] at h
  simp [this]
theorem skp_ln (l : Bs) (p : Pl) : skp true l p = skp true (l.dropWhile ofLn) (advs p (l.takeWhile ofLn)) :=
  skp_take ofLn true (fun c h => ⟨by simp, by simpa [ofLn] using h⟩) l p
theorem skp_end (l : Bs) (p : Pl) (h : on ofLn l = false) : skp true l p = skp false l p := by
  cases l with
  | nil => rfl
  | cons c l =>
    have hc : c.toNat = 10 := by simpa [on, ofLn] using h
    rw [skp, skp]
    simp [hc, isBl]
theorem on_drop (f : UInt8 → Bool) (l : Bs) : on f (l.dropWhile f) = false := by
  induction l with
  | nil => rfl
  | cons c l ih =>
    by_cases h : f c = true
    · rw [List.dropWhile_cons_of_pos h]; exact ih
    · rw [List.dropWhile_cons_of_neg h]; simpa [on] using h
/-- A remark: its `#`, and the bytes of its line. -/
theorem skp_rem {l : Bs} (p : Pl) (h : nx l = 35) : skp false l p = skp false (l.dropWhile ofLn) (advs p (l.takeWhile ofLn)) := by
  cases l with
  | nil => simp [nx] at h
  | cons c l =>
    have hc : c.toNat = 35 := by simp [nx] at h; omega
    have e : skp false (c :: l) p = skp true (c :: l) p := by
      rw [skp, skp]
      simp [hc]
    rw [e, skp_ln, skp_end _ _ (on_drop ofLn _)]
theorem skp_stop {l : Bs} (p : Pl) (h1 : on isBl l = false) (h2 : nx l ≠ 35) : skp false l p = (l, p) := by
  cases l with
  | nil => rfl
  | cons c l =>
    have hb : isBl c = false := h1
    have hc : ¬ c.toNat = 35 := fun e => h2 (by simp [nx, e])
    rw [skp]
    simp [hb, hc]
theorem dropWhile_lt {f : UInt8 → Bool} {l : Bs} (h : on f l = true) : (l.dropWhile f).length < l.length := by
  cases l with
  | nil => cases h
  | cons c l =>
    have hc : f c = true := h
    rw [List.dropWhile_cons_of_pos hc]
    have := (List.dropWhile_suffix f (l := l)).length_le
    simp only [List.length_cons]; omega
end
section
set_option linter.unusedVariables false
set_option linter.unusedSimpArgs false
open Go.RowKit
/-- All blocks but one are kept. -/
structure But (r : Nat) (w w' : World) : Prop where
  os : w'.os = w.os
  tape : w'.tape = w.tape
  output : w'.output = w.output
  size : w.heap.size ≤ w'.heap.size
  block : ∀ k, k < w.heap.size → k ≠ r → w'.heap[k]? = w.heap[k]?
theorem But.refl (r : Nat) (w : World) : But r w w := ⟨rfl, rfl, rfl, Nat.le_refl _, fun _ _ _ => rfl⟩
theorem But.trans {r : Nat} {a b c : World} (h : But r a b) (k : But r b c) : But r a c :=
  ⟨k.os.trans h.os, k.tape.trans h.tape, k.output.trans h.output, Nat.le_trans h.size k.size, fun i hi hr => (k.block i (by have := h.size; omega) hr).trans (h.block i hi hr)⟩
theorem But.of_below {r : Nat} {a b : World} (h : Below a.heap.size a b) : But r a b := ⟨h.os, h.tape, h.output, h.size, fun i hi _ => h.block i hi⟩
theorem But.set {r : Nat} (w : World) (o : Nat) (v : Value) : But r w (w.setCell ⟨r, o, none⟩ v) := by
  have h := (Below.refl r w).setCell (p := ⟨r, o, none⟩) (Nat.le_refl _) v
  refine ⟨h.os, h.tape, h.output, h.size, fun i hi hr => ?_⟩
  exact Below.heap_setCell w ⟨r, o, none⟩ v i hr
theorem Blk.but {r g : Nat} {t : TypeId} {cs : Array Value} {w w' : World} (h : Blk w g t cs) (hb : But r w w') (hr : g ≠ r) : Blk w' g t cs := (hb.block g h.lt hr).trans h
theorem Below.but {B r : Nat} {a w w' : World} (h : Below B a w) (hb : But r w w') (hr : B ≤ r) (hB : B ≤ a.heap.size) : Below B a w' :=
  ⟨hb.os.trans h.os, hb.tape.trans h.tape, hb.output.trans h.output, Nat.le_trans h.size hb.size, fun i hi => (hb.block i (by have := h.size; omega) (by omega)).trans (h.block i hi)⟩
theorem bs0 {c : UInt8} {l : Bs} : (bs (c :: l)).size = l.length + 1 := by rw [bs_size]; rfl
theorem bs_head {c : UInt8} {l : Bs} (h : 0 < (bs (c :: l)).size) : (bs (c :: l))[0] = c := rfl
theorem w64b (c : UInt8) : wrap64 (c.toNat : Int) = c.toNat := by have := c.toNat_lt; unfold wrap64; omega
theorem head_at {w : World} {a : Addr} {c : UInt8} {l : Bs} (h : w.cell? a = some (.string (bs (c :: l)))) : ∃ x : ByteArray, w.cell? a = some (.string x) ∧ ∃ h0 : 0 < x.size, x[0] = c := ⟨_, h, by rw [bs0]; omega, rfl⟩
end
section
set_option linter.unusedVariables false
set_option linter.unusedSimpArgs false
open Go.RowKit
theorem letter_nx (l : Bs) : on isLet l = (decide ((97 : Int) ≤ nx l) && decide (nx l ≤ 122)) := by
  cases l with
  | nil => rfl
  | cons c l =>
    simp only [on, isLet, nx]
    congr 1 <;> exact decide_eq_decide.2 (by omega)
theorem digit_nx (l : Bs) : on isDg l = (decide ((48 : Int) ≤ nx l) && decide (nx l ≤ 57)) := by
  cases l with
  | nil => rfl
  | cons c l =>
    simp only [on, isDg, nx]
    congr 1 <;> exact decide_eq_decide.2 (by omega)
theorem blank_nx (l : Bs) : on isBl l = (nx l == 32 || nx l == 10) := by
  cases l with
  | nil => rfl
  | cons c l => simp only [on, isBl, nx]; congr 1 <;> (rw [Bool.eq_iff_iff, beq_iff_eq, beq_iff_eq]; omega)
theorem more_nx (l : Bs) : (!l.isEmpty) = !(nx l == -1) := by
  cases l with
  | nil => rfl
  | cons c l =>
    have : (nx (c :: l) == -1) = false := beq_eq_false_iff_ne.2 (by simp only [nx]; omega)
    rw [this]; rfl
theorem ofLn_nx (l : Bs) : on ofLn l = (!l.isEmpty && !(nx l == 10)) := by
  cases l with
  | nil => rfl
  | cons c l =>
    have : (nx (c :: l) == 10) = (c.toNat == 10) := by rw [Bool.eq_iff_iff, beq_iff_eq, beq_iff_eq]; simp only [nx]; omega
    rw [this]; simp [on, ofLn]
theorem ofNm_nx (l : Bs) : on ofNm l = (on isLet l || on isDg l || nx l == 45) := by
  cases l with
  | nil => rfl
  | cons c l =>
    have : (nx (c :: l) == 45) = (c.toNat == 45) := by rw [Bool.eq_iff_iff, beq_iff_eq, beq_iff_eq]; simp only [nx]; omega
    rw [this]; rfl
end
section
set_option linter.unusedVariables false
set_option linter.unusedSimpArgs false
open Go.RowKit
theorem head_tail {w : World} {a : Addr} {c : UInt8} {l : Bs} (h : w.cell? a = some (.string (bs (c :: l)))) : ∃ x : ByteArray, w.cell? a = some (.string x) ∧ (∃ h0 : 0 < x.size, x[0] = c) ∧ x.extract 1 x.size = bs l := by
  refine ⟨_, h, ⟨by rw [bs0]; omega, rfl⟩, ?_⟩
  apply ByteArray.ext
  simp [bs, ByteArray.size]
end
section
set_option linter.unusedVariables false
set_option linter.unusedSimpArgs false
open Go.RowKit
/-- An element: its type, its cells, its bytes. -/
structure El (α : Type) where
  T : TypeId
  k : Nat
  by_ : Nat
  z : Value
  enc : α → List Value
structure El.Ok {α : Type} (E : El α) : Prop where
  pos : 0 < E.k
  len : ∀ x, (E.enc x).length = E.k
  one : ∀ x, ∀ u ∈ E.enc x, u.oneCell' = true
  info : (Tryz.prog.info? E.T).map (fun i => (i.zero, i.size, i.bytes)) = some (some E.z, E.k, E.by_)
  zs : E.z.cells.size = E.k
  few : E.by_ ≤ 512
section
variable {α : Type} {E : El α}
def El.encs (E : El α) (L : List α) : List Value := L.flatMap E.enc
theorem El.encs_append (L M : List α) : E.encs (L ++ M) = E.encs L ++ E.encs M := by simp [El.encs]
theorem El.encs_length (h : E.Ok) (L : List α) : (E.encs L).length = L.length * E.k := by
  induction L with
  | nil => simp [El.encs]
  | cons e r ih =>
    have e1 : E.encs (e :: r) = E.enc e ++ E.encs r := rfl
    rw [e1, List.length_append, ih, h.len, List.length_cons, Nat.add_mul, Nat.one_mul, Nat.add_comm]
theorem El.encs_get (h : E.Ok) (L : List α) (i j : Nat) (x : α) (hi : L[i]? = some x) (hj : j < E.k) : (E.encs L)[i * E.k + j]? = (E.enc x)[j]? := by
  induction L generalizing i with
  | nil => simp at hi
  | cons e r ih =>
    have e1 : E.encs (e :: r) = E.enc e ++ E.encs r := rfl
    rw [e1]
    match i with
    | 0 =>
      simp at hi
      subst hi
      rw [List.getElem?_append_left (by rw [h.len]; omega)]; simp
    | i + 1 =>
      have e2 : (i + 1) * E.k + j - (E.enc e).length = i * E.k + j := by rw [h.len, Nat.add_mul, Nat.one_mul]; omega
      rw [List.getElem?_append_right (by rw [h.len, Nat.add_mul, Nat.one_mul]; omega), e2]
      exact ih i (by simpa using hi)
/-- The elements L at the head of block g. -/
def ERow (E : El α) (w : World) (g cap : Nat) (L : List α) : Prop :=
  ∃ cur, Blk w g E.T cur ∧ cur.size = cap * E.k ∧ L.length ≤ cap ∧ cap ≤ maxLen ∧ cur.toList.take (L.length * E.k) = E.encs L
theorem ERow.lt {w : World} {g cap : Nat} {L : List α} (h : ERow E w g cap L) : g < w.heap.size := by obtain ⟨cur, h1, _⟩ := h; exact h1.lt
theorem ERow.keep {w w' : World} {g cap : Nat} {L : List α} (h : ERow E w g cap L) (hk : w'.heap[g]? = w.heap[g]?) : ERow E w' g cap L := by
  obtain ⟨cur, h1, h2⟩ := h
  exact ⟨cur, hk.trans h1, h2⟩
/-- A slice of the call's own that holds the elements L. -/
def EOwn (E : El α) (w : World) (v : Value) (L : List α) : Prop := (v = .slice none 0 0 ∧ L = []) ∨ ∃ g cap, v = .slice (some ⟨g, 0, none⟩) L.length cap ∧ ERow E w g cap L
theorem EOwn.own {w : World} {v : Value} {L : List α} (hE : E.Ok) (h : EOwn E w v L) : w.ownsRow 0 E.T E.k v L.length (E.encs L) := by
  rcases h with ⟨rfl, rfl⟩ | ⟨g, cap, rfl, cur, h1, h2, h3, h4, h5⟩
  · exact World.ownsRow_nil _ _ _ _
  · exact ⟨El.encs_length hE L, .inr ⟨g, cap, cur, rfl, Nat.zero_le _, h1, h3, h4, h2, h5⟩⟩
theorem EOwn.keep {w w' : World} {v : Value} {L : List α} (h : EOwn E w v L) (hk : ∀ i, i < w.heap.size → v.ownBlock = some i → w'.heap[i]? = w.heap[i]?) : EOwn E w' v L := by
  rcases h with h3 | ⟨g, cap, rfl, h3⟩
  · exact .inl h3
  · exact .inr ⟨g, cap, rfl, h3.keep (hk g h3.lt rfl)⟩
theorem EOwn.below {w w' : World} {v : Value} {L : List α} (h : EOwn E w v L) (hb : Below w.heap.size w w') : EOwn E w' v L := h.keep fun i hi _ => hb.block i hi
theorem EOwn.but {w w' : World} {v : Value} {L : List α} {r : Nat} (h : EOwn E w v L) (hb : But r w w') (hr : ∀ i, v.ownBlock = some i → i ≠ r) : EOwn E w' v L := h.keep fun i hi e => hb.block i hi (hr i e)
theorem EOwn.nil_ (w : World) : EOwn E w (.slice none 0 0) [] := .inl ⟨rfl, rfl⟩
theorem EOwn.slice {w : World} {v : Value} {L : List α} (h : EOwn E w v L) : ∃ A cap, v = .slice A L.length cap ∧ L.length ≤ cap ∧ cap ≤ maxLen := by
  rcases h with ⟨rfl, rfl⟩ | ⟨g, cap, rfl, cur, _, _, h, h2, _⟩
  · exact ⟨none, 0, rfl, Nat.le_refl _, by decide⟩
  · exact ⟨_, _, rfl, h, h2⟩
theorem EOwn.lt {w : World} {v : Value} {L : List α} (h : EOwn E w v L) {i : Nat} (hi : v.ownBlock = some i) : i < w.heap.size := by
  rcases h with ⟨rfl, _⟩ | ⟨g, cap, rfl, h⟩
  · simp [Value.ownBlock] at hi
  · simp [Value.ownBlock] at hi; subst hi; exact h.lt
theorem EOwn.cell {w : World} {A : Option Addr} {n c : Nat} {L : List α} (hE : E.Ok) (h : EOwn E w (.slice A n c) L) {i : Nat} {x : α} (hi : L[i]? = some x) : n = L.length ∧ ∃ g, A = some ⟨g, 0, none⟩ ∧ ∀ j u, (E.enc x)[j]? = some u → w.cell? ⟨g, i * E.k + j, none⟩ = some u := by
  rcases h with ⟨h, rfl⟩ | ⟨g, cap, h, cur, h1, h2, h3, h4, h5⟩
  · simp at hi
  · injection h with a b c
    subst a; subst b; subst c
    refine ⟨rfl, g, rfl, fun j u hj => ?_⟩
    have hjk : j < E.k := by have := (List.getElem?_eq_some_iff.1 hj).1; rw [hE.len] at this; exact this
    have hil : i < L.length := (List.getElem?_eq_some_iff.1 hi).1
    have e := El.encs_get hE L i j x hi hjk
    have hlt : i * E.k + j < L.length * E.k := by
      have : (i + 1) * E.k ≤ L.length * E.k := Nat.mul_le_mul_right _ hil
      rw [Nat.add_mul, Nat.one_mul] at this; omega
    rw [h1.cell]
    rw [← h5, List.getElem?_take, if_pos hlt, Array.getElem?_toList, hj] at e
    exact e
def EAppended (E : El α) (v : Value) (L : List α) (w : World) (v' : Value) (w' : World) : Prop :=
  ∃ g cap, v' = .slice (some ⟨g, 0, none⟩) L.length cap ∧ ERow E w' g cap L ∧ w.grownBy w' v.ownBlock ∧ (v.ownBlock = some g ∨ g = w.heap.size)
theorem run_epush {w : World} {t ty : TypeId} (hE : E.Ok) (ht : Tryz.prog.underlying t = some (.slice E.T)) {v : Value} {L : List α} {x : α} {b c : Nat} (h : EOwn E w v L) (hx : ∀ j u, (E.enc x)[j]? = some u → w.cell? ⟨b, j, none⟩ = some u) (hl : L.length ≤ 1000000) :
    ∃ v' w', (Builtin.append_ #[t, t] ty #[v, .slice (some ⟨b, 0, none⟩) 1 c]).run Tryz.prog w = .ok v' w' ∧ EAppended E v (L ++ [x]) w v' w' := by
  obtain ⟨i0, hi, hz, hsz, hby⟩ := info_parts hE.info
  have hr : Reads w w.heap.size E.k (some ⟨b, 0, none⟩) 1 (E.enc x) := by
    refine ⟨by rw [hE.len, Nat.one_mul], fun _ => ⟨_, rfl, ?_, fun j u hu => ?_⟩⟩
    · have hp := hE.pos
      have h0 : 0 < (E.enc x).length := by rw [hE.len]; exact hp
      exact World.block_lt_of_cell? w _ (hx 0 _ (List.getElem?_eq_getElem h0))
    · have := hx j u hu
      have e : (⟨b, 0, none⟩ : Addr).add j = ⟨b, j, none⟩ := by unfold Addr.add; split <;> simp_all
      rw [e]; exact this
  have hby2 : (L.length + 1) * E.by_ ≤ 140737488355328 := by
    have h1 := hE.few
    have : (L.length + 1) * E.by_ ≤ 1000001 * 512 := Nat.mul_le_mul (by omega) h1
    omega
  obtain ⟨v', w', hr, ho, hg, hb⟩ := run_append_any (P := Tryz.prog) w 0 t ty E.T i0 _ E.k E.by_ ht hi hz hsz hby hE.zs hE.pos v L.length (E.encs L) (h.own hE) w.heap.size (some ⟨b, 0, none⟩) 1 c (E.enc x) hr (hE.one x) (by simp only [maxLen]; omega) hby2 (Nat.zero_le _)
  have he : E.encs L ++ E.enc x = E.encs (L ++ [x]) := by rw [El.encs_append]; simp [El.encs]
  rw [he] at ho
  have hn : L.length + 1 = (L ++ [x]).length := by simp
  rw [hn] at ho
  rcases ho.2 with ⟨_, h⟩ | ⟨g, cap, cur, hv, _, h1, h3, h4, h2, h5⟩
  · simp at h
  · refine ⟨v', w', hr, g, cap, hv, ⟨cur, h1, h2, h3, h4, h5⟩, hg, ?_⟩
    subst hv
    rcases hb with hb | hb
    · exact .inl hb.symm
    · simp [Value.ownBlock] at hb; exact .inr hb
theorem wp_epush {w : World} {o : Oper} {a : Act} {K : Act → World → Prop} {Q : Exit → Act → World → Prop} (hE : E.Ok) (s x : Operand) (t : TypeId)
    (ho : o.op = .call { callee := .builtin .append, args := #[s, x], argTypes := #[t, t] }) (ht : Tryz.prog.underlying t = some (.slice E.T)) (v : Value) (L : List α) (e : α) (b c : Nat) (hs : a.eval s = v) (hx : a.eval x = .slice (some ⟨b, 0, none⟩) 1 c)
    (h : EOwn E w v L) (h0 : ∀ j u, (E.enc e)[j]? = some u → w.cell? ⟨b, j, none⟩ = some u) (hl : L.length ≤ 1000000)
    (hK : ∀ v' w', EAppended E v (L ++ [e]) w v' w' → K (a.put o.dst v') w') : o.wp Tryz.prog a w K Q := by
  obtain ⟨v', w', hrun, hA⟩ := run_epush (ty := o.type) (c := c) hE ht h h0 hl
  unfold Oper.wp execOp
  simp only [ho, resolve, invoke, builtin, Sem.run_bind, Sem.run_pure, Result.andThen_ok, List.map_toArray, List.map_cons, List.map_nil, hs, hx, hrun]
  exact hK v' w' hA
theorem wpList_epush {w : World} {ops : Array Oper} {rest : List Oper} {o : Oper} {a : Act} {Q : Exit → Act → World → Prop} (hE : E.Ok) (hgd : o.guard = none) (s x : Operand) (t : TypeId)
    (ho : o.op = .call { callee := .builtin .append, args := #[s, x], argTypes := #[t, t] }) (ht : Tryz.prog.underlying t = some (.slice E.T)) (v : Value) (L : List α) (e : α) (b c : Nat) (hs : a.eval s = v) (hx : a.eval x = .slice (some ⟨b, 0, none⟩) 1 c)
    (h : EOwn E w v L) (h0 : ∀ j u, (E.enc e)[j]? = some u → w.cell? ⟨b, j, none⟩ = some u) (hl : L.length ≤ 1000000)
    (hK : ∀ v' w', EAppended E v (L ++ [e]) w v' w' → wpList Tryz.prog ops Q rest (a.put o.dst v') w') : wpList Tryz.prog ops Q (o :: rest) a w :=
  wpList_plain hgd fun _ hK' => wp_epush hE s x t ho ht v L e b c hs hx h h0 hl fun v' w' hA => hK' _ _ (hK v' w' hA)
theorem EAppended.own {v v' : Value} {L : List α} {w w' : World} (h : EAppended E v L w v' w') : EOwn E w' v' L := by
  obtain ⟨g, cap, hv, hr, _⟩ := h
  exact .inr ⟨g, cap, hv, hr⟩
/-- What lies below B is kept, where the row lies at or beyond it. -/
theorem EAppended.below {v v' : Value} {L : List α} {w w' : World} {B : Nat} (h : EAppended E v L w v' w') (hB : B ≤ w.heap.size) (hv : ∀ i, v.ownBlock = some i → B ≤ i) : Below B w w' ∧ (∀ i, v'.ownBlock = some i → B ≤ i) := by
  obtain ⟨g, cap, rfl, hr, hg, hb⟩ := h
  refine ⟨(Below.refl B w).grown hg hB hv, fun i hi => ?_⟩
  simp [Value.ownBlock] at hi
  subst hi
  rcases hb with hb | hb
  · exact hv _ hb
  · omega
theorem EAppended.keep {v v' : Value} {L : List α} {w w' : World} (h : EAppended E v L w v' w') {k : Nat} (hk : k < w.heap.size) (hn : v.ownBlock ≠ some k) : w'.heap[k]? = w.heap[k]? := by
  obtain ⟨g, cap, rfl, hr, hg, hb⟩ := h
  exact hg.block k hk (Ne.symm hn)
theorem EAppended.below0 {v v' : Value} {L : List α} {w w' : World} (h : EAppended E v L w v' w') : Below 0 w w' := by
  obtain ⟨g, cap, rfl, hr, hg, hb⟩ := h
  exact (Below.refl 0 w).grown hg (Nat.zero_le _) (fun _ _ => Nat.zero_le _)
theorem EAppended.far {v v' : Value} {L : List α} {w w' : World} {B : Nat} (h : EAppended E v L w v' w') (hB : B ≤ w.heap.size) (hv : ∀ i, v.ownBlock = some i → B ≤ i) : ∀ i, v'.ownBlock = some i → B ≤ i := (h.below hB hv).2
end
/-- Bytes. -/
def elB : El UInt8 := { T := 5, k := 1, by_ := 1, z := .int .u8 0, enc := fun c => [.int .u8 (c.toNat : Int)] }
theorem elB_ok : elB.Ok := ⟨Nat.one_pos, fun _ => rfl, fun x u hu => by simp [elB] at hu; subst hu; rfl, by kernel_rfl, rfl, by decide⟩
theorem convert_own {w : World} {v : Value} {L : Bs} (h : EOwn elB w v L) (src : TypeId) (hs : Tryz.prog.underlying src = some (.slice 5)) (dst : TypeId) (hd : Tryz.prog.underlying dst = some .string) : (convert src dst v).run Tryz.prog w = .ok (.string (bs L)) w := by
  have he : Tryz.prog.underlying 5 = some (.int .u8) := by kernel_rfl
  rcases h with ⟨rfl, rfl⟩ | ⟨g, cap, rfl, hr⟩
  · rw [run_convert_bytes_nil w src _ hs he 0 0 dst hd]; rfl
  · have hO : EOwn elB w (.slice (some ⟨g, 0, none⟩) L.length cap) L := .inr ⟨g, cap, rfl, hr⟩
    have := run_convert_bytes_arg w src _ hs he g 0 L.length cap (L.map fun c => (c.toNat : Int)) (by simp) (fun i hi => by
      obtain ⟨_, g', e, hc⟩ := EOwn.cell elB_ok hO (List.getElem?_eq_getElem hi)
      obtain rfl : g = g' := by simpa using e
      have := hc 0 (.int .u8 (L[i].toNat : Int)) rfl
      simpa [elB, List.getD, List.getElem?_eq_getElem hi] using this) dst hd
    rw [this]
    refine congrArg (fun s => Result.ok (Value.string s) w) ?_
    have e : ∀ l : Bs, List.map (fun n : Int => UInt8.ofNat n.toNat) (List.map (fun c : UInt8 => (c.toNat : Int)) l) = l := by
      intro l
      induction l with
      | nil => rfl
      | cons c l ih => rw [List.map_cons, List.map_cons, ih]; simp
    unfold strOfNums bs
    rw [e L]
end
section
set_option linter.unusedVariables false
set_option linter.unusedSimpArgs false
open Go.RowKit
theorem span_on {f : UInt8 → Bool} {l : Bs} (h : on f l = true) : ∃ c l', l = c :: l' ∧ f c = true := by
  cases l with
  | nil => cases h
  | cons c l => exact ⟨c, l, rfl, h⟩
theorem span_off {f : UInt8 → Bool} {l : Bs} (h : on f l = false) : l.takeWhile f = [] ∧ l.dropWhile f = l := by
  cases l with
  | nil => exact ⟨rfl, rfl⟩
  | cons c l =>
    have hc : ¬ f c = true := by simpa [on] using h
    exact ⟨List.takeWhile_cons_of_neg hc, List.dropWhile_cons_of_neg hc⟩
theorem But.appended {α : Type} {E : El α} {r : Nat} {w0 w w' : World} {v v' : Value} {L : List α} (hb : But r w0 w) (h : EAppended E v L w v' w') (hv : ∀ i, v.ownBlock = some i → w0.heap.size ≤ i) : But r w0 w' := by
  have h0 := h.below0
  refine ⟨h0.os.trans hb.os, h0.tape.trans hb.tape, h0.output.trans hb.output, Nat.le_trans hb.size h0.size, fun k hk hr => ?_⟩
  exact (h.keep (by have := hb.size; omega) (fun e => by have := hv k e; omega)).trans (hb.block k hk hr)
theorem new_cell (w : World) (cs : Array Value) (t : TypeId) (i : Nat) {v : Value} (h : cs[i]? = some v) : (w.alloc (.cells cs t)).cell? ⟨w.heap.size, i, none⟩ = some v := by rw [(Blk.new w t cs).cell]; exact h
def lenOf : Value → Nat
  | .slice _ n _ => n
  | _ => 0
theorem But.grown {r : Nat} {w w' : World} {row : Option Nat} (h : w.grownBy w' row) : (∀ i, row = some i → False) → But r w w' := fun hr =>
  But.of_below ((Below.refl w.heap.size w).grown h (Nat.le_refl _) (fun i hi => (hr i hi).elim))
end
section
set_option linter.unusedVariables false
set_option linter.unusedSimpArgs false
open Go.RowKit
def leftN (r : Nat) (w : World) : Nat := match w.cell? ⟨r, 0, none⟩ with
  | some (.string s) => s.size
  | _ => 0
theorem okp_take {f : UInt8 → Bool} {l : Bs} {p : Pl} (h : OkP l p) : OkP (l.dropWhile f) (advs p (l.takeWhile f)) := by
  refine OkP.steps (a := l.takeWhile f) ?_
  rw [List.takeWhile_append_dropWhile]; exact h
end
end Go.Proofs.YtmgamlpjgghieaaGreatDoor
