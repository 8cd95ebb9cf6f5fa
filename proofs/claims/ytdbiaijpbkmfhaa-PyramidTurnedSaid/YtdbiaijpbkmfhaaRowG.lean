/- Rows of any elements that are made by appending (LxRow, with no text of lex beneath). -/
import Derived.Test.YtdbiaijpbkmfhaaBlk
import Derived.Test.YtdbiaijpbkmfhaaGeom
import Derived.Deep.AppendSrc
import Derived.Laws.BytesArg
namespace Go.Proofs.Ytdbiaijpbkmfhaa
set_option linter.unusedVariables false
set_option linter.unusedSimpArgs false
open Go.RowKit
/-- An element: its type, its cells, its bytes. -/
structure El (α : Type) where
  T : TypeId
  k : Nat
  by_ : Nat
  z : Value
  enc : α → List Value
structure El.Ok {α : Type} (E : El α) : Prop where
  pos : 0 < E.k
  len : ∀ x, (E.enc x).length = E.k
  one : ∀ x, ∀ u ∈ E.enc x, u.oneCell' = true
  info : (Try.prog.info? E.T).map (fun i => (i.zero, i.size, i.bytes)) = some (some E.z, E.k, E.by_)
  zs : E.z.cells.size = E.k
  few : E.by_ ≤ 512
section
variable {α : Type} {E : El α}
def El.encs (E : El α) (L : List α) : List Value := L.flatMap E.enc
theorem El.encs_append (L M : List α) : E.encs (L ++ M) = E.encs L ++ E.encs M := by simp [El.encs]
theorem El.encs_length (h : E.Ok) (L : List α) : (E.encs L).length = L.length * E.k := by
  induction L with
  | nil => simp [El.encs]
  | cons e r ih =>
    have e1 : E.encs (e :: r) = E.enc e ++ E.encs r := rfl
    rw [e1, List.length_append, ih, h.len, List.length_cons, Nat.add_mul, Nat.one_mul, Nat.add_comm]
theorem El.encs_get (h : E.Ok) (L : List α) (i j : Nat) (x : α) (hi : L[i]? = some x) (hj : j < E.k) : (E.encs L)[i * E.k + j]? = (E.enc x)[j]? := by
  induction L generalizing i with
  | nil => simp at hi
  | cons e r ih =>
    have e1 : E.encs (e :: r) = E.enc e ++ E.encs r := rfl
    rw [e1]
    match i with
    | 0 =>
      simp at hi
      subst hi
      rw [List.getElem?_append_left (by rw [h.len]; omega)]; simp
    | i + 1 =>
      have e2 : (i + 1) * E.k + j - (E.enc e).length = i * E.k + j := by rw [h.len, Nat.add_mul, Nat.one_mul]; omega
      rw [List.getElem?_append_right (by rw [h.len, Nat.add_mul, Nat.one_mul]; omega), e2]
      exact ih i (by simpa using hi)
/-- The elements L at the head of block g. -/
def ERow (E : El α) (w : World) (g cap : Nat) (L : List α) : Prop :=
  ∃ cur, Blk w g E.T cur ∧ cur.size = cap * E.k ∧ L.length ≤ cap ∧ cap ≤ maxLen ∧ cur.toList.take (L.length * E.k) = E.encs L
theorem ERow.lt {w : World} {g cap : Nat} {L : List α} (h : ERow E w g cap L) : g < w.heap.size := by obtain ⟨cur, h1, _⟩ := h; exact h1.lt
theorem ERow.keep {w w' : World} {g cap : Nat} {L : List α} (h : ERow E w g cap L) (hk : w'.heap[g]? = w.heap[g]?) : ERow E w' g cap L := by
  obtain ⟨cur, h1, h2⟩ := h
  exact ⟨cur, hk.trans h1, h2⟩
/-- A slice of the call's own that holds the elements L. -/
def EOwn (E : El α) (w : World) (v : Value) (L : List α) : Prop := (v = .slice none 0 0 ∧ L = []) ∨ ∃ g cap, v = .slice (some ⟨g, 0, none⟩) L.length cap ∧ ERow E w g cap L
theorem EOwn.own {w : World} {v : Value} {L : List α} (hE : E.Ok) (h : EOwn E w v L) : w.ownsRow 0 E.T E.k v L.length (E.encs L) := by
  rcases h with ⟨rfl, rfl⟩ | ⟨g, cap, rfl, cur, h1, h2, h3, h4, h5⟩
  · exact World.ownsRow_nil _ _ _ _
  · exact ⟨El.encs_length hE L, .inr ⟨g, cap, cur, rfl, Nat.zero_le _, h1, h3, h4, h2, h5⟩⟩
theorem EOwn.keep {w w' : World} {v : Value} {L : List α} (h : EOwn E w v L) (hk : ∀ i, i < w.heap.size → v.ownBlock = some i → w'.heap[i]? = w.heap[i]?) : EOwn E w' v L := by
  rcases h with h3 | ⟨g, cap, rfl, h3⟩
  · exact .inl h3
  · exact .inr ⟨g, cap, rfl, h3.keep (hk g h3.lt rfl)⟩
theorem EOwn.below {w w' : World} {v : Value} {L : List α} (h : EOwn E w v L) (hb : Below w.heap.size w w') : EOwn E w' v L := h.keep fun i hi _ => hb.block i hi
theorem EOwn.nil_ (w : World) : EOwn E w (.slice none 0 0) [] := .inl ⟨rfl, rfl⟩
theorem EOwn.slice {w : World} {v : Value} {L : List α} (h : EOwn E w v L) : ∃ A cap, v = .slice A L.length cap ∧ L.length ≤ cap ∧ cap ≤ maxLen := by
  rcases h with ⟨rfl, rfl⟩ | ⟨g, cap, rfl, cur, _, _, h, h2, _⟩
  · exact ⟨none, 0, rfl, Nat.le_refl _, by decide⟩
  · exact ⟨_, _, rfl, h, h2⟩
theorem EOwn.lt {w : World} {v : Value} {L : List α} (h : EOwn E w v L) {i : Nat} (hi : v.ownBlock = some i) : i < w.heap.size := by
  rcases h with ⟨rfl, _⟩ | ⟨g, cap, rfl, h⟩
  · simp [Value.ownBlock] at hi
  · simp [Value.ownBlock] at hi; subst hi; exact h.lt
theorem EOwn.cell {w : World} {A : Option Addr} {n c : Nat} {L : List α} (hE : E.Ok) (h : EOwn E w (.slice A n c) L) {i : Nat} {x : α} (hi : L[i]? = some x) : n = L.length ∧ ∃ g, A = some ⟨g, 0, none⟩ ∧ ∀ j u, (E.enc x)[j]? = some u → w.cell? ⟨g, i * E.k + j, none⟩ = some u := by
  rcases h with ⟨h, rfl⟩ | ⟨g, cap, h, cur, h1, h2, h3, h4, h5⟩
  · simp at hi
  · injection h with a b c
    subst a; subst b; subst c
    refine ⟨rfl, g, rfl, fun j u hj => ?_⟩
    have hjk : j < E.k := by have := (List.getElem?_eq_some_iff.1 hj).1; rw [hE.len] at this; exact this
    have hil : i < L.length := (List.getElem?_eq_some_iff.1 hi).1
    have e := El.encs_get hE L i j x hi hjk
    have hlt : i * E.k + j < L.length * E.k := by
      have : (i + 1) * E.k ≤ L.length * E.k := Nat.mul_le_mul_right _ hil
      rw [Nat.add_mul, Nat.one_mul] at this; omega
    rw [h1.cell]
    rw [← h5, List.getElem?_take, if_pos hlt, Array.getElem?_toList, hj] at e
    exact e
def EAppended (E : El α) (v : Value) (L : List α) (w : World) (v' : Value) (w' : World) : Prop :=
  ∃ g cap, v' = .slice (some ⟨g, 0, none⟩) L.length cap ∧ ERow E w' g cap L ∧ w.grownBy w' v.ownBlock ∧ (v.ownBlock = some g ∨ g = w.heap.size)
theorem run_epush {w : World} {t ty : TypeId} (hE : E.Ok) (ht : Try.prog.underlying t = some (.slice E.T)) {v : Value} {L : List α} {x : α} {b c : Nat} (h : EOwn E w v L) (hx : ∀ j u, (E.enc x)[j]? = some u → w.cell? ⟨b, j, none⟩ = some u) (hl : L.length ≤ 1000000) :
    ∃ v' w', (Builtin.append_ #[t, t] ty #[v, .slice (some ⟨b, 0, none⟩) 1 c]).run Try.prog w = .ok v' w' ∧ EAppended E v (L ++ [x]) w v' w' := by
  obtain ⟨i0, hi, hz, hsz, hby⟩ := info_parts hE.info
  have hr : Reads w w.heap.size E.k (some ⟨b, 0, none⟩) 1 (E.enc x) := by
    refine ⟨by rw [hE.len, Nat.one_mul], fun _ => ⟨_, rfl, ?_, fun j u hu => ?_⟩⟩
    · have hp := hE.pos
      have h0 : 0 < (E.enc x).length := by rw [hE.len]; exact hp
      exact World.block_lt_of_cell? w _ (hx 0 _ (List.getElem?_eq_getElem h0))
    · have := hx j u hu
      have e : (⟨b, 0, none⟩ : Addr).add j = ⟨b, j, none⟩ := by unfold Addr.add; split <;> simp_all
      rw [e]; exact this
  have hby2 : (L.length + 1) * E.by_ ≤ 140737488355328 := by
    have h1 := hE.few
    have : (L.length + 1) * E.by_ ≤ 1000001 * 512 := Nat.mul_le_mul (by omega) h1
    omega
  obtain ⟨v', w', hr, ho, hg, hb⟩ := run_append_any (P := Try.prog) w 0 t ty E.T i0 _ E.k E.by_ ht hi hz hsz hby hE.zs hE.pos v L.length (E.encs L) (h.own hE) w.heap.size (some ⟨b, 0, none⟩) 1 c (E.enc x) hr (hE.one x) (by simp only [maxLen]; omega) hby2 (Nat.zero_le _)
  have he : E.encs L ++ E.enc x = E.encs (L ++ [x]) := by rw [El.encs_append]; simp [El.encs]
  rw [he] at ho
  have hn : L.length + 1 = (L ++ [x]).length := by simp
  rw [hn] at ho
  rcases ho.2 with ⟨_, h⟩ | ⟨g, cap, cur, hv, _, h1, h3, h4, h2, h5⟩
  · simp at h
  · refine ⟨v', w', hr, g, cap, hv, ⟨cur, h1, h2, h3, h4, h5⟩, hg, ?_⟩
    subst hv
    rcases hb with hb | hb
    · exact .inl hb.symm
    · simp [Value.ownBlock] at hb; exact .inr hb
theorem wp_epush {w : World} {o : Oper} {a : Act} {K : Act → World → Prop} {Q : Exit → Act → World → Prop} (hE : E.Ok) (s x : Operand) (t : TypeId)
    (ho : o.op = .call { callee := .builtin .append, args := #[s, x], argTypes := #[t, t] }) (ht : Try.prog.underlying t = some (.slice E.T)) (v : Value) (L : List α) (e : α) (b c : Nat) (hs : a.eval s = v) (hx : a.eval x = .slice (some ⟨b, 0, none⟩) 1 c)
    (h : EOwn E w v L) (h0 : ∀ j u, (E.enc e)[j]? = some u → w.cell? ⟨b, j, none⟩ = some u) (hl : L.length ≤ 1000000)
    (hK : ∀ v' w', EAppended E v (L ++ [e]) w v' w' → K (a.put o.dst v') w') : o.wp Try.prog a w K Q := by
  obtain ⟨v', w', hrun, hA⟩ := run_epush (ty := o.type) (c := c) hE ht h h0 hl
  unfold Oper.wp execOp
  simp only [ho, resolve, invoke, builtin, Sem.run_bind, Sem.run_pure, Result.andThen_ok, List.map_toArray, List.map_cons, List.map_nil, hs, hx, hrun]
  exact hK v' w' hA
theorem wpList_epush {w : World} {ops : Array Oper} {rest : List Oper} {o : Oper} {a : Act} {Q : Exit → Act → World → Prop} (hE : E.Ok) (hgd : o.guard = none) (s x : Operand) (t : TypeId)
    (ho : o.op = .call { callee := .builtin .append, args := #[s, x], argTypes := #[t, t] }) (ht : Try.prog.underlying t = some (.slice E.T)) (v : Value) (L : List α) (e : α) (b c : Nat) (hs : a.eval s = v) (hx : a.eval x = .slice (some ⟨b, 0, none⟩) 1 c)
    (h : EOwn E w v L) (h0 : ∀ j u, (E.enc e)[j]? = some u → w.cell? ⟨b, j, none⟩ = some u) (hl : L.length ≤ 1000000)
    (hK : ∀ v' w', EAppended E v (L ++ [e]) w v' w' → wpList Try.prog ops Q rest (a.put o.dst v') w') : wpList Try.prog ops Q (o :: rest) a w :=
  wpList_plain hgd fun _ hK' => wp_epush hE s x t ho ht v L e b c hs hx h h0 hl fun v' w' hA => hK' _ _ (hK v' w' hA)
theorem EAppended.own {v v' : Value} {L : List α} {w w' : World} (h : EAppended E v L w v' w') : EOwn E w' v' L := by
  obtain ⟨g, cap, hv, hr, _⟩ := h
  exact .inr ⟨g, cap, hv, hr⟩
/-- What lies below B is kept, where the row lies at or beyond it. -/
theorem EAppended.below {v v' : Value} {L : List α} {w w' : World} {B : Nat} (h : EAppended E v L w v' w') (hB : B ≤ w.heap.size) (hv : ∀ i, v.ownBlock = some i → B ≤ i) : Below B w w' ∧ (∀ i, v'.ownBlock = some i → B ≤ i) := by
  obtain ⟨g, cap, rfl, hr, hg, hb⟩ := h
  refine ⟨(Below.refl B w).grown hg hB hv, fun i hi => ?_⟩
  simp [Value.ownBlock] at hi
  subst hi
  rcases hb with hb | hb
  · exact hv _ hb
  · omega
theorem EAppended.keep {v v' : Value} {L : List α} {w w' : World} (h : EAppended E v L w v' w') {k : Nat} (hk : k < w.heap.size) (hn : v.ownBlock ≠ some k) : w'.heap[k]? = w.heap[k]? := by
  obtain ⟨g, cap, rfl, hr, hg, hb⟩ := h
  exact hg.block k hk (Ne.symm hn)
theorem EAppended.below0 {v v' : Value} {L : List α} {w w' : World} (h : EAppended E v L w v' w') : Below 0 w w' := by
  obtain ⟨g, cap, rfl, hr, hg, hb⟩ := h
  exact (Below.refl 0 w).grown hg (Nat.zero_le _) (fun _ _ => Nat.zero_le _)
theorem EAppended.far {v v' : Value} {L : List α} {w w' : World} {B : Nat} (h : EAppended E v L w v' w') (hB : B ≤ w.heap.size) (hv : ∀ i, v.ownBlock = some i → B ≤ i) : ∀ i, v'.ownBlock = some i → B ≤ i := (h.below hB hv).2
end
/-- Bytes. -/
def elB : El UInt8 := { T := 5, k := 1, by_ := 1, z := .int .u8 0, enc := fun c => [.int .u8 (c.toNat : Int)] }
theorem elB_ok : elB.Ok := ⟨Nat.one_pos, fun _ => rfl, fun x u hu => by simp [elB] at hu; subst hu; rfl, by kernel_rfl, rfl, by decide⟩
end Go.Proofs.Ytdbiaijpbkmfhaa
