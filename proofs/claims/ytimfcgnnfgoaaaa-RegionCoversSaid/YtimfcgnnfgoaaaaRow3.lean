/- Rows that are read and cloned. -/
import Derived.Test.YtimfcgnnfgoaaaaLxRow
namespace Go.Proofs.Ytimfcgnnfgoaaaa
set_option linter.unusedVariables false
set_option linter.unusedSimpArgs false
open Go.RowKit
theorem cell_block {w w' : World} {g o : Nat} {u : Value} (h : w.cell? ⟨g, o, none⟩ = some u) (hk : g < w.heap.size → w'.heap[g]? = w.heap[g]?) : w'.cell? ⟨g, o, none⟩ = some u := by
  have hlt := World.block_lt_of_cell? w _ h
  simpa [World.cell?, hk hlt] using h
def ERd {α : Type} (E : El α) (w : World) (v : Value) (L : List α) : Prop := ∃ A c, v = .slice A L.length c ∧ L.length ≤ c ∧ c ≤ maxLen ∧ ∀ i x, L[i]? = some x → ∃ g o, A = some ⟨g, o, none⟩ ∧ ∀ j u, (E.enc x)[j]? = some u → w.cell? ⟨g, o + i * E.k + j, none⟩ = some u
theorem ERd.of_own {α : Type} {E : El α} (hE : E.Ok) {w : World} {v : Value} {L : List α} (h : EOwn E w v L) : ERd E w v L := by
  obtain ⟨A, c, rfl, h1, h2⟩ := h.slice
  refine ⟨A, c, rfl, h1, h2, fun i x hx => ?_⟩
  obtain ⟨_, g, rfl, hc⟩ := EOwn.cell hE h hx
  exact ⟨g, 0, rfl, fun j u hu => by have := hc j u hu; simpa using this⟩
theorem ERd.below {α : Type} {E : El α} {w w' : World} {v : Value} {L : List α} (h : ERd E w v L) (hb : Below w.heap.size w w') : ERd E w' v L := by
  obtain ⟨A, c, rfl, h1, h2, h3⟩ := h
  refine ⟨A, c, rfl, h1, h2, fun i x hx => ?_⟩
  obtain ⟨g, o, rfl, hc⟩ := h3 i x hx
  exact ⟨g, o, rfl, fun j u hu => cell_block (hc j u hu) fun hl => hb.block g hl⟩
section
variable {α : Type} {E : El α}
def EApp (E : El α) (v : Value) (L : List α) (w : World) (v' : Value) (w' : World) : Prop :=
  EOwn E w' v' L ∧ w.grownBy w' v.ownBlock ∧ (∀ g, v'.ownBlock = some g → v.ownBlock = some g ∨ g = w.heap.size)
theorem EOwn.reads {w : World} {A : Option Addr} {c : Nat} {M : List α} (hE : E.Ok) (h : EOwn E w (.slice A M.length c) M) : Reads w w.heap.size E.k A M.length (E.encs M) := by
  refine ⟨El.encs_length hE M, fun hm => ?_⟩
  rcases h with ⟨_, rfl⟩ | ⟨g, cap, h, cur, h1, h2, h3, h4, h5⟩
  · simp at hm
  · injection h with a b c
    subst a
    refine ⟨_, rfl, h1.lt, fun j u hu => ?_⟩
    have e : (⟨g, 0, none⟩ : Addr).add j = ⟨g, j, none⟩ := by unfold Addr.add; split <;> simp_all
    rw [e, h1.cell]
    have hj : j < M.length * E.k := by have := (List.getElem?_eq_some_iff.1 hu).1; rwa [El.encs_length hE] at this
    rw [← h5, List.getElem?_take, if_pos hj, Array.getElem?_toList] at hu
    exact hu
theorem El.encs_one (hE : E.Ok) (M : List α) : ∀ u ∈ E.encs M, u.oneCell' = true := by
  intro u hu
  obtain ⟨x, _, h⟩ := List.mem_flatMap.1 hu
  exact hE.one x u h
theorem append_types {P : Program} {t t2 ty e e2 : TypeId} (ht : P.underlying t = some (.slice e)) (ht2 : P.underlying t2 = some (.slice e2)) (v u : Value) (w : World) :
    (Builtin.append_ #[t, t2] ty #[v, u]).run P w = (Builtin.append_ #[t, t] ty #[v, u]).run P w := by
  unfold Builtin.append_
  simp only [List.getElem?_toArray, List.getElem?_cons_zero, List.getElem?_cons_succ, Sem.run_bind, run_underlying ht, run_underlying ht2, Result.andThen_ok]
  cases v <;> try rfl
  simp only [Sem.run_bind]
  refine congrArg _ (funext fun size => funext fun w' => ?_)
  simp only [Sem.run_bind, run_underlying ht, run_underlying ht2, Result.andThen_ok]
theorem ERd.reads {w : World} {A : Option Addr} {c : Nat} {M : List α} (hE : E.Ok) (h : ERd E w (.slice A M.length c) M) : Reads w w.heap.size E.k A M.length (E.encs M) := by
  refine ⟨El.encs_length hE M, fun hm => ?_⟩
  obtain ⟨A', c', e, h1, h2, h3⟩ := h
  injection e with e1 e2 e3
  subst e1
  obtain ⟨g, o, rfl, hc⟩ := h3 0 M[0] (List.getElem?_eq_getElem hm)
  have hp := hE.pos
  have hlt : g < w.heap.size := by
    have h0 : 0 < (E.enc M[0]).length := by rw [hE.len]; exact hp
    exact World.block_lt_of_cell? w _ (hc 0 _ (List.getElem?_eq_getElem h0))
  refine ⟨_, rfl, hlt, fun j u hu => ?_⟩
  have e : (⟨g, o, none⟩ : Addr).add j = ⟨g, o + j, none⟩ := by unfold Addr.add; split <;> simp_all
  rw [e]
  have hj : j < M.length * E.k := by have := (List.getElem?_eq_some_iff.1 hu).1; rwa [El.encs_length hE] at this
  have hi : j / E.k < M.length := by
    rw [Nat.div_lt_iff_lt_mul hp]; exact hj
  obtain ⟨g2, o2, e2, hc2⟩ := h3 (j / E.k) M[j / E.k] (List.getElem?_eq_getElem hi)
  simp only [Option.some.injEq, Addr.mk.injEq, and_true] at e2
  obtain ⟨rfl, rfl⟩ := e2
  have hm2 : j % E.k < E.k := Nat.mod_lt _ hp
  have hdm : j / E.k * E.k + j % E.k = j := by rw [Nat.mul_comm]; exact Nat.div_add_mod j E.k
  have hg := El.encs_get hE M (j / E.k) (j % E.k) _ (List.getElem?_eq_getElem hi) hm2
  rw [hdm, hu] at hg
  have := hc2 (j % E.k) u hg.symm
  rw [Nat.add_assoc, hdm] at this
  exact this
theorem EOwn.block {w : World} {g : Nat} {cs : Array Value} {M : List α} (hE : E.Ok) (h : Blk w g E.T cs) (hc : cs.toList = E.encs M) (hm : M.length ≤ 1000000) : EOwn E w (.slice (some ⟨g, 0, none⟩) M.length M.length) M := by
  have hs : cs.size = M.length * E.k := by rw [← El.encs_length hE M, ← hc]; simp
  refine .inr ⟨g, M.length, rfl, cs, h, hs, Nat.le_refl _, by simp only [maxLen]; omega, ?_⟩
  rw [← hc]
  exact List.take_of_length_le (by simp [hs])
theorem run_eappr2 {w : World} {t t2 ty e2 : TypeId} (hE : E.Ok) (ht : Try.prog.underlying t = some (.slice E.T)) (ht2 : Try.prog.underlying t2 = some (.slice e2)) {v : Value} {L M : List α} {A : Option Addr} {c : Nat} (h : EOwn E w v L) (hM : Reads w w.heap.size E.k A M.length (E.encs M)) (hl : L.length + M.length ≤ maxLen) (hby2 : (L.length + M.length) * E.by_ ≤ 140737488355328) :
    ∃ v' w', (Builtin.append_ #[t, t2] ty #[v, .slice A M.length c]).run Try.prog w = .ok v' w' ∧ EApp E v (L ++ M) w v' w' := by
  obtain ⟨i0, hi, hz, hsz, hby⟩ := info_parts hE.info
  obtain ⟨v', w', hr, ho, hg, hb⟩ := run_append_any (P := Try.prog) w 0 t ty E.T i0 _ E.k E.by_ ht hi hz hsz hby hE.zs hE.pos v L.length (E.encs L) (h.own hE) w.heap.size A M.length c (E.encs M) hM (El.encs_one hE M) hl hby2 (Nat.zero_le _)
  have he : E.encs L ++ E.encs M = E.encs (L ++ M) := (El.encs_append _ _).symm
  have hn : L.length + M.length = (L ++ M).length := by simp
  rw [he, hn] at ho
  refine ⟨v', w', (append_types ht ht2 _ _ _).trans hr, ?_, hg, fun g e => ?_⟩
  · rcases ho.2 with ⟨h1, h2⟩ | ⟨g, cap, cur, hv, _, h1, h3, h4, h2, h5⟩
    · exact .inl ⟨h1, List.eq_nil_of_length_eq_zero h2⟩
    · exact .inr ⟨g, cap, hv, cur, h1, h2, h3, h4, h5⟩
  · rcases hb with hb | hb
    · exact .inl (hb ▸ e)
    · rw [hb] at e; simp at e; exact .inr e.symm
theorem wpList_eappr2 {w : World} {ops : Array Oper} {rest : List Oper} {o : Oper} {a : Act} {Q : Exit → Act → World → Prop} (hE : E.Ok) (hgd : o.guard = none) (s x : Operand) (t t2 : TypeId) {e2 : TypeId}
    (ho : o.op = .call { callee := .builtin .append, args := #[s, x], argTypes := #[t, t2] }) (ht : Try.prog.underlying t = some (.slice E.T)) (ht2 : Try.prog.underlying t2 = some (.slice e2)) (v : Value) (L M : List α) (A : Option Addr) (c : Nat) (hs : a.eval s = v) (hx : a.eval x = .slice A M.length c)
    (h : EOwn E w v L) (hM : Reads w w.heap.size E.k A M.length (E.encs M)) (hl : L.length + M.length ≤ maxLen) (hby2 : (L.length + M.length) * E.by_ ≤ 140737488355328)
    (hK : ∀ v' w', EApp E v (L ++ M) w v' w' → wpList Try.prog ops Q rest (a.put o.dst v') w') : wpList Try.prog ops Q (o :: rest) a w :=
  wpList_plain hgd fun _ hK' => by
    obtain ⟨v', w', hrun, hA⟩ := run_eappr2 (ty := o.type) (c := c) hE ht ht2 h hM hl hby2
    unfold Oper.wp execOp
    simp only [ho, resolve, invoke, builtin, Sem.run_bind, Sem.run_pure, Result.andThen_ok, List.map_toArray, List.map_cons, List.map_nil, hs, hx, hrun]
    exact hK' _ _ (hK v' w' hA)
end
end Go.Proofs.Ytimfcgnnfgoaaaa
