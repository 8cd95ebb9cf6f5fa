/- policy: rows of texts; a row is appended; put, by contract. -/
import Derived.Test.YtmgamlpjgghieaaGreatDoorZbPo7
namespace Go.Proofs.YtmgamlpjgghieaaGreatDoor
set_option linter.unusedVariables false
set_option linter.unusedSimpArgs false
open Go.RowKit
section
variable {α : Type} {E : El α}
def EApp (E : El α) (v : Value) (L : List α) (w : World) (v' : Value) (w' : World) : Prop :=
  EOwn E w' v' L ∧ w.grownBy w' v.ownBlock ∧ (∀ g, v'.ownBlock = some g → v.ownBlock = some g ∨ g = w.heap.size)
theorem EOwn.reads {w : World} {A : Option Addr} {c : Nat} {M : List α} (hE : E.Ok) (h : EOwn E w (.slice A M.length c) M) : Reads w w.heap.size E.k A M.length (E.encs M) := by
  refine ⟨El.encs_length hE M, fun hm => ?_⟩
  rcases h with ⟨_, rfl⟩ | ⟨g, cap, h, cur, h1, h2, h3, h4, h5⟩
  · simp at hm
  · injection h with a b c
    subst a
    refine ⟨_, rfl, h1.lt, fun j u hu => ?_⟩
    have e : (⟨g, 0, none⟩ : Addr).add j = ⟨g, j, none⟩ := by unfold Addr.add; split <;> simp_all
    rw [e, h1.cell]
    have hj : j < M.length * E.k := by have := (List.getElem?_eq_some_iff.1 hu).1; rwa [El.encs_length hE] at this
    rw [← h5, List.getElem?_take, if_pos hj, Array.getElem?_toList] at hu
    exact hu
theorem El.encs_one (hE : E.Ok) (M : List α) : ∀ u ∈ E.encs M, u.oneCell' = true := by
  intro u hu
  obtain ⟨x, _, h⟩ := List.mem_flatMap.1 hu
  exact hE.one x u h
theorem append_types {P : Program} {t t2 ty e e2 : TypeId} (ht : P.underlying t = some (.slice e)) (ht2 : P.underlying t2 = some (.slice e2)) (v u : Value) (w : World) :
    (Builtin.append_ #[t, t2] ty #[v, u]).run P w = (Builtin.append_ #[t, t] ty #[v, u]).run P w := by
  unfold Builtin.append_
  simp only [List.getElem?_toArray, List.getElem?_cons_zero, List.getElem?_cons_succ, Sem.run_bind, run_underlying ht, run_underlying ht2, Result.andThen_ok]
  cases v <;> try rfl
  simp only [Sem.run_bind]
  refine congrArg _ (funext fun size => funext fun w' => ?_)
  simp only [Sem.run_bind, run_underlying ht, run_underlying ht2, Result.andThen_ok]
theorem run_eapp {w : World} {t t2 ty e2 : TypeId} (hE : E.Ok) (ht : Tryz.prog.underlying t = some (.slice E.T)) (ht2 : Tryz.prog.underlying t2 = some (.slice e2)) {v : Value} {L M : List α} {A : Option Addr} {c : Nat} (h : EOwn E w v L) (hM : EOwn E w (.slice A M.length c) M) (hl : L.length + M.length ≤ 1000000) :
    ∃ v' w', (Builtin.append_ #[t, t2] ty #[v, .slice A M.length c]).run Tryz.prog w = .ok v' w' ∧ EApp E v (L ++ M) w v' w' := by
  obtain ⟨i0, hi, hz, hsz, hby⟩ := info_parts hE.info
  have hby2 : (L.length + M.length) * E.by_ ≤ 140737488355328 := by
    have h1 := hE.few
    have : (L.length + M.length) * E.by_ ≤ 1000000 * 512 := Nat.mul_le_mul hl h1
    omega
  obtain ⟨v', w', hr, ho, hg, hb⟩ := run_append_any (P := Tryz.prog) w 0 t ty E.T i0 _ E.k E.by_ ht hi hz hsz hby hE.zs hE.pos v L.length (E.encs L) (h.own hE) w.heap.size A M.length c (E.encs M) (hM.reads hE) (El.encs_one hE M) (by simp only [maxLen]; omega) hby2 (Nat.zero_le _)
  have he : E.encs L ++ E.encs M = E.encs (L ++ M) := (El.encs_append _ _).symm
  have hn : L.length + M.length = (L ++ M).length := by simp
  rw [he, hn] at ho
  refine ⟨v', w', (append_types ht ht2 _ _ _).trans hr, ?_, hg, fun g e => ?_⟩
  · rcases ho.2 with ⟨h1, h2⟩ | ⟨g, cap, cur, hv, _, h1, h3, h4, h2, h5⟩
    · exact .inl ⟨h1, List.eq_nil_of_length_eq_zero h2⟩
    · exact .inr ⟨g, cap, hv, cur, h1, h2, h3, h4, h5⟩
  · rcases hb with hb | hb
    · exact .inl (hb ▸ e)
    · rw [hb] at e; simp at e; exact .inr e.symm
theorem wp_eapp {w : World} {o : Oper} {a : Act} {K : Act → World → Prop} {Q : Exit → Act → World → Prop} (hE : E.Ok) (s x : Operand) (t t2 : TypeId) {e2 : TypeId}
    (ho : o.op = .call { callee := .builtin .append, args := #[s, x], argTypes := #[t, t2] }) (ht : Tryz.prog.underlying t = some (.slice E.T)) (ht2 : Tryz.prog.underlying t2 = some (.slice e2)) (v : Value) (L M : List α) (A : Option Addr) (c : Nat) (hs : a.eval s = v) (hx : a.eval x = .slice A M.length c)
    (h : EOwn E w v L) (hM : EOwn E w (.slice A M.length c) M) (hl : L.length + M.length ≤ 1000000)
    (hK : ∀ v' w', EApp E v (L ++ M) w v' w' → K (a.put o.dst v') w') : o.wp Tryz.prog a w K Q := by
  obtain ⟨v', w', hrun, hA⟩ := run_eapp (ty := o.type) (c := c) hE ht ht2 h hM hl
  unfold Oper.wp execOp
  simp only [ho, resolve, invoke, builtin, Sem.run_bind, Sem.run_pure, Result.andThen_ok, List.map_toArray, List.map_cons, List.map_nil, hs, hx, hrun]
  exact hK v' w' hA
theorem wpList_eapp {w : World} {ops : Array Oper} {rest : List Oper} {o : Oper} {a : Act} {Q : Exit → Act → World → Prop} (hE : E.Ok) (hgd : o.guard = none) (s x : Operand) (t t2 : TypeId) {e2 : TypeId}
    (ho : o.op = .call { callee := .builtin .append, args := #[s, x], argTypes := #[t, t2] }) (ht : Tryz.prog.underlying t = some (.slice E.T)) (ht2 : Tryz.prog.underlying t2 = some (.slice e2)) (v : Value) (L M : List α) (A : Option Addr) (c : Nat) (hs : a.eval s = v) (hx : a.eval x = .slice A M.length c)
    (h : EOwn E w v L) (hM : EOwn E w (.slice A M.length c) M) (hl : L.length + M.length ≤ 1000000)
    (hK : ∀ v' w', EApp E v (L ++ M) w v' w' → wpList Tryz.prog ops Q rest (a.put o.dst v') w') : wpList Tryz.prog ops Q (o :: rest) a w :=
  wpList_plain hgd fun _ hK' => wp_eapp hE s x t t2 ho ht ht2 v L M A c hs hx h hM hl fun v' w' hA => hK' _ _ (hK v' w' hA)
/-- A block that holds just these elements. -/
theorem EOwn.block {w : World} {g : Nat} {cs : Array Value} {M : List α} (hE : E.Ok) (h : Blk w g E.T cs) (hc : cs.toList = E.encs M) (hm : M.length ≤ 1000000) : EOwn E w (.slice (some ⟨g, 0, none⟩) M.length M.length) M := by
  have hs : cs.size = M.length * E.k := by rw [← El.encs_length hE M, ← hc]; simp
  refine .inr ⟨g, M.length, rfl, cs, h, hs, Nat.le_refl _, by simp only [maxLen]; omega, ?_⟩
  rw [← hc]
  exact List.take_of_length_le (by simp [hs])
end
/-- Texts, whole numbers. -/
def elS : El Bs := { T := 9, k := 1, by_ := 16, z := .string ⟨#[]⟩, enc := fun b => [.string (bs b)] }
theorem elS_ok : elS.Ok := ⟨Nat.one_pos, fun _ => rfl, fun x u hu => by simp [elS] at hu; subst hu; rfl, by kernel_rfl, rfl, by decide⟩
def elI : El Int := { T := 3, k := 1, by_ := 8, z := .int .i64 0, enc := fun n => [.int .i64 n] }
theorem elI_ok : elI.Ok := ⟨Nat.one_pos, fun _ => rfl, fun x u hu => by simp [elI] at hu; subst hu; rfl, by kernel_rfl, rfl, by decide⟩
end Go.Proofs.YtmgamlpjgghieaaGreatDoor
