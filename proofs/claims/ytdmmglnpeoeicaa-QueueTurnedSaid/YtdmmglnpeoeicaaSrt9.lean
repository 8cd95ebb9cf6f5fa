/- queue.Sort, by contract. -/
import Derived.Test.YtdmmglnpeoeicaaSrt8
import Derived.Test.YtdmmglnpeoeicaaQRd
import Derived.Test.YtdmmglnpeoeicaaQPush
namespace Go.Proofs.Ytdmmglnpeoeicaa
set_option linter.unusedVariables false
set_option linter.unusedSimpArgs false
open Go.RowKit
theorem Rd.reads {w : World} {A : Option Addr} {n c : Nat} {S : List En} (h : Rd w A n c S) : Reads w w.heap.size 3 A n (encs S) := by
  have hl := h.1
  refine ⟨by rw [encs_length, hl], fun h0 => ?_⟩
  obtain ⟨g, off, rfl, c0, _, _⟩ := h.cell h0
  refine ⟨_, rfl, World.block_lt_of_cell? w _ c0, fun j u hu => ?_⟩
  have hj : j < n * 3 := by have := (List.getElem?_eq_some_iff.1 hu).1; rw [encs_length, hl] at this; exact this
  obtain ⟨g', off', he, a0, a1, a2⟩ := h.cell (i := j / 3) (by omega)
  injection he with he; injection he with he1 he2; subst he1; subst he2
  rw [addr_add]
  have e : j = j / 3 * 3 + j % 3 := by omega
  have h2 := encs_get S (j / 3) (j % 3) (by omega) (by omega)
  rw [← e, hu] at h2
  have h3 : j % 3 = 0 ∨ j % 3 = 1 ∨ j % 3 = 2 := by omega
  rcases h3 with h3 | h3 | h3
  · rw [h3] at h2; simp [encE] at h2; subst h2
    rw [show off + j = off + j / 3 * 3 by omega]; exact a0
  · rw [h3] at h2; simp [encE] at h2; subst h2
    rw [show off + j = off + j / 3 * 3 + 1 by omega]; exact a1
  · rw [h3] at h2; simp [encE] at h2; subst h2
    rw [show off + j = off + j / 3 * 3 + 2 by omega]; exact a2
/-- A new row, like S. -/
def ClonedE (w : World) (n : Nat) (S : List En) (v' : Value) (w' : World) : Prop :=
  ∃ B c', v' = .slice B n c' ∧ Hv w' B n c' S ∧ Below w.heap.size w w' ∧ (0 < n → ∃ g, B = some ⟨g, 0, none⟩ ∧ QRow w' g c' S ∧ w.heap.size ≤ g)
theorem encs_one (S : List En) : ∀ u ∈ encs S, u.oneCell' = true := by
  intro u hu
  simp only [encs, List.mem_flatMap] at hu
  obtain ⟨e, _, he⟩ := hu
  exact encE_one e u he
theorem run_clone {w : World} {t ty : TypeId} (ht : Try.prog.underlying t = some (.slice 29)) {A : Option Addr} {n c : Nat} {S : List En} (h : Rd w A n c S) (hn : n ≤ 1000000) :
    ∃ v' w', (Builtin.append_ #[t, t] ty #[.slice (some ⟨w.heap.size, 0, none⟩) 0 0, .slice A n c]).run Try.prog (w.alloc (.cells #[] 29)) = .ok v' w' ∧ ClonedE w n S v' w' := by
  obtain ⟨i0, hi, hz, hsz, hby⟩ := info_parts entry_info
  have hA : Below w.heap.size w (w.alloc (.cells #[] 29)) := (Below.refl _ _).alloc (Nat.le_refl _) _
  have hq : QRow (w.alloc (.cells #[] 29)) w.heap.size 0 [] := ⟨#[], Blk.new _ _ _, rfl, Nat.le_refl _, by decide, fun i j hi => by simp at hi⟩
  have hl := h.1
  obtain ⟨v', w', hr, ho, hg, hb⟩ := run_append_any (P := Try.prog) (w := w.alloc (.cells #[] 29)) 0 t ty 29 i0 _ 3 24 ht hi hz hsz hby rfl (by omega) (.slice (some ⟨w.heap.size, 0, none⟩) 0 0) 0 [] hq.own _ A n c (encs S) ((h.below hA).reads) (encs_one S) (by simp only [maxLen]; omega) (by omega) (Nat.zero_le _)
  rw [List.nil_append, Nat.zero_add] at ho
  refine ⟨v', w', hr, ?_⟩
  have hW : Below w.heap.size w w' := hA.grown hg (by simp) (fun g hg => by simp [Value.ownBlock] at hg; omega)
  rcases Nat.eq_zero_or_pos n with h0 | h0
  · subst h0
    have hS : S = [] := List.eq_nil_of_length_eq_zero hl
    subst hS
    rcases ho.2 with ⟨hv, _⟩ | ⟨g, cap, cur, hv, _, h1, h3, h4, h2, h5⟩
    · subst hv
      exact ⟨none, 0, rfl, Hv.nil_ _, hW, fun h => by omega⟩
    · subst hv
      exact ⟨_, cap, rfl, ⟨rfl, by omega, by first | exact h4 | omega, .inr ⟨g, 0, cur, rfl, by first | exact h1 | assumption, by omega, fun i j hi => by omega⟩⟩, hW, fun h => by omega⟩
  · obtain ⟨g, cap, hv, hq'⟩ := QRow.of_own ho hl.symm h0
    subst hv
    have hown : QOwn w' (.slice (some ⟨g, 0, none⟩) S.length cap) S := .inr ⟨g, cap, rfl, hq'⟩
    have hv := hown.hv
    rw [hl] at hv ⊢
    refine ⟨_, cap, rfl, hv, hW, fun _ => ⟨g, rfl, hq', ?_⟩⟩
    rcases hb with hb | hb
    · simp [Value.ownBlock] at hb; omega
    · simp [Value.ownBlock] at hb; omega
theorem wpList_app {w : World} {ops : Array Oper} {rest : List Oper} {o : Oper} {a : Act} {Q : Exit → Act → World → Prop} (hgd : o.guard = none) (s x : Operand) (t : TypeId)
    (ho : o.op = .call { callee := .builtin .append, args := #[s, x], argTypes := #[t, t] }) (v1 v2 : Value) (hs : a.eval s = v1) (hx : a.eval x = v2) {v' : Value} {w' : World}
    (hrun : (Builtin.append_ #[t, t] o.type #[v1, v2]).run Try.prog w = .ok v' w') (hK : wpList Try.prog ops Q rest (a.put o.dst v') w') : wpList Try.prog ops Q (o :: rest) a w :=
  wpList_plain hgd fun _ hK' => by
    unfold Oper.wp execOp
    simp only [ho, resolve, invoke, builtin, Sem.run_bind, Sem.run_pure, Result.andThen_ok, List.map_toArray, List.map_cons, List.map_nil, hs, hx, hrun]
    exact hK' _ _ hK
def CloneP (w : World) (n : Nat) (S : List En) (e : Ending) (w' : World) : Prop := ∃ v', e = .returned v' ∧ ClonedE w n S v' w'
set_option maxHeartbeats 1000000 in
theorem eclone_any (A : Option Addr) (n c : Nat) (S : List En) (w : World) (h : Rd w A n c S) (hn : n ≤ 1000000) :
    Calls Try.prog 25 #[.slice A n c] w fun e w' => CloneP w n S e w' := by
  cases A with
  | none =>
    have hn0 : n = 0 := h.2.2.2.1 rfl
    subst hn0
    have hS : S = [] := List.eq_nil_of_length_eq_zero h.1
    subst hS
    have HE := Lib.hid (show CloneP w 0 [] (.returned (.slice none 0 0)) w from ⟨_, rfl, none, 0, rfl, Hv.nil_ _, Below.refl _ _, fun h => by omega⟩)
    clear h
    have hck := fun W : World => Lib.run_eql_slice_nil (P := Try.prog) W 26 29 none 0 c 0 0 Try.underlying26
    go_enter Try.func25, Try.ntmps25
    go_wp2
    go_ret
    exact HE.out
  | some ad =>
    obtain ⟨v', w', hrun, hC⟩ := run_clone (t := 26) (ty := 26) Try.underlying26 h hn
    have HRUN := Lib.hid hrun
    have HE := Lib.hid (show CloneP w n S (.returned v') w' from ⟨_, rfl, hC⟩)
    clear h hrun hC
    have hck := fun W : World => Lib.run_eql_slice_nil (P := Try.prog) W 26 29 (some ad) n c 0 0 Try.underlying26
    go_enter Try.func25, Try.ntmps25
    go_wp2_with ((at_builtin; refine wpList_app rfl (.tmp 5) (.tmp 6) _ rfl _ _ rfl rfl HRUN.out ?_))
    go_ret
    exact HE.out
def QSortP (w : World) (n : Nat) (S : List En) (e : Ending) (w' : World) : Prop :=
  ∃ B c' T, e = .returned (.slice B n c') ∧ Hv w' B n c' T ∧ T.Perm S ∧ Srt T ∧ Below w.heap.size w w'
set_option maxHeartbeats 2000000 in
theorem qsort_any (A : Option Addr) (n c : Nat) (S : List En) (w : World) (h : Rd w A n c S) (hn : n ≤ 1000000) :
    Calls Try.prog 17 #[.slice A n c] w fun e w' => QSortP w n S e w' := by
  have HC := Lib.hid (eclone_any A n c S w h hn)
  have HL := Lib.hid h.1
  clear h
  go_enter Try.func17, Try.ntmps17
  go_wp2_with fail
  refine HC.out.mono ?_
  rintro e w2 ⟨v', rfl, B, c', rfl, hv, hb, hg⟩
  by_cases h2 : 2 ≤ n
  · obtain ⟨g, rfl, hq, hge⟩ := hg (by omega)
    have hSA : SA w2 g c' S.toArray w2 := ⟨hq.lt, by simpa using hq, ⟨rfl, rfl, rfl, Nat.le_refl _, fun _ _ _ => rfl⟩⟩
    have HS := Lib.hid (ssort_any w2 g c' n S.toArray w2 hSA (by simpa using HL.out) h2 hn)
    have HB := Lib.hid hb
    clear hq hSA hv hb hg
    go_wp2_with fail
    refine HS.out.mono ?_
    rintro e w3 ⟨rfl, d', hp, hs, hsa⟩
    have hsz : d'.size = n := by rw [hp.1]; simpa using HL.out
    have hn' : S.toArray.size = n := by simpa using HL.out
    rw [← hn'] at hp hs
    have hperm := permIn_full hp
    rw [show S.toArray.size = d'.size by rw [hn', hsz]] at hs
    have hsrt := srt_full hs
    have hown : QOwn w3 (.slice (some ⟨g, 0, none⟩) d'.toList.length c') d'.toList := .inr ⟨g, c', rfl, hsa.2.1⟩
    have hhv := hown.hv
    rw [show d'.toList.length = n by simpa using hsz] at hhv
    have hW : Below w.heap.size w w3 := HB.out.grown hsa.2.2 HB.out.size (fun i hi => by injection hi with hi; omega)
    have HE := Lib.hid (show QSortP w n S (.returned (.slice (some ⟨g, 0, none⟩) n c')) w3 from ⟨_, c', _, rfl, hhv, by simpa using hperm, hsrt, hW⟩)
    clear hp hs hsa hsz hn' hperm hsrt hown hhv hW HS HB
    go_wp2
    go_ret
    exact HE.out
  · have HS := Lib.hid (ssort_tiny B n c' w2 (by omega))
    have HE := Lib.hid (show QSortP w n S (.returned (.slice B n c')) w2 from ⟨B, c', S, rfl, hv, List.Perm.refl _, by
      have hl := HL.out
      match S, hl with
      | [], _ => exact List.Pairwise.nil
      | [x], _ => exact List.pairwise_singleton _ _
      | x :: y :: r, hl => simp at hl; omega, hb⟩)
    clear hv hb hg
    go_wp2_with fail
    refine HS.out.mono ?_
    rintro e w3 ⟨rfl, hw⟩
    subst hw
    go_wp2
    go_ret
    exact HE.out
end Go.Proofs.Ytdmmglnpeoeicaa
