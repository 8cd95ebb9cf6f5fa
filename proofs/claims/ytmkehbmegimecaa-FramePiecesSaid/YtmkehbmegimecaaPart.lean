/- frame: the frames of bytes, one after the other; rows of frames. -/
import Derived.Test.YtmkehbmegimecaaFrameU
namespace Go.Proofs.Ytmkehbmegimecaa
set_option linter.unusedVariables false
set_option linter.unusedSimpArgs false
open Go.RowKit
theorem nx_less {l : List UInt8} (h : nkind l.length l ≠ 0) : (nxL l.length l).length < l.length := by
  unfold nkind at h
  unfold nxL
  by_cases h2 : l.length < 2
  · simp [h2] at h
  · rw [if_neg h2] at h ⊢
    by_cases h6 : 600 < hdr l
    · rw [if_pos h6, List.length_drop]; omega
    · rw [if_neg h6] at h ⊢
      by_cases hs : l.length < 2 + hdr l
      · simp [hs] at h
      · rw [if_neg hs, List.length_drop]; omega
def partsF : Nat → List UInt8 → List (List UInt8 × Int)
  | 0, _ => []
  | f + 1, l => if nkind l.length l = 0 then [] else (nxB l.length l, nkind l.length l) :: partsF f (nxL l.length l)
theorem partsF_more (f : Nat) : ∀ (g : Nat) (l : List UInt8), l.length < f → f ≤ g → partsF g l = partsF f l := by
  induction f with
  | zero => intro g l h; omega
  | succ f ih =>
    intro g l h hg
    obtain ⟨g, rfl⟩ : ∃ g', g = g' + 1 := ⟨g - 1, by omega⟩
    simp only [partsF]
    by_cases hk : nkind l.length l = 0
    · rw [if_pos hk, if_pos hk]
    · rw [if_neg hk, if_neg hk, ih g _ (by have := nx_less hk; omega) (by omega)]
/-- The frames of bytes. -/
def parts (l : List UInt8) : List (List UInt8 × Int) := partsF (l.length + 1) l
theorem parts_none {l : List UInt8} (h : nkind l.length l = 0) : parts l = [] := by simp [parts, partsF, h]
theorem parts_more {l : List UInt8} (h : nkind l.length l ≠ 0) : parts l = (nxB l.length l, nkind l.length l) :: parts (nxL l.length l) := by
  have h1 := nx_less h
  unfold parts
  rw [partsF, if_neg h]
  congr 1
  exact partsF_more _ _ _ (Nat.lt_succ_self _) (by omega)
theorem hdr_app {l r : List UInt8} (h : 2 ≤ l.length) : hdr (l ++ r) = hdr l := by
  unfold hdr
  rw [List.getD_eq_getElem?_getD, List.getD_eq_getElem?_getD, List.getD_eq_getElem?_getD, List.getD_eq_getElem?_getD, List.getElem?_append_left (by omega), List.getElem?_append_left (by omega)]
/-- The frames of what waits and what comes, behind the bytes to be passed over. -/
def strm (l : List UInt8) (ov : Nat) (r : List UInt8) : List (List UInt8 × Int) := parts ((l ++ r).drop ov)
theorem strm_step {l : List UInt8} {ov : Nat} (h0 : 0 < l.length → ov = 0) (h : nkind l.length l ≠ 0) (r : List UInt8) : strm l ov r = (nxB l.length l, nkind l.length l) :: strm (nxL l.length l) (nxOv l.length ov l) r := by
  have h2 : 2 ≤ l.length := by
    unfold nkind at h
    by_cases h2 : l.length < 2
    · simp [h2] at h
    · omega
  have ho : ov = 0 := h0 (by omega)
  subst ho
  have hh : hdr (l ++ r) = hdr l := hdr_app h2
  unfold strm
  rw [List.drop_zero]
  have hk : nkind (l ++ r).length (l ++ r) = nkind l.length l := by
    unfold nkind at h ⊢
    rw [hh, List.length_append]
    rw [if_neg (by omega : ¬ l.length < 2)] at h ⊢
    rw [if_neg (by omega : ¬ l.length + r.length < 2)]
    by_cases h6 : 600 < hdr l
    · rw [if_pos h6, if_pos h6]
    · rw [if_neg h6] at h ⊢
      rw [if_neg h6]
      by_cases hs : l.length < 2 + hdr l
      · simp [hs] at h
      · rw [if_neg hs, if_neg (by omega)]
  rw [parts_more (by rw [hk]; exact h), hk]
  unfold nkind at h
  rw [if_neg (by omega : ¬ l.length < 2)] at h
  unfold nxB nxL nxOv
  rw [hh, List.length_append, if_neg (by omega : ¬ l.length + r.length < 2), if_neg (by omega : ¬ l.length + r.length < 2), if_neg (by omega : ¬ l.length < 2), if_neg (by omega : ¬ l.length < 2), if_neg (by omega : ¬ l.length < 2)]
  by_cases h6 : 600 < hdr l
  · simp only [if_pos h6]
    congr 2
    rw [← List.drop_append_of_le_length (by omega), List.drop_drop]
    by_cases hm : hdr l ≤ l.length - 2
    · rw [Nat.min_eq_left hm, Nat.min_eq_left (by omega), Nat.sub_self, Nat.add_zero]
    · rw [Nat.min_eq_right (by omega : l.length - 2 ≤ hdr l)]
      by_cases hm2 : hdr l ≤ l.length + r.length - 2
      · rw [Nat.min_eq_left hm2]; congr 1; omega
      · rw [List.drop_of_length_le (by rw [List.length_append]; omega), List.drop_of_length_le (by rw [List.length_append]; omega)]
  · simp only [if_neg h6] at h ⊢
    by_cases hs : l.length < 2 + hdr l
    · simp [hs] at h
    · rw [if_neg hs, if_neg hs, if_neg hs, if_neg (by omega), if_neg (by omega), List.drop_zero, List.drop_append_of_le_length (by omega), List.drop_append_of_le_length (by omega), List.take_append_of_le_length (by rw [List.length_drop]; omega)]
theorem strm_end {l : List UInt8} {ov : Nat} (h0 : 0 < l.length → ov = 0) (h : nkind l.length l = 0) : strm l ov [] = [] := by
  unfold strm
  rw [List.append_nil]
  by_cases hl : 0 < l.length
  · rw [h0 hl, List.drop_zero]; exact parts_none h
  · have : l = [] := List.eq_nil_of_length_eq_zero (by omega)
    subst this
    rw [List.drop_nil]; exact parts_none h
theorem strm_feed {room : Int} {l news r : List UInt8} {ov : Nat} (h0 : 0 < l.length → ov = 0) (hok : fdOk room l.length ov news.length = true) : strm (fdL true l news ov news.length) (fdOv true ov news.length) r = strm l ov (news ++ r) := by
  unfold strm fdL fdOv
  simp only [if_true]
  by_cases hl : 0 < l.length
  · have := h0 hl
    subst this
    simp
  · have : l = [] := List.eq_nil_of_length_eq_zero (by omega)
    subst this
    simp only [List.nil_append]
    by_cases hm : ov ≤ news.length
    · rw [Nat.min_eq_left hm, Nat.sub_self, List.drop_zero, List.drop_append_of_le_length hm]
    · rw [Nat.min_eq_right (by omega), List.drop_length, List.nil_append, List.drop_append, List.drop_of_length_le (by omega : news.length ≤ ov), List.nil_append]
/-- A part as it lies: its body's slice, its kind. -/
abbrev Pt := Option Addr × Nat × Nat × Int
def pcells (t : Pt) : List Value := [.slice t.1 t.2.1 t.2.2.1, .int .i64 t.2.2.2]
def encP (L : List Pt) : List Value := L.flatMap pcells
def pat (L : List Pt) (i : Nat) : Pt := L.getD i (none, 0, 0, 0)
theorem encP_length (L : List Pt) : (encP L).length = L.length * 2 := by
  induction L with
  | nil => rfl
  | cons x xs ih => simp only [encP, List.flatMap_cons, List.length_append, List.length_cons] at *; rw [ih]; simp [pcells]; omega
theorem encP_append (L M : List Pt) : encP (L ++ M) = encP L ++ encP M := by simp [encP]
theorem encP_get (L : List Pt) : ∀ (i j : Nat), i < L.length → j < 2 → (encP L)[i * 2 + j]? = (pcells (pat L i))[j]? := by
  induction L with
  | nil => intro i j h; simp at h
  | cons x xs ih =>
    intro i j hi hj
    cases i with
    | zero =>
      simp only [encP, List.flatMap_cons]
      rw [List.getElem?_append_left (by simp [pcells]; omega)]
      simp [pat]
    | succ i =>
      simp only [encP, List.flatMap_cons]
      rw [List.getElem?_append_right (by simp [pcells]; omega)]
      have := ih i j (by simpa using hi) hj
      simp only [encP] at this
      rw [show (i + 1) * 2 + j - (pcells x).length = i * 2 + j by simp [pcells]; omega, this]
      simp [pat]
/-- A slice of the law's own that holds these parts. -/
def POwn (w : World) (v : Value) (L : List Pt) : Prop := w.ownsRow 0 48 2 v L.length (encP L)
theorem POwn.nil_ (w : World) : POwn w (.slice none 0 0) [] := World.ownsRow_nil _ _ _ _
theorem POwn.slice {w : World} {v : Value} {L : List Pt} (h : POwn w v L) : ∃ A c, v = .slice A L.length c ∧ L.length ≤ c ∧ c ≤ maxLen ∧ (0 < L.length → ∃ g, A = some ⟨g, 0, none⟩) := by
  rcases h.2 with ⟨rfl, hz⟩ | ⟨g, cap, cur, rfl, _, _, h1, h2, _⟩
  · exact ⟨none, 0, by rw [hz], by omega, by decide, fun h0 => by omega⟩
  · exact ⟨_, _, rfl, h1, h2, fun _ => ⟨g, rfl⟩⟩
theorem POwn.cell {w : World} {g c n : Nat} {L : List Pt} (h : POwn w (.slice (some ⟨g, 0, none⟩) n c) L) {i : Nat} (hi : i < L.length) :
    w.cell? ⟨g, i * 2, none⟩ = some (.slice (pat L i).1 (pat L i).2.1 (pat L i).2.2.1) ∧ w.cell? ⟨g, i * 2 + 1, none⟩ = some (.int .i64 (pat L i).2.2.2) := by
  have hn : n = L.length := by
    rcases h.2 with ⟨h, _⟩ | ⟨g', cap, cur, h, _⟩
    · cases h
    · injection h with _ h _
  subst hn
  have h0 := encP_get L i 0 hi (by omega)
  have h1 := encP_get L i 1 hi (by omega)
  have c0 := World.ownsRow.cellAt h (i * 2 + 0) (by omega)
  have c1 := World.ownsRow.cellAt h (i * 2 + 1) (by omega)
  rw [h0] at c0
  rw [h1] at c1
  exact ⟨by simpa [pcells] using c0, by simpa [pcells] using c1⟩
theorem POwn.keep {w w' : World} {v : Value} {L : List Pt} (h : POwn w v L) (hk : ∀ i, i < w.heap.size → v.ownBlock = some i → w'.heap[i]? = w.heap[i]?) : POwn w' v L := by
  refine ⟨h.1, ?_⟩
  rcases h.2 with h3 | ⟨g, cap, cur, rfl, hb, hh, h4⟩
  · exact .inl h3
  · refine .inr ⟨g, cap, cur, rfl, hb, ?_, h4⟩
    have hlt : g < w.heap.size := by
      rcases Nat.lt_or_ge g w.heap.size with h | h
      · exact h
      · rw [Array.getElem?_eq_none h] at hh; cases hh
    rw [hk g hlt rfl]; exact hh
theorem POwn.below {w w' : World} {v : Value} {L : List Pt} (h : POwn w v L) (hb : Below w.heap.size w w') : POwn w' v L := h.keep fun i hi _ => hb.block i hi
theorem POwn.lt {w : World} {v : Value} {L : List Pt} (h : POwn w v L) {i : Nat} (hi : v.ownBlock = some i) : i < w.heap.size := (World.ownsRow.lt h i hi).2
theorem pcells_one (t : Pt) : ∀ u ∈ pcells t, u.oneCell' = true := by
  intro u hu
  simp [pcells] at hu
  rcases hu with rfl | rfl <;> rfl
theorem part_info : (Try.prog.info? 48).map (fun i => (i.zero, i.size, i.bytes)) = some (some (.agg #[.slice none 0 0, .int .i64 0]), 2, 32) := by kernel_rfl
theorem reads_part {w : World} {b : Nat} {t : Pt} (h0 : w.cell? ⟨b, 0, none⟩ = some (.slice t.1 t.2.1 t.2.2.1)) (h1 : w.cell? ⟨b, 1, none⟩ = some (.int .i64 t.2.2.2)) : Reads w w.heap.size 2 (some ⟨b, 0, none⟩) 1 (pcells t) := by
  refine ⟨rfl, fun _ => ⟨_, rfl, World.block_lt_of_cell? w _ h0, fun j u hu => ?_⟩⟩
  have hj : j = 0 ∨ j = 1 := by have := (List.getElem?_eq_some_iff.1 hu).1; simp [pcells] at this; omega
  rcases hj with rfl | rfl
  · simp [pcells] at hu; subst hu; simpa [Addr.add] using h0
  · simp [pcells] at hu; subst hu; simpa [Addr.add] using h1
def PAppended (v : Value) (L : List Pt) (w : World) (v' : Value) (w' : World) : Prop :=
  POwn w' v' L ∧ w.grownBy w' v.ownBlock ∧ (v'.ownBlock = v.ownBlock ∨ v'.ownBlock = some w.heap.size) ∧ ∃ g c, v' = .slice (some ⟨g, 0, none⟩) L.length c
theorem run_pushP {w : World} {t ty : TypeId} (ht : Try.prog.underlying t = some (.slice 48)) {v : Value} {L : List Pt} {e : Pt} {b c : Nat} (h : POwn w v L) (h0 : w.cell? ⟨b, 0, none⟩ = some (.slice e.1 e.2.1 e.2.2.1)) (h1 : w.cell? ⟨b, 1, none⟩ = some (.int .i64 e.2.2.2)) (hl : L.length ≤ 1000000) :
    ∃ v' w', (Builtin.append_ #[t, t] ty #[v, .slice (some ⟨b, 0, none⟩) 1 c]).run Try.prog w = .ok v' w' ∧ PAppended v (L ++ [e]) w v' w' := by
  obtain ⟨i0, hi, hz, hsz, hby⟩ := info_parts part_info
  obtain ⟨v', w', hr, ho, hg, hb⟩ := run_append_any (P := Try.prog) w 0 t ty 48 i0 _ 2 32 ht hi hz hsz hby rfl (by omega) v L.length (encP L) h w.heap.size (some ⟨b, 0, none⟩) 1 c (pcells e) (reads_part h0 h1) (pcells_one e) (by simp only [maxLen]; omega) (by omega) (Nat.zero_le _)
  have he : encP L ++ pcells e = encP (L ++ [e]) := by rw [encP_append]; simp [encP]
  rw [he] at ho
  have ho2 : POwn w' v' (L ++ [e]) := by unfold POwn; rw [List.length_append]; exact ho
  refine ⟨v', w', hr, ho2, hg, hb, ?_⟩
  obtain ⟨A, c', hv, _, _, hA⟩ := ho2.slice
  obtain ⟨g, rfl⟩ := hA (by simp)
  exact ⟨g, c', hv⟩
theorem wpList_pushP {w : World} {ops : Array Oper} {rest : List Oper} {o : Oper} {a : Act} {Q : Exit → Act → World → Prop} (hgd : o.guard = none) (s x : Operand) (t : TypeId)
    (ho : o.op = .call { callee := .builtin .append, args := #[s, x], argTypes := #[t, t] }) (ht : Try.prog.underlying t = some (.slice 48)) (v : Value) (L : List Pt) (e : Pt) (b c : Nat) (hs : a.eval s = v) (hx : a.eval x = .slice (some ⟨b, 0, none⟩) 1 c)
    (h : POwn w v L) (h0 : w.cell? ⟨b, 0, none⟩ = some (.slice e.1 e.2.1 e.2.2.1)) (h1 : w.cell? ⟨b, 1, none⟩ = some (.int .i64 e.2.2.2)) (hl : L.length ≤ 1000000)
    (hK : ∀ v' w', PAppended v (L ++ [e]) w v' w' → wpList Try.prog ops Q rest (a.put o.dst v') w') : wpList Try.prog ops Q (o :: rest) a w := by
  refine wpList_plain hgd fun _ hK' => ?_
  obtain ⟨v', w', hrun, hA⟩ := run_pushP (ty := o.type) (c := c) ht h h0 h1 hl
  unfold Oper.wp execOp
  simp only [ho, resolve, invoke, builtin, Sem.run_bind, Sem.run_pure, Result.andThen_ok, List.map_toArray, List.map_cons, List.map_nil, hs, hx, hrun]
  exact hK' _ _ (hK v' w' hA)
/-- What the parts as they lie mean. -/
def Means (w : World) (L : List Pt) (Ps : List (List UInt8 × Int)) : Prop :=
  L.length = Ps.length ∧ ∀ (i : Nat) (t : Pt) (P : List UInt8 × Int), L[i]? = some t → Ps[i]? = some P → RB w t.1 t.2.1 P.1 ∧ t.2.2.2 = P.2 ∧ P.1.length ≤ 65536
theorem Means.nil_ (w : World) : Means w [] [] := ⟨rfl, fun i t P h => by simp at h⟩
theorem Means.snoc {w : World} {L : List Pt} {Ps : List (List UInt8 × Int)} (h : Means w L Ps) {t : Pt} {P : List UInt8 × Int} (h1 : RB w t.1 t.2.1 P.1) (h2 : t.2.2.2 = P.2) (h3 : P.1.length ≤ 65536) : Means w (L ++ [t]) (Ps ++ [P]) := by
  refine ⟨by simp [h.1], fun i t' P' ht hP => ?_⟩
  by_cases hi : i < L.length
  · rw [List.getElem?_append_left hi] at ht
    rw [List.getElem?_append_left (by rw [← h.1]; exact hi)] at hP
    exact h.2 i t' P' ht hP
  · have hi2 : i < (L ++ [t]).length := (List.getElem?_eq_some_iff.1 ht).1
    have e : i = L.length := by simp at hi2; omega
    subst e
    rw [List.getElem?_append_right (Nat.le_refl _)] at ht
    rw [h.1, List.getElem?_append_right (Nat.le_refl _)] at hP
    simp at ht hP
    subst ht; subst hP
    exact ⟨h1, h2, h3⟩
theorem Means.keep {w w' : World} {L : List Pt} {Ps : List (List UInt8 × Int)} (h : Means w L Ps) (hk : ∀ t ∈ L, ∀ l, RB w t.1 t.2.1 l → RB w' t.1 t.2.1 l) : Means w' L Ps :=
  ⟨h.1, fun i t P ht hP => ⟨hk t (List.mem_of_getElem? ht) _ (h.2 i t P ht hP).1, (h.2 i t P ht hP).2⟩⟩
theorem Means.below {w w' : World} {L : List Pt} {Ps : List (List UInt8 × Int)} (h : Means w L Ps) (hb : Below w.heap.size w w') : Means w' L Ps := h.keep fun t _ l hl => hl.later hb
end Go.Proofs.Ytmkehbmegimecaa
