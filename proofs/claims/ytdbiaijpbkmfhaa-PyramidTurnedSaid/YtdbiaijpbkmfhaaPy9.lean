/- pyramid: the document's Put, by contract. -/
import Derived.Test.YtdbiaijpbkmfhaaPy8
import Derived.Test.YtdbiaijpbkmfhaaCellRef4
import Derived.Deep.RegionHeld3
namespace Go.Proofs.Ytdbiaijpbkmfhaa
set_option linter.unusedVariables false
set_option linter.unusedSimpArgs false
open Go.RowKit
/-- A point's code. -/
def cd (p : Pn) : Int := codU 16 p.1 p.2
def LtE (a b : Pn) : Prop := cd a < cd b
instance (a b : Pn) : Decidable (LtE a b) := inferInstanceAs (Decidable (cd a < cd b))
def ltE (a b : Pn) : Bool := decide (LtE a b)
theorem ltE_true {a b : Pn} : ltE a b = true ↔ LtE a b := by simp [ltE]
theorem ltE_false {a b : Pn} : ltE a b = false ↔ ¬ LtE a b := by simp [ltE]
def ins (e : Pn) : List Pn → List Pn
  | [] => [e]
  | x :: xs => if LtE e x then e :: x :: xs else x :: ins e xs
theorem ins_perm (e : Pn) (S : List Pn) : (ins e S).Perm (e :: S) := by
  induction S with
  | nil => exact List.Perm.refl _
  | cons x xs ih =>
    unfold ins; split
    · exact List.Perm.refl _
    · exact (List.Perm.cons x ih).trans (List.Perm.swap e x xs)
theorem ins_length (e : Pn) (S : List Pn) : (ins e S).length = S.length + 1 := by simpa using (ins_perm e S).length_eq
def Srt (S : List Pn) : Prop := S.Pairwise fun a b => ¬ LtE b a
theorem ins_srt (e : Pn) (S : List Pn) (h : Srt S) : Srt (ins e S) := by
  induction S with
  | nil => simp [ins, Srt]
  | cons x xs ih =>
    have hx := List.pairwise_cons.1 h
    unfold ins; split
    · rename_i hl
      refine List.pairwise_cons.2 ⟨fun y hy => ?_, h⟩
      rcases List.mem_cons.1 hy with rfl | hy
      · exact by unfold LtE at hl ⊢; omega
      · exact fun hye => hx.1 y hy (by unfold LtE at hye hl ⊢; omega)
    · rename_i hl
      refine List.pairwise_cons.2 ⟨fun y hy => ?_, ih hx.2⟩
      rcases List.mem_cons.1 ((ins_perm e xs).mem_iff.1 hy) with rfl | hy
      · exact hl
      · exact hx.1 y hy
/-- What has been looked at of the entries, with e once it has come. -/
theorem ins_not (e : Pn) (S : List Pn) (h : S.any (ltE e) = false) : ins e S = S ++ [e] := by
  induction S with
  | nil => rfl
  | cons x xs ih =>
    simp only [List.any_cons, Bool.or_eq_false_iff] at h
    simp only [ins, if_neg (ltE_false.1 h.1), ih h.2, List.cons_append]
theorem ins_more (e x : Pn) (S : List Pn) (h : S.any (ltE e) = true) : ins e (S ++ [x]) = ins e S ++ [x] := by
  induction S with
  | nil => simp at h
  | cons y ys ih =>
    by_cases hy : LtE e y
    · simp [ins, hy]
    · simp only [List.cons_append, ins, if_neg hy]
      simp only [List.any_cons, ltE_false.2 hy, Bool.false_or] at h
      rw [ih h]
theorem ins_now (e x : Pn) (S : List Pn) (h : S.any (ltE e) = false) (hl : LtE e x) : ins e (S ++ [x]) = S ++ [e, x] := by
  induction S with
  | nil => simp [ins, hl]
  | cons y ys ih =>
    simp only [List.any_cons, Bool.or_eq_false_iff] at h
    simp only [List.cons_append, ins, if_neg (ltE_false.1 h.1), ih h.2]
def acc (x : Pn) (S : List Pn) (k : Nat) : List Pn := if (S.take k).any (ltE x) then ins x (S.take k) else S.take k
theorem acc_len (x : Pn) (S : List Pn) (k : Nat) : (acc x S k).length ≤ k + 1 := by
  unfold acc
  split
  · rw [ins_length, List.length_take]; omega
  · rw [List.length_take]; omega
theorem acc_done {x : Pn} {S : List Pn} {k : Nat} (hk : k < S.length) (h : (S.take k).any (ltE x) = true) : (S.take (k + 1)).any (ltE x) = true ∧ acc x S (k + 1) = acc x S k ++ [at_ S k] := by
  have h2 : (S.take (k + 1)).any (ltE x) = true := by rw [take_more hk, List.any_append, h]; rfl
  refine ⟨h2, ?_⟩
  unfold acc
  rw [if_pos h2, if_pos h, take_more hk, ins_more _ _ _ h]
theorem acc_now {x : Pn} {S : List Pn} {k : Nat} (hk : k < S.length) (h : (S.take k).any (ltE x) = false) (hl : LtE x (at_ S k)) : (S.take (k + 1)).any (ltE x) = true ∧ acc x S (k + 1) = (acc x S k ++ [x]) ++ [at_ S k] := by
  have h2 : (S.take (k + 1)).any (ltE x) = true := by rw [take_more hk, List.any_append]; simp [ltE_true.2 hl]
  refine ⟨h2, ?_⟩
  unfold acc
  rw [if_pos h2, if_neg (by simp [h]), take_more hk, ins_now _ _ _ h hl]
  simp
theorem acc_not {x : Pn} {S : List Pn} {k : Nat} (hk : k < S.length) (h : (S.take k).any (ltE x) = false) (hl : ¬ LtE x (at_ S k)) : (S.take (k + 1)).any (ltE x) = false ∧ acc x S (k + 1) = acc x S k ++ [at_ S k] := by
  have h2 : (S.take (k + 1)).any (ltE x) = false := by rw [take_more hk, List.any_append, h]; simp [ltE_false.2 hl]
  refine ⟨h2, ?_⟩
  unfold acc
  rw [if_neg (by simp [h2]), if_neg (by simp [h]), take_more hk]
/-- What Put has so far: its row, and that all else is as it was. -/
def PutSt (w : World) (x : Pn) (v : Value) (L : List Pn) (wr : World) : Prop :=
  QOwn wr v L ∧ Below w.heap.size w wr ∧ Blk wr w.heap.size 29 #[.int .i64 x.1, .int .i64 x.2] ∧ ∀ i, v.ownBlock = some i → w.heap.size < i
theorem PutSt.append {w wr X w' : World} {x y : Pn} {v v' : Value} {L : List Pn} (h : PutSt w x v L wr) (hX : Below wr.heap.size wr X) (ha : Appended v (L ++ [y]) X v' w') : PutSt w x v' (L ++ [y]) w' := by
  obtain ⟨h1, h2, h3, h4⟩ := h
  obtain ⟨g, cap, rfl, hr, hg, ho⟩ := ha
  have hB : Below w.heap.size w X := below_trans h2 hX
  have hg9 : w.heap.size < g := by
    rcases ho with ho | ho
    · exact h4 g ho
    · have := h3.lt; have := hX.size; omega
  refine ⟨.inr ⟨g, cap, rfl, hr⟩, ⟨hg.os.trans hB.os, hg.tape.trans hB.tape, hg.output.trans hB.output, Nat.le_trans hB.size hg.size, fun i hi => ?_⟩, ?_, fun i hi => ?_⟩
  · rw [hg.block i (Nat.lt_of_lt_of_le hi hB.size) (fun e => by have := h4 i e.symm; omega)]
    exact hB.block i hi
  · refine (h3.below hX h3.lt).grown hg (fun e => ?_)
    have := h4 _ e.symm
    omega
  · simp [Value.ownBlock] at hi; omega
theorem PutSt.below {w wr X : World} {x : Pn} {v : Value} {L : List Pn} (h : PutSt w x v L wr) (hX : Below wr.heap.size wr X) : PutSt w x v L X :=
  ⟨h.1.below hX, below_trans h.2.1 hX, h.2.2.1.below hX h.2.2.1.lt, h.2.2.2⟩
def PutPost (L : List Pn) (w : World) (e : Ending) (w' : World) : Prop := ∃ A c, e = .returned (.slice A L.length c) ∧ QOwn w' (.slice A L.length c) L ∧ Below w.heap.size w w' ∧ ∀ i, A.map (·.block) = some i → w.heap.size ≤ i
set_option maxHeartbeats 2000000 in
theorem rcode16_any (x y : Int) (w : World) : Calls Try.prog 32 #[.agg #[.int .i64 x, .int .i64 y]] w fun e w' => e = .returned (.int .u64 (codU 16 x y)) ∧ Below w.heap.size w w' := by
  have HCD := Lib.hid (rcode_u 16 x y)
  generalize codU 16 x y = cc at *
  generalize okC 16 x y = ob at *
  have hA : Below w.heap.size w (w.alloc (.cells #[.int .i64 x, .int .i64 y] 29)) := (Below.refl _ _).alloc (Nat.le_refl _) _
  go_enter Try.func32, Try.ntmps32
  go_wp2_with fail
  refine (HCD.out _).mono ?_
  rintro e w2 ⟨rfl, hb2⟩
  have HB2 := Lib.hid (below_trans hA hb2)
  clear hA hb2
  go_wp2
  go_ret
  exact ⟨rfl, HB2.out⟩
set_option maxRecDepth 100000 in
set_option maxHeartbeats 8000000 in
theorem rput_any (A : Option Addr) (n c : Nat) (S : List Pn) (x : Pn) (w : World) (h : Rd w A n c S) (hn : n ≤ 1000000) :
    Calls Try.prog 12 #[.slice A n c, .agg #[.int .i64 x.1, .int .i64 x.2]] w fun e w' => PutPost (ins x S) w e w' := by
  have hSl := Lib.hid h.1
  have HH := Lib.hid h; clear h
  go_enter Try.func12, Try.ntmps12
  go_wp2
  have hst : PutSt w x (.slice none 0 0) (acc x S 0) (w.alloc (.cells #[.int .i64 x.1, .int .i64 x.2] 29)) :=
    ⟨by simp [acc]; exact QOwn.nil_ _, (Below.refl _ _).alloc (Nat.le_refl _) _, Blk.new _ _ _, fun i hi => by simp [Value.ownBlock] at hi⟩
  generalize (w.alloc (.cells #[.int .i64 x.1, .int .i64 x.2] 29)) = W0 at hst ⊢
  have HST := Lib.hid hst; clear hst
  go_loopw [5, 6, 7] (fun v d i wr => ∃ (k : Nat) (b : Bool) (v0 : Value), k ≤ n ∧ i = .int .i64 k ∧ d = .bool b ∧ v = v0 ∧ Hid ((S.take k).any (ltE x) = b ∧ PutSt w x v0 (acc x S k) wr)) (fun _ _ i _ => n - (intOf i).toNat)
  case atStart => exact ⟨0, false, _, Nat.zero_le _, rfl, rfl, rfl, Lib.hid ⟨by simp, HST.out⟩⟩
  case round =>
    clear HST
    obtain ⟨k, b, v0, hk, rfl, rfl, rfl, hrel⟩ := hrel
    obtain ⟨hany, hst⟩ := hrel.out
    clear hrel
    obtain ⟨A0, c0, rfl, hc1, hc2⟩ := hst.1.slice
    have hal := acc_len x S k
    have HANY := Lib.hid hany; have HS := Lib.hid hst
    have x0 := hst.2.2.1.cell 0
    have x1 := hst.2.2.1.cell 1
    simp only [List.getElem?_toArray, List.getElem?_cons_zero, List.getElem?_cons_succ] at x0 x1
    have HBW := Lib.hid hst.2.1
    clear hany hst
    by_cases hlt : k < n
    · have hki : (k : Int) < (n : Int) := by omega
      obtain ⟨g, off, rfl, b0, b1⟩ := HH.out.cell hlt
      have a0 := cell_later HBW.out b0
      have a1 := cell_later HBW.out b1
      have hkS : k < S.length := by rw [hSl.out]; exact hlt
      have HD := Lib.hid (acc_done (x := x) hkS)
      have HN := Lib.hid (acc_now (x := x) hkS)
      have HT := Lib.hid (acc_not (x := x) hkS)
      generalize at_ S k = y at *
      generalize hacc : acc x S k = L0 at *
      clear hacc hkS
      cases b with
      | true =>
        have HACC := Lib.hid (HD.out HANY.out)
        have HQ := Lib.hid (fun q => HS.out.below (below_drawn (Below.refl _ _) q : Below wr.heap.size wr (wr.drewN q)))
        go_wp2_with fail
        go_quiet (fail)
        go_wp2_with (at_builtin; refine wpList_push rfl (.tmp 30) (.tmp 35) _ rfl Try.underlying27 (.slice A0 L0.length c0) L0 y _ 1 rfl rfl (by first | exact (HQ.out _).1.alloc _ | exact ((HQ.out _).1.drew).alloc _) (by first | exact new_cell _ _ _ 0 rfl | exact new_cell_d _ _ _ 0 rfl) (by first | exact new_cell _ _ _ 1 rfl | exact new_cell_d _ _ _ 1 rfl) (by first | omega | (simp; omega)) ?_; rintro pv pw pa; have ph := PutSt.append (HQ.out _) ((Below.refl _ _).alloc (Nat.le_refl _) _) pa; obtain ⟨pg, pc, rfl, _, _, _⟩ := pa; simp only [List.length_append, List.length_cons, List.length_nil, Nat.zero_add] at ph; have Hp := Lib.hid ph; clear ph)
        go_roundw
        case rel => exact ⟨k + 1, true, _, by omega, by go_num, rfl, rfl, Lib.hid ⟨HACC.out.1, by rw [HACC.out.2]; exact Hp.out⟩⟩
        case measure => simp [intOf]; omega
      | false =>
        by_cases hl : LtE x y
        · have HACC := Lib.hid (HN.out HANY.out hl)
          have hlc : cd x < cd y := hl
          rw [cd, cd] at hlc
          clear hl
          go_wp2_with fail
          go_region_held3 (fun w' => w'.cell? ⟨w.heap.size, 0, none⟩ = some (.int .i64 x.1) ∧ w'.cell? ⟨w.heap.size, 1, none⟩ = some (.int .i64 x.2) ∧ w'.cell? ⟨g, off + k * 2, none⟩ = some (.int .i64 y.1) ∧ w'.cell? ⟨g, off + k * 2 + 1, none⟩ = some (.int .i64 y.2)) (first | (refine ⟨?_, ?_, ?_, ?_⟩ <;> first | (exact cell_later (by assumption) (by assumption))) | (go_split_ands; refine ⟨?_, ?_, ?_, ?_⟩ <;> first | (exact cell_later (by assumption) (by assumption)) | go_keep))
            ((go_at_call 32; refine (rcode16_any _ _ _).mono ?_; rintro e w9 ⟨rfl, hb9⟩; first | (have HQ := Lib.hid (HQA.out.below (by first | exact hb9 | exact below_of_drew hb9))) | (have HQA := Lib.hid (HS.out.below (by first | exact hb9 | exact below_of_drew hb9)))))
          all_goals
            go_split_ands
            go_wp2_with (first
              | (at_builtin; refine wpList_push rfl (.tmp 26) (.tmp 28) _ rfl Try.underlying27 (.slice A0 L0.length c0) L0 x _ 1 rfl rfl (by first | exact HQ.out.1.alloc _ | exact (HQ.out.1.drew).alloc _) (by first | exact new_cell _ _ _ 0 rfl | exact new_cell_d _ _ _ 0 rfl) (by first | exact new_cell _ _ _ 1 rfl | exact new_cell_d _ _ _ 1 rfl) (by first | omega | (simp; omega)) ?_; rintro pv pw pa; have ph := PutSt.append HQ.out ((Below.refl _ _).alloc (Nat.le_refl _) _) pa; obtain ⟨pg, pc, rfl, _, _, _⟩ := pa; simp only [List.length_append, List.length_cons, List.length_nil, Nat.zero_add] at ph; have Hp := Lib.hid ph; clear ph; have d0 := cell_later Hp.out.2.1 b0; have d1 := cell_later Hp.out.2.1 b1)
              | (at_builtin; refine wpList_push rfl (.tmp 30) (.tmp 35) _ rfl Try.underlying27 (.slice (some ⟨pg, 0, none⟩) (L0.length + 1) pc) (L0 ++ [x]) y _ 1 rfl rfl (by first | exact Hp.out.1.alloc _ | exact (Hp.out.1.drew).alloc _) (by first | exact new_cell _ _ _ 0 rfl | exact new_cell_d _ _ _ 0 rfl) (by first | exact new_cell _ _ _ 1 rfl | exact new_cell_d _ _ _ 1 rfl) (by first | omega | (simp; omega)) ?_; rintro rv rw ra; have rh := PutSt.append Hp.out ((Below.refl _ _).alloc (Nat.le_refl _) _) ra; obtain ⟨rg, rc, rfl, _, _, _⟩ := ra; simp only [List.length_append, List.length_cons, List.length_nil, Nat.zero_add] at rh; have Hr := Lib.hid rh; clear rh))
            go_roundw
            case rel => exact ⟨k + 1, true, _, by omega, by go_num, rfl, rfl, Lib.hid ⟨HACC.out.1, by rw [HACC.out.2]; exact Hr.out⟩⟩
            case measure => simp [intOf]; omega
        · have HACC := Lib.hid (HT.out HANY.out hl)
          have hlc : ¬ cd x < cd y := hl
          rw [cd, cd] at hlc
          clear hl
          go_wp2_with fail
          go_region_held3 (fun w' => w'.cell? ⟨w.heap.size, 0, none⟩ = some (.int .i64 x.1) ∧ w'.cell? ⟨w.heap.size, 1, none⟩ = some (.int .i64 x.2) ∧ w'.cell? ⟨g, off + k * 2, none⟩ = some (.int .i64 y.1) ∧ w'.cell? ⟨g, off + k * 2 + 1, none⟩ = some (.int .i64 y.2)) (first | (refine ⟨?_, ?_, ?_, ?_⟩ <;> first | (exact cell_later (by assumption) (by assumption))) | (go_split_ands; refine ⟨?_, ?_, ?_, ?_⟩ <;> first | (exact cell_later (by assumption) (by assumption)) | go_keep))
            ((go_at_call 32; refine (rcode16_any _ _ _).mono ?_; rintro e w9 ⟨rfl, hb9⟩; first | (have HQ := Lib.hid (HQA.out.below (by first | exact hb9 | exact below_of_drew hb9))) | (have HQA := Lib.hid (HS.out.below (by first | exact hb9 | exact below_of_drew hb9)))))
          all_goals
            go_split_ands
            go_wp2_with (at_builtin; refine wpList_push rfl (.tmp 30) (.tmp 35) _ rfl Try.underlying27 (.slice A0 L0.length c0) L0 y _ 1 rfl rfl (by first | exact HQ.out.1.alloc _ | exact (HQ.out.1.drew).alloc _) (by first | exact new_cell _ _ _ 0 rfl | exact new_cell_d _ _ _ 0 rfl) (by first | exact new_cell _ _ _ 1 rfl | exact new_cell_d _ _ _ 1 rfl) (by first | omega | (simp; omega)) ?_; rintro pv pw pa; have ph := PutSt.append HQ.out ((Below.refl _ _).alloc (Nat.le_refl _) _) pa; obtain ⟨pg, pc, rfl, _, _, _⟩ := pa; simp only [List.length_append, List.length_cons, List.length_nil, Nat.zero_add] at ph; have Hp := Lib.hid ph; clear ph)
            go_roundw
            case rel => exact ⟨k + 1, false, _, by omega, by go_num, rfl, rfl, Lib.hid ⟨HACC.out.1, by rw [HACC.out.2]; exact Hp.out⟩⟩
            case measure => simp [intOf]; omega
    · obtain rfl : k = n := by omega
      have hkS : S.take k = S := List.take_of_length_le (by rw [hSl.out]; exact Nat.le_refl _)
      have HKS := Lib.hid hkS; clear hkS
      cases b with
      | true =>
        have HF := Lib.hid (show PutPost (ins x S) w (.returned (.slice A0 (acc x S k).length c0)) wr from by
          have e : acc x S k = ins x S := by
            have := HANY.out
            unfold acc
            rw [if_pos this, HKS.out]
          have h9 := HS.out
          rw [e] at h9 ⊢
          exact ⟨A0, c0, rfl, h9.1, h9.2.1, fun i hi => Nat.le_of_lt (h9.2.2.2 i (own_map.2 hi))⟩)
        generalize acc x S k = L0 at *
        go_wp2
        go_ret
        exact HF.out
      | false =>
        have HACC := Lib.hid (show acc x S k ++ [x] = ins x S from by
          have := HANY.out
          rw [HKS.out] at this
          unfold acc
          rw [HKS.out, if_neg (by simp [this]), ins_not x S this])
        generalize acc x S k = L0 at *
        go_wp2_with (at_builtin; refine wpList_push rfl (.tmp 39) (.tmp 41) _ rfl Try.underlying27 (.slice A0 L0.length c0) L0 x _ 1 rfl rfl (by first | exact HS.out.1.alloc _ | exact (HS.out.1.drew).alloc _) (by first | exact new_cell _ _ _ 0 rfl | exact new_cell_d _ _ _ 0 rfl) (by first | exact new_cell _ _ _ 1 rfl | exact new_cell_d _ _ _ 1 rfl) (by first | omega | (simp; omega)) ?_; rintro pv pw pa; have ph := PutSt.append HS.out ((Below.refl _ _).alloc (Nat.le_refl _) _) pa; obtain ⟨pg, pc, rfl, _, _, _⟩ := pa; simp only [List.length_append, List.length_cons, List.length_nil, Nat.zero_add] at ph; have Hp := Lib.hid ph; clear ph)
        go_ret
        have h9 := Hp.out
        rw [HACC.out] at h9
        have hF : PutPost (ins x S) w (.returned (.slice (some ⟨pg, 0, none⟩) (L0.length + 1) pc)) pw := by
          have e : L0.length + 1 = (ins x S).length := by rw [← HACC.out]; simp
          rw [e] at h9 ⊢
          exact ⟨_, pc, rfl, h9.1, h9.2.1, fun i hi => Nat.le_of_lt (h9.2.2.2 i (own_map.2 hi))⟩
        exact hF
end Go.Proofs.Ytdbiaijpbkmfhaa
