/- pyramid: the document's Without, by contract. -/
import Derived.Test.YtdbiaijpbkmfhaaPyE
namespace Go.Proofs.Ytdbiaijpbkmfhaa
set_option linter.unusedVariables false
set_option linter.unusedSimpArgs false
open Go.RowKit
attribute [local go_sem] eq_pointV
theorem er_done {S : List Pn} {x : Pn} {k : Nat} (hk : k < S.length) (h : decide (x ∈ S.take k) = true) : decide (x ∈ S.take (k + 1)) = true ∧ (S.take (k + 1)).erase x = (S.take k).erase x ++ [at_ S k] := by
  have h1 : x ∈ S.take k := by simpa using h
  rw [take_more hk]
  exact ⟨by simp [h1], List.erase_append_left _ h1⟩
theorem er_now {S : List Pn} {x : Pn} {k : Nat} (hk : k < S.length) (h : decide (x ∈ S.take k) = false) (he : at_ S k = x) : decide (x ∈ S.take (k + 1)) = true ∧ (S.take (k + 1)).erase x = (S.take k).erase x := by
  have h1 : ¬ x ∈ S.take k := by simpa using h
  rw [take_more hk, he]
  refine ⟨by simp, ?_⟩
  rw [List.erase_append_right _ h1, List.erase_of_not_mem h1]
  simp
theorem er_not {S : List Pn} {x : Pn} {k : Nat} (hk : k < S.length) (h : decide (x ∈ S.take k) = false) (he : at_ S k ≠ x) : decide (x ∈ S.take (k + 1)) = false ∧ (S.take (k + 1)).erase x = (S.take k).erase x ++ [at_ S k] := by
  have h1 : ¬ x ∈ S.take k := by simpa using h
  have h2 : ¬ x ∈ S.take k ++ [at_ S k] := by simp [h1]; exact fun e => he e.symm
  rw [take_more hk]
  exact ⟨decide_eq_false h2, by rw [List.erase_of_not_mem h2, List.erase_of_not_mem h1]⟩
def WoP (S : List Pn) (x : Pn) (w : World) (e : Ending) (w' : World) : Prop := ∃ A c, e = .returned (.tuple #[.slice A (S.erase x).length c, .bool (decide (x ∈ S))]) ∧ QOwn w' (.slice A (S.erase x).length c) (S.erase x) ∧ Below w.heap.size w w' ∧ ∀ i, A.map (·.block) = some i → w.heap.size ≤ i
set_option maxRecDepth 100000 in
set_option maxHeartbeats 8000000 in
theorem rwo_any (A : Option Addr) (n c : Nat) (S : List Pn) (x : Pn) (w : World) (h : Rd w A n c S) (hn : n ≤ 1000000) :
    Calls Try.prog 14 #[.slice A n c, .agg #[.int .i64 x.1, .int .i64 x.2]] w fun e w' => WoP S x w e w' := by
  have hSl := Lib.hid h.1
  have HH := Lib.hid h; clear h
  go_enter Try.func14, Try.ntmps14
  go_wp2
  have hst : PutSt w x (.slice none 0 0) ((S.take 0).erase x) (w.alloc (.cells #[.int .i64 x.1, .int .i64 x.2] 29)) :=
    ⟨by simp; exact QOwn.nil_ _, (Below.refl _ _).alloc (Nat.le_refl _) _, Blk.new _ _ _, fun i hi => by simp [Value.ownBlock] at hi⟩
  generalize (w.alloc (.cells #[.int .i64 x.1, .int .i64 x.2] 29)) = W0 at hst ⊢
  have HST := Lib.hid hst; clear hst
  go_loopw [6, 7, 8] (fun v d i wr => ∃ (k : Nat) (b : Bool) (v0 : Value), k ≤ n ∧ i = .int .i64 k ∧ d = .bool b ∧ v = v0 ∧ Hid (decide (x ∈ S.take k) = b ∧ PutSt w x v0 ((S.take k).erase x) wr)) (fun _ _ i _ => n - (intOf i).toNat)
  case atStart => exact ⟨0, false, _, Nat.zero_le _, rfl, rfl, rfl, Lib.hid ⟨by simp, HST.out⟩⟩
  case round =>
    clear HST
    obtain ⟨k, b, v0, hk, rfl, rfl, rfl, hrel⟩ := hrel
    obtain ⟨hany, hst⟩ := hrel.out
    clear hrel
    obtain ⟨A0, c0', rfl, hc1, hc2⟩ := hst.1.slice
    have hal : ((S.take k).erase x).length ≤ k := by
      have h1 := List.length_erase_le (a := x) (l := S.take k)
      rw [List.length_take] at h1; omega
    have HANY := Lib.hid hany; have HS := Lib.hid hst
    have x0 := hst.2.2.1.cell 0
    have x1 := hst.2.2.1.cell 1
    simp only [List.getElem?_toArray, List.getElem?_cons_zero, List.getElem?_cons_succ] at x0 x1
    have HBW := Lib.hid hst.2.1
    clear hany hst
    by_cases hlt : k < n
    · have hki : (k : Int) < (n : Int) := by omega
      obtain ⟨g, off, rfl, q0, q1⟩ := HH.out.cell hlt
      have a0 := cell_later HBW.out q0
      have a1 := cell_later HBW.out q1
      have hkS : k < S.length := by rw [hSl.out]; exact hlt
      have HD := Lib.hid (er_done (x := x) hkS)
      have HN := Lib.hid (er_now (x := x) hkS)
      have HT := Lib.hid (er_not (x := x) hkS)
      generalize at_ S k = y at *
      generalize hacc : (S.take k).erase x = L0 at *
      clear hacc hkS
      have HQ := Lib.hid (fun q => HS.out.below (below_drawn (Below.refl _ _) q : Below wr.heap.size wr (wr.drewN q)))
      cases b with
      | true =>
        have HACC := Lib.hid (HD.out HANY.out)
        go_wp2_with fail
        go_quiet (fail)
        go_wp2_with (at_builtin; refine wpList_push rfl (.tmp 25) (.tmp 30) _ rfl Try.underlying27 (.slice A0 L0.length c0') L0 y _ 1 rfl rfl (by first | exact (HQ.out _).1.alloc _ | exact ((HQ.out _).1.drew).alloc _) (by first | exact new_cell _ _ _ 0 rfl | exact new_cell_d _ _ _ 0 rfl) (by first | exact new_cell _ _ _ 1 rfl | exact new_cell_d _ _ _ 1 rfl) (by first | omega | (simp; omega)) ?_; rintro pv pw pa; have ph := PutSt.append (HQ.out _) ((Below.refl _ _).alloc (Nat.le_refl _) _) pa; obtain ⟨pg, pc, rfl, _, _, _⟩ := pa; simp only [List.length_append, List.length_cons, List.length_nil, Nat.zero_add] at ph; have Hp := Lib.hid ph; clear ph)
        go_roundw
        case rel => exact ⟨k + 1, true, _, by omega, by go_num, rfl, rfl, Lib.hid ⟨HACC.out.1, by rw [HACC.out.2]; exact Hp.out⟩⟩
        case measure => simp [intOf]; omega
      | false =>
        by_cases he : y = x
        · have HACC := Lib.hid (HN.out HANY.out he)
          subst he
          go_wp2_with fail
          go_quiet (fail)
          go_wp2_with fail
          go_roundw
          case rel => exact ⟨k + 1, true, _, by omega, by go_num, rfl, rfl, Lib.hid ⟨HACC.out.1, by rw [HACC.out.2]; exact HQ.out _⟩⟩
          case measure => simp [intOf]; omega
        · have HACC := Lib.hid (HT.out HANY.out he)
          have hbb : (y.1 == x.1 && y.2 == x.2) = false := by
            by_cases h1 : y.1 = x.1
            · by_cases h2 : y.2 = x.2
              · exact absurd (Prod.ext h1 h2) he
              · simp [h2]
            · simp [h1]
          generalize hb1 : (y.1 == x.1) = e1 at *
          generalize hb2 : (y.2 == x.2) = e2 at *
          clear he HN HD HT
          cases e1 <;> cases e2
          all_goals first
            | (exfalso; simp at hbb; done)
            | (clear hbb
               go_wp2_with fail
               go_quiet (fail)
               go_wp2_with (at_builtin; refine wpList_push rfl (.tmp 25) (.tmp 30) _ rfl Try.underlying27 (.slice A0 L0.length c0') L0 y _ 1 rfl rfl (by first | exact (HQ.out _).1.alloc _ | exact ((HQ.out _).1.drew).alloc _) (by first | exact new_cell _ _ _ 0 rfl | exact new_cell_d _ _ _ 0 rfl) (by first | exact new_cell _ _ _ 1 rfl | exact new_cell_d _ _ _ 1 rfl) (by first | omega | (simp; omega)) ?_; rintro pv pw pa; have ph := PutSt.append (HQ.out _) ((Below.refl _ _).alloc (Nat.le_refl _) _) pa; obtain ⟨pg, pc, rfl, _, _, _⟩ := pa; simp only [List.length_append, List.length_cons, List.length_nil, Nat.zero_add] at ph; have Hp := Lib.hid ph; clear ph)
               go_roundw
               case rel => exact ⟨k + 1, false, _, by omega, by go_num, rfl, rfl, Lib.hid ⟨HACC.out.1, by rw [HACC.out.2]; exact Hp.out⟩⟩
               case measure => simp [intOf]; omega)
    · obtain rfl : k = n := by omega
      have hkS : S.take k = S := List.take_of_length_le (by rw [hSl.out]; exact Nat.le_refl _)
      have HF := Lib.hid (show WoP S x w (.returned (.tuple #[.slice A0 ((S.take k).erase x).length c0', .bool b])) wr from by
        have h1 := HANY.out
        have h9 := HS.out
        rw [hkS] at h1 h9 ⊢
        exact ⟨A0, c0', by rw [h1], h9.1, h9.2.1, fun i hi => Nat.le_of_lt (h9.2.2.2 i (own_map.2 hi))⟩)
      clear hkS
      generalize ((S.take k).erase x) = L0 at *
      go_wp2
      refine bodyPost_ret (v := .tuple #[.slice A0 L0.length c0', .bool b]) ?_ rfl HF.out
      simp [results, Try.results14, go_sem, *]
end Go.Proofs.Ytdbiaijpbkmfhaa
