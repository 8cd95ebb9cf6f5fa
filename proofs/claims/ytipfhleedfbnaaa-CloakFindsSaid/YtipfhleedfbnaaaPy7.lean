/- pyramid: New, Add, Remove, Move, Total, Cells by contract. -/
import Derived.Test.YtipfhleedfbnaaaPy6
import Derived.Test.YtipfhleedfbnaaaGeomRef
namespace Go.Proofs.Ytipfhleedfbnaaa
set_option linter.unusedVariables false
set_option linter.unusedSimpArgs false
open Go.RowKit
theorem none17 (l m : Nat) : (#[Value.map none, Value.map none, Value.map none, Value.map none, Value.map none, Value.map none, Value.map none, Value.map none, Value.map none, Value.map none, Value.map none, Value.map none, Value.map none, Value.map none, Value.map none, Value.map none, Value.map none])[l]? ≠ some (Value.map (some m)) := by
  match l with
  | 0 | 1 | 2 | 3 | 4 | 5 | 6 | 7 | 8 | 9 | 10 | 11 | 12 | 13 | 14 | 15 | 16 => intro e; simp at e
  | n + 17 => intro e; simp at e
def NewP (w : World) (e : Ending) (w' : World) : Prop :=
  ∃ y cs, e = .returned (.pointer (some ⟨y, 0, none⟩)) ∧ PyR w' y cs (fun _ => []) 0 ∧ Below w.heap.size w w' ∧ ∀ i, i < w.heap.size → Out y cs i
set_option maxRecDepth 100000 in
set_option maxHeartbeats 2000000 in
theorem new_any (w : World) : Calls Try.prog 10 #[] w fun e w' => NewP w e w' := by
  go_enter Try.func10, Try.ntmps10
  go_wp2
  go_ret
  refine ⟨w.heap.size, #[Value.map none, Value.map none, Value.map none, Value.map none, Value.map none, Value.map none, Value.map none, Value.map none, Value.map none, Value.map none, Value.map none, Value.map none, Value.map none, Value.map none, Value.map none, Value.map none, Value.map none], rfl, ?_, ?_, ?_⟩
  · refine { hq := Blk.new _ _ _, hs := rfl, hl := fun l hl => ⟨Value.map none, ?_, .inl ⟨rfl, rfl⟩⟩, sep := fun l l' m h1 h2 => ?_ }
    · match l, hl with
      | 0, _ | 1, _ | 2, _ | 3, _ | 4, _ | 5, _ | 6, _ | 7, _ | 8, _ | 9, _ | 10, _ | 11, _ | 12, _ | 13, _ | 14, _ | 15, _ | 16, _ => rfl
      | n + 17, h => omega
    · exact absurd h1 (none17 l m)
  · exact (Below.refl _ _).alloc (Nat.le_refl _) _
  · exact fun i hi => ⟨by omega, fun l => none17 l i⟩
def cellsN (S : List Pn) : Nat → Nat
  | 0 => 0
  | k + 1 => cellsN S k + levN S (k : Int)
theorem nd_le (l : List Int) : nd l ≤ l.length := by
  induction l with
  | nil => exact Nat.le_refl _
  | cons a r ih => simp only [nd, List.length_cons]; split <;> omega
theorem levN_le (S : List Pn) (L : Int) : levN S L ≤ S.length := by
  unfold levN
  split
  · have := nd_le (S.map (codeAt L.toNat)); simpa using this
  · omega
theorem cellsN_le (S : List Pn) (k : Nat) : cellsN S k ≤ k * S.length := by
  induction k with
  | zero => simp [cellsN]
  | succ k ih => have := levN_le S (k : Int); rw [cellsN, Nat.succ_mul]; omega
theorem PyR.more {w : World} {y : Nat} {cs : Array Value} {P : Nat → List Pn} {B C : Nat} (h : PyR w y cs P B) (hB : B ≤ C) : PyR w y cs P C :=
  { h with
    hl := fun l hl => by
      obtain ⟨v, hv, hL⟩ := h.hl l hl
      exact ⟨v, hv, hL.more hB⟩ }
/-- What Add, Remove, Move leave. -/
def ActP (y : Nat) (cs : Array Value) (T : List Pn) (B : Nat) (w : World) (b : Bool) (e : Ending) (w' : World) : Prop :=
  e = .returned (.bool b) ∧ ∃ cs', PyR w' y cs' (fun _ => T) B ∧ Kp y cs w cs' w'
def addS (S : List Pn) (p : Pn) : List Pn := if fitsB p.1 p.2 = true then p :: S else S
set_option maxRecDepth 100000 in
set_option maxHeartbeats 2000000 in
theorem add_any (y : Nat) (cs : Array Value) (S : List Pn) (B : Nat) (p : Pn) (w : World) (h : PyR w y cs (fun _ => S) B) (hB : B ≤ 900000) (hS : S.length ≤ 1000000) :
    Calls Try.prog 11 #[.pointer (some ⟨y, 0, none⟩), .agg #[.int .i64 p.1, .int .i64 p.2]] w fun e w' => ActP y cs (addS S p) (B + 17) w (fitsB p.1 p.2) e w' := by
  have HPY := Lib.hid h; clear h
  have HF := Lib.hid (fits_any p.1 p.2)
  cases hf : fitsB p.1 p.2 with
  | false =>
    rw [hf] at HF
    have hs : addS S p = S := by rw [addS, if_neg (by simp [hf])]
    rw [hs]
    have hA : Below w.heap.size w ((w.alloc (.cells #[.pointer (some ⟨y, 0, none⟩)] 28)).alloc (.cells #[.int .i64 p.1, .int .i64 p.2] 24)) := ((Below.refl _ _).alloc (Nat.le_refl _) _).alloc (by simp) _
    go_enter Try.func11, Try.ntmps11
    go_wp2_with fail
    refine (HF.out _).mono ?_
    rintro e w2 ⟨rfl, hb2⟩
    have HB2 := Lib.hid (below_trans hA hb2)
    clear hA hb2
    go_wp2
    go_ret
    exact ⟨rfl, cs, (HPY.out.below HB2.out).more (by omega), Kp.of_below HB2.out⟩
  | true =>
    rw [hf] at HF
    have hs : addS S p = p :: S := by rw [addS, if_pos hf]
    rw [hs]
    have HFF := Lib.hid hf; clear hf
    have hA : Below w.heap.size w ((w.alloc (.cells #[.pointer (some ⟨y, 0, none⟩)] 28)).alloc (.cells #[.int .i64 p.1, .int .i64 p.2] 24)) := ((Below.refl _ _).alloc (Nat.le_refl _) _).alloc (by simp) _
    have hbk := blk_two w 28 24 #[.pointer (some ⟨y, 0, none⟩)] #[.int .i64 p.1, .int .i64 p.2]
    go_enter Try.func11, Try.ntmps11
    go_wp2_with fail
    refine (HF.out _).mono ?_
    rintro e w2 ⟨rfl, hb2⟩
    have HB2 := Lib.hid (below_trans hA hb2)
    have HK := Lib.hid (And.intro (hbk.1.thru0 hb2) (hbk.2.thru0 hb2))
    have x0 := HK.out.2.cell 0
    have x1 := HK.out.2.cell 1
    simp only [List.getElem?_toArray, List.getElem?_cons_zero, List.getElem?_cons_succ] at x0 x1
    have HE := Lib.hid (each_add y w.heap.size cs S B p w2 (HPY.out.below HB2.out) hB HK.out.1 (HPY.out.out (Nat.le_refl _)) hS HFF.out)
    clear hA hb2 hbk
    go_wp2_with fail
    refine HE.out.mono ?_
    rintro e w3 ⟨rfl, hE⟩
    have HX := Lib.hid hE; clear hE
    go_wp2
    go_ret
    obtain ⟨c, h1, h2⟩ := HX.out
    exact ⟨rfl, c, h1, (Kp.of_below HB2.out).trans h2⟩
def FitS (S : List Pn) : Prop := ∀ q, q ∈ S → fitsB q.1 q.2 = true
theorem addS_fit {S : List Pn} (h : FitS S) (p : Pn) : FitS (addS S p) := by
  unfold addS
  split
  · intro q hq
    rcases List.mem_cons.1 hq with rfl | hq
    · assumption
    · exact h q hq
  · exact h
theorem code16 (p : Pn) (h : fitsB p.1 p.2 = true) : codeAt 16 p = codU 16 p.1 p.2 ∧ okC 16 p.1 p.2 = true := by
  have h1 := lev_ok p 16 (by omega) h
  have h2 := h1.1
  have e1 : a1 16 p.1 p.2 ((16 : Nat) : Int) = p.1 := by rw [a1, if_pos h2]; simp
  have e2 : a2 16 p.1 p.2 ((16 : Nat) : Int) = p.2 := by rw [a2, if_pos h2]; simp
  have h3 := h1.2.2
  rw [e1, e2] at h3
  exact ⟨by rw [codeAt, e1, e2]; rfl, h3⟩
theorem code16_inj {p q : Pn} (hp : fitsB p.1 p.2 = true) (hq : fitsB q.1 q.2 = true) (h : codeAt 16 p = codeAt 16 q) : p = q := by
  rw [(code16 p hp).1, (code16 q hq).1] at h
  have a := code_back _ _ _ (code16 p hp).2
  have b := code_back _ _ _ (code16 q hq).2
  rw [h] at a
  exact Prod.ext (a.2.2.1.symm.trans b.2.2.1) (a.2.2.2.symm.trans b.2.2.2)
theorem cnt16 {S : List Pn} (hS : FitS S) (p : Pn) : cntC S 16 p.1 p.2 ≠ 0 ↔ p ∈ S := by
  by_cases hf : fitsB p.1 p.2 = true
  · have h1 := code16 p hf
    rw [cntC, if_pos h1.2, ← h1.1, show (16 : Int).toNat = 16 from rfl, cnt_pos, List.mem_map]
    constructor
    · rintro ⟨q, hq, e⟩
      rw [← code16_inj (hS q hq) hf e]; exact hq
    · intro h; exact ⟨p, h, rfl⟩
  · have h1 : okC 16 p.1 p.2 = false := by
      rw [← Bool.not_eq_true]
      intro e
      apply hf
      have := (okC_iff _ _ _).1 e
      rw [fitsB_iff]
      simp at this
      omega
    rw [cntC, if_neg (by simp [h1])]
    constructor
    · intro h; exact absurd rfl h
    · intro h; exact absurd (hS p h) hf
/-- Move: what is there then, and whether. -/
def movB (S : List Pn) (p q : Pn) : Bool := fitsB q.1 q.2 && decide (p ∈ S)
def movS (S : List Pn) (p q : Pn) : List Pn := if movB S p q = true then q :: S.erase p else S
theorem erase_fit {S : List Pn} (h : FitS S) (p : Pn) : FitS (S.erase p) := fun q hq => h q (List.mem_of_mem_erase hq)
end Go.Proofs.Ytipfhleedfbnaaa
