/- pyramid: New, Add, Remove, Move, Total, Cells by contract. -/
import Derived.Test.YtdbiaijpbkmfhaaPy6
import Derived.Test.YtdbiaijpbkmfhaaGeomRef
namespace Go.Proofs.Ytdbiaijpbkmfhaa
set_option linter.unusedVariables false
set_option linter.unusedSimpArgs false
open Go.RowKit
theorem none17 (l m : Nat) : (#[Value.map none, Value.map none, Value.map none, Value.map none, Value.map none, Value.map none, Value.map none, Value.map none, Value.map none, Value.map none, Value.map none, Value.map none, Value.map none, Value.map none, Value.map none, Value.map none, Value.map none])[l]? ≠ some (Value.map (some m)) := by
  match l with
  | 0 | 1 | 2 | 3 | 4 | 5 | 6 | 7 | 8 | 9 | 10 | 11 | 12 | 13 | 14 | 15 | 16 => intro e; simp at e
  | n + 17 => intro e; simp at e
def NewP (w : World) (e : Ending) (w' : World) : Prop :=
  ∃ y cs, e = .returned (.pointer (some ⟨y, 0, none⟩)) ∧ PyR w' y cs (fun _ => []) 0 ∧ Below w.heap.size w w' ∧ ∀ i, i < w.heap.size → Out y cs i
set_option maxRecDepth 100000 in
set_option maxHeartbeats 2000000 in
theorem new_any (w : World) : Calls Try.prog 9 #[] w fun e w' => NewP w e w' := by
  go_enter Try.func9, Try.ntmps9
  go_wp2
  go_ret
  refine ⟨w.heap.size, #[Value.map none, Value.map none, Value.map none, Value.map none, Value.map none, Value.map none, Value.map none, Value.map none, Value.map none, Value.map none, Value.map none, Value.map none, Value.map none, Value.map none, Value.map none, Value.map none, Value.map none], rfl, ?_, ?_, ?_⟩
  · refine { hq := Blk.new _ _ _, hs := rfl, hl := fun l hl => ⟨Value.map none, ?_, .inl ⟨rfl, rfl⟩⟩, sep := fun l l' m h1 h2 => ?_ }
    · match l, hl with
      | 0, _ | 1, _ | 2, _ | 3, _ | 4, _ | 5, _ | 6, _ | 7, _ | 8, _ | 9, _ | 10, _ | 11, _ | 12, _ | 13, _ | 14, _ | 15, _ | 16, _ => rfl
      | n + 17, h => omega
    · exact absurd h1 (none17 l m)
  · exact (Below.refl _ _).alloc (Nat.le_refl _) _
  · exact fun i hi => ⟨by omega, fun l => none17 l i⟩
set_option maxHeartbeats 2000000 in
theorem total_any (y : Nat) (cs : Array Value) (S : List Pn) (B : Nat) (w : World) (h : PyR w y cs (fun _ => S) B) :
    Calls Try.prog 16 #[.pointer (some ⟨y, 0, none⟩)] w fun e w' => e = .returned (.int .i64 (cntC S 0 0 0 : Int)) ∧ Below w.heap.size w w' := by
  have HC := Lib.hid (count_any y cs S B 0 0 0 w h); clear h
  go_enter Try.func16, Try.ntmps16
  go_wp2_with fail
  refine HC.out.mono ?_
  rintro e w2 ⟨rfl, hb2⟩
  go_wp2
  go_ret
  exact ⟨rfl, hb2⟩
def cellsN (S : List Pn) : Nat → Nat
  | 0 => 0
  | k + 1 => cellsN S k + levN S (k : Int)
theorem nd_le (l : List Int) : nd l ≤ l.length := by
  induction l with
  | nil => exact Nat.le_refl _
  | cons a r ih => simp only [nd, List.length_cons]; split <;> omega
theorem levN_le (S : List Pn) (L : Int) : levN S L ≤ S.length := by
  unfold levN
  split
  · have := nd_le (S.map (codeAt L.toNat)); simpa using this
  · omega
theorem cellsN_le (S : List Pn) (k : Nat) : cellsN S k ≤ k * S.length := by
  induction k with
  | zero => simp [cellsN]
  | succ k ih => have := levN_le S (k : Int); rw [cellsN, Nat.succ_mul]; omega
set_option maxHeartbeats 2000000 in
theorem cells_any (y : Nat) (cs : Array Value) (S : List Pn) (B : Nat) (w : World) (h : PyR w y cs (fun _ => S) B) (hS : S.length ≤ 1000000) :
    Calls Try.prog 25 #[.pointer (some ⟨y, 0, none⟩)] w fun e w' => e = .returned (.int .i64 (cellsN S 17 : Int)) ∧ Below w.heap.size w w' := by
  have HPY := Lib.hid h; clear h
  go_enter Try.func25, Try.ntmps25
  go_wp2
  go_loopw [3, 5] (fun n i wr => ∃ (k : Nat), k ≤ 17 ∧ i = .int .i64 k ∧ n = .int .i64 (cellsN S k : Int) ∧ Hid (Below w.heap.size w wr)) (fun _ i _ => 17 - (intOf i).toNat)
  case atStart => exact ⟨0, by omega, rfl, rfl, Lib.hid (Below.refl _ _)⟩
  case round =>
    obtain ⟨k, hk, rfl, rfl, hrel⟩ := hrel
    have HLE := Lib.hid (cellsN_le S k)
    by_cases hlt : k < 17
    · have hki : (k : Int) < 17 := by omega
      have HLV := Lib.hid (level_any y cs S B (k : Int))
      have HX := Lib.hid (show cellsN S (k + 1) = cellsN S k + levN S (k : Int) from rfl)
      have hll := levN_le S (k : Int)
      generalize levN S (k : Int) = a at *
      generalize cellsN S k = b at *
      have hmul := HLE.out
      have hm2 : k * S.length ≤ 17 * S.length := Nat.mul_le_mul_right _ (by omega)
      have hb : (b : Int) ≤ 17000000 := by omega
      have ha : (a : Int) ≤ 1000000 := by omega
      clear hmul hm2
      have hwr : IntKind.i64.wrap ((b : Int) + (a : Int)) = (b : Int) + (a : Int) := by rw [IntKind.wrap_i64]; omega
      go_wp2_with fail
      refine (HLV.out _ (HPY.out.below hrel.out)).mono ?_
      rintro e w2 ⟨rfl, hb2⟩
      have HB := Lib.hid (below_trans hrel.out hb2)
      clear hb2
      go_wp2
      go_roundw
      case rel => exact ⟨k + 1, by omega, by go_num, by rw [HX.out]; simp, HB⟩
      case measure => simp [intOf]; omega
    · obtain rfl : k = 17 := by omega
      go_wp2
      go_ret
      exact ⟨rfl, hrel.out⟩
theorem PyR.more {w : World} {y : Nat} {cs : Array Value} {P : Nat → List Pn} {B C : Nat} (h : PyR w y cs P B) (hB : B ≤ C) : PyR w y cs P C :=
  { h with
    hl := fun l hl => by
      obtain ⟨v, hv, hL⟩ := h.hl l hl
      exact ⟨v, hv, hL.more hB⟩ }
/-- What Add, Remove, Move leave. -/
def ActP (y : Nat) (cs : Array Value) (T : List Pn) (B : Nat) (w : World) (b : Bool) (e : Ending) (w' : World) : Prop :=
  e = .returned (.bool b) ∧ ∃ cs', PyR w' y cs' (fun _ => T) B ∧ Kp y cs w cs' w'
def addS (S : List Pn) (p : Pn) : List Pn := if fitsB p.1 p.2 = true then p :: S else S
set_option maxRecDepth 100000 in
set_option maxHeartbeats 2000000 in
theorem add_any (y : Nat) (cs : Array Value) (S : List Pn) (B : Nat) (p : Pn) (w : World) (h : PyR w y cs (fun _ => S) B) (hB : B ≤ 900000) (hS : S.length ≤ 1000000) :
    Calls Try.prog 10 #[.pointer (some ⟨y, 0, none⟩), .agg #[.int .i64 p.1, .int .i64 p.2]] w fun e w' => ActP y cs (addS S p) (B + 17) w (fitsB p.1 p.2) e w' := by
  have HPY := Lib.hid h; clear h
  have HF := Lib.hid (fits_any p.1 p.2)
  cases hf : fitsB p.1 p.2 with
  | false =>
    rw [hf] at HF
    have hs : addS S p = S := by rw [addS, if_neg (by simp [hf])]
    rw [hs]
    have hA : Below w.heap.size w ((w.alloc (.cells #[.pointer (some ⟨y, 0, none⟩)] 25)).alloc (.cells #[.int .i64 p.1, .int .i64 p.2] 29)) := ((Below.refl _ _).alloc (Nat.le_refl _) _).alloc (by simp) _
    go_enter Try.func10, Try.ntmps10
    go_wp2_with fail
    refine (HF.out _).mono ?_
    rintro e w2 ⟨rfl, hb2⟩
    have HB2 := Lib.hid (below_trans hA hb2)
    clear hA hb2
    go_wp2
    go_ret
    exact ⟨rfl, cs, (HPY.out.below HB2.out).more (by omega), Kp.of_below HB2.out⟩
  | true =>
    rw [hf] at HF
    have hs : addS S p = p :: S := by rw [addS, if_pos hf]
    rw [hs]
    have HFF := Lib.hid hf; clear hf
    have hA : Below w.heap.size w ((w.alloc (.cells #[.pointer (some ⟨y, 0, none⟩)] 25)).alloc (.cells #[.int .i64 p.1, .int .i64 p.2] 29)) := ((Below.refl _ _).alloc (Nat.le_refl _) _).alloc (by simp) _
    have hbk := blk_two w 25 29 #[.pointer (some ⟨y, 0, none⟩)] #[.int .i64 p.1, .int .i64 p.2]
    go_enter Try.func10, Try.ntmps10
    go_wp2_with fail
    refine (HF.out _).mono ?_
    rintro e w2 ⟨rfl, hb2⟩
    have HB2 := Lib.hid (below_trans hA hb2)
    have HK := Lib.hid (And.intro (hbk.1.thru0 hb2) (hbk.2.thru0 hb2))
    have x0 := HK.out.2.cell 0
    have x1 := HK.out.2.cell 1
    simp only [List.getElem?_toArray, List.getElem?_cons_zero, List.getElem?_cons_succ] at x0 x1
    have HE := Lib.hid (each_add y w.heap.size cs S B p w2 (HPY.out.below HB2.out) hB HK.out.1 (HPY.out.out (Nat.le_refl _)) hS HFF.out)
    clear hA hb2 hbk
    go_wp2_with fail
    refine HE.out.mono ?_
    rintro e w3 ⟨rfl, hE⟩
    have HX := Lib.hid hE; clear hE
    go_wp2
    go_ret
    obtain ⟨c, h1, h2⟩ := HX.out
    exact ⟨rfl, c, h1, (Kp.of_below HB2.out).trans h2⟩
def FitS (S : List Pn) : Prop := ∀ q, q ∈ S → fitsB q.1 q.2 = true
theorem addS_fit {S : List Pn} (h : FitS S) (p : Pn) : FitS (addS S p) := by
  unfold addS
  split
  · intro q hq
    rcases List.mem_cons.1 hq with rfl | hq
    · assumption
    · exact h q hq
  · exact h
theorem code16 (p : Pn) (h : fitsB p.1 p.2 = true) : codeAt 16 p = codU 16 p.1 p.2 ∧ okC 16 p.1 p.2 = true := by
  have h1 := lev_ok p 16 (by omega) h
  have h2 := h1.1
  have e1 : a1 16 p.1 p.2 ((16 : Nat) : Int) = p.1 := by rw [a1, if_pos h2]; simp
  have e2 : a2 16 p.1 p.2 ((16 : Nat) : Int) = p.2 := by rw [a2, if_pos h2]; simp
  have h3 := h1.2.2
  rw [e1, e2] at h3
  exact ⟨by rw [codeAt, e1, e2]; rfl, h3⟩
theorem code16_inj {p q : Pn} (hp : fitsB p.1 p.2 = true) (hq : fitsB q.1 q.2 = true) (h : codeAt 16 p = codeAt 16 q) : p = q := by
  rw [(code16 p hp).1, (code16 q hq).1] at h
  have a := code_back _ _ _ (code16 p hp).2
  have b := code_back _ _ _ (code16 q hq).2
  rw [h] at a
  exact Prod.ext (a.2.2.1.symm.trans b.2.2.1) (a.2.2.2.symm.trans b.2.2.2)
theorem cnt16 {S : List Pn} (hS : FitS S) (p : Pn) : cntC S 16 p.1 p.2 ≠ 0 ↔ p ∈ S := by
  by_cases hf : fitsB p.1 p.2 = true
  · have h1 := code16 p hf
    rw [cntC, if_pos h1.2, ← h1.1, show (16 : Int).toNat = 16 from rfl, cnt_pos, List.mem_map]
    constructor
    · rintro ⟨q, hq, e⟩
      rw [← code16_inj (hS q hq) hf e]; exact hq
    · intro h; exact ⟨p, h, rfl⟩
  · have h1 : okC 16 p.1 p.2 = false := by
      rw [← Bool.not_eq_true]
      intro e
      apply hf
      have := (okC_iff _ _ _).1 e
      rw [fitsB_iff]
      simp at this
      omega
    rw [cntC, if_neg (by simp [h1])]
    constructor
    · intro h; exact absurd rfl h
    · intro h; exact absurd (hS p h) hf
set_option maxRecDepth 100000 in
set_option maxHeartbeats 2000000 in
theorem rem_any (y : Nat) (cs : Array Value) (S : List Pn) (B : Nat) (p : Pn) (w : World) (h : PyR w y cs (fun _ => S) B) (hB : B ≤ 900000) (hS : S.length ≤ 1000000) (hfit : FitS S) :
    Calls Try.prog 13 #[.pointer (some ⟨y, 0, none⟩), .agg #[.int .i64 p.1, .int .i64 p.2]] w fun e w' => ActP y cs (S.erase p) (B + 17) w (decide (p ∈ S)) e w' := by
  have HPY := Lib.hid h; clear h
  have HC := Lib.hid (fun w2 hb => count_any y cs S B 16 p.1 p.2 w2 (HPY.out.below hb))
  have hcn := cnt16 hfit p
  have hA : Below w.heap.size w ((w.alloc (.cells #[.pointer (some ⟨y, 0, none⟩)] 25)).alloc (.cells #[.int .i64 p.1, .int .i64 p.2] 29)) := ((Below.refl _ _).alloc (Nat.le_refl _) _).alloc (by simp) _
  have hbk := blk_two w 25 29 #[.pointer (some ⟨y, 0, none⟩)] #[.int .i64 p.1, .int .i64 p.2]
  have HA := Lib.hid hA; have HBK := Lib.hid hbk; clear hA hbk
  by_cases hm : p ∈ S
  · rw [decide_eq_true hm]
    have hc0 : ((cntC S 16 p.1 p.2 : Int) == 0) = false := by have := hcn.2 hm; simpa using this
    have HM := Lib.hid hm
    have HFF := Lib.hid (hfit p hm)
    generalize cntC S 16 p.1 p.2 = n at *
    clear hcn hm
    go_enter Try.func13, Try.ntmps13
    go_wp2_with fail
    refine (HC.out _ HA.out).mono ?_
    rintro e w2 ⟨rfl, hb2⟩
    have HB2 := Lib.hid (below_trans HA.out hb2)
    have HK := Lib.hid (And.intro (HBK.out.1.thru0 hb2) (HBK.out.2.thru0 hb2))
    have x0 := HK.out.2.cell 0
    have x1 := HK.out.2.cell 1
    simp only [List.getElem?_toArray, List.getElem?_cons_zero, List.getElem?_cons_succ] at x0 x1
    have HE := Lib.hid (each_rem y w.heap.size cs S (S.erase p) B p w2 (HPY.out.below HB2.out) hB HK.out.1 (HPY.out.out (Nat.le_refl _)) hS (List.perm_cons_erase HM.out) HFF.out)
    clear hb2
    go_wp2_with fail
    refine HE.out.mono ?_
    rintro e w3 ⟨rfl, hE⟩
    have HX := Lib.hid hE; clear hE
    go_wp2
    go_ret
    obtain ⟨c, h1, h2⟩ := HX.out
    exact ⟨rfl, c, h1, (Kp.of_below HB2.out).trans h2⟩
  · rw [decide_eq_false hm, List.erase_of_not_mem hm]
    have hc0 : cntC S 16 p.1 p.2 = 0 := by
      by_cases h : cntC S 16 p.1 p.2 = 0
      · exact h
      · exact absurd (hcn.1 h) hm
    rw [hc0] at HC
    clear hcn hm hc0
    go_enter Try.func13, Try.ntmps13
    go_wp2_with fail
    refine (HC.out _ HA.out).mono ?_
    rintro e w2 ⟨rfl, hb2⟩
    have HB2 := Lib.hid (below_trans HA.out hb2)
    clear hb2
    go_wp2
    go_ret
    exact ⟨rfl, cs, (HPY.out.below HB2.out).more (by omega), Kp.of_below HB2.out⟩
/-- Move: what is there then, and whether. -/
def movB (S : List Pn) (p q : Pn) : Bool := fitsB q.1 q.2 && decide (p ∈ S)
def movS (S : List Pn) (p q : Pn) : List Pn := if movB S p q = true then q :: S.erase p else S
theorem erase_fit {S : List Pn} (h : FitS S) (p : Pn) : FitS (S.erase p) := fun q hq => h q (List.mem_of_mem_erase hq)
set_option maxRecDepth 100000 in
set_option maxHeartbeats 2000000 in
theorem mov_any (y : Nat) (cs : Array Value) (S : List Pn) (B : Nat) (p q : Pn) (w : World) (h : PyR w y cs (fun _ => S) B) (hB : B ≤ 800000) (hS : S.length ≤ 1000000) (hfit : FitS S) :
    Calls Try.prog 15 #[.pointer (some ⟨y, 0, none⟩), .agg #[.int .i64 p.1, .int .i64 p.2], .agg #[.int .i64 q.1, .int .i64 q.2]] w fun e w' => ActP y cs (movS S p q) (B + 34) w (movB S p q) e w' := by
  have HPY := Lib.hid h; clear h
  have HF := Lib.hid (fits_any q.1 q.2)
  have hA : Below w.heap.size w ((w.alloc (.cells #[.int .i64 p.1, .int .i64 p.2] 29)).alloc (.cells #[.int .i64 q.1, .int .i64 q.2] 29)) := ((Below.refl _ _).alloc (Nat.le_refl _) _).alloc (by simp) _
  have hbk := blk_two w 29 29 #[.int .i64 p.1, .int .i64 p.2] #[.int .i64 q.1, .int .i64 q.2]
  have HA := Lib.hid hA; have HBK := Lib.hid hbk; clear hA hbk
  cases hf : fitsB q.1 q.2 with
  | false =>
    have hb : movB S p q = false := by simp [movB, hf]
    rw [hb, show movS S p q = S by rw [movS, if_neg (by simp [hb])]]
    rw [hf] at HF
    clear hf hb
    go_enter Try.func15, Try.ntmps15
    go_wp2_with fail
    refine (HF.out _).mono ?_
    rintro e w2 ⟨rfl, hb2⟩
    have HB2 := Lib.hid (below_trans HA.out hb2)
    clear hb2
    go_wp2
    go_ret
    exact ⟨rfl, cs, (HPY.out.below HB2.out).more (by omega), Kp.of_below HB2.out⟩
  | true =>
    have HFF := Lib.hid hf
    have hb0 : movB S p q = decide (p ∈ S) := by simp [movB, hf]
    have hadd := addS (S.erase p) q
    have hAS : addS (S.erase p) q = q :: S.erase p := by rw [addS, if_pos hf]
    rw [hf] at HF
    clear hf hadd
    have HR := Lib.hid (fun w2 hb => rem_any y cs S B p w2 (HPY.out.below hb) (by omega) hS hfit)
    by_cases hm : p ∈ S
    · rw [decide_eq_true hm] at hb0 HR
      rw [hb0, show movS S p q = q :: S.erase p by rw [movS, if_pos hb0]]
      have hlen : (S.erase p).length ≤ 1000000 := by have := List.length_erase_le (a := p) (l := S); omega
      clear hb0 hm
      go_enter Try.func15, Try.ntmps15
      go_wp2_with fail
      refine (HF.out _).mono ?_
      rintro e w2 ⟨rfl, hb2⟩
      have HB2 := Lib.hid (below_trans HA.out hb2)
      have HK := Lib.hid (And.intro (HBK.out.1.thru0 hb2) (HBK.out.2.thru0 hb2))
      have x0 := HK.out.1.cell 0
      have x1 := HK.out.1.cell 1
      simp only [List.getElem?_toArray, List.getElem?_cons_zero, List.getElem?_cons_succ] at x0 x1
      have HR2 := Lib.hid (HR.out w2 HB2.out)
      clear hb2
      go_wp2_with fail
      refine HR2.out.mono ?_
      rintro e w3 ⟨rfl, c3, h3, k3⟩
      have HO := Lib.hid (k3.blk HK.out.2 (HPY.out.out (Nat.le_succ _)))
      have x0 := HO.out.cell 0
      have x1 := HO.out.cell 1
      simp only [List.getElem?_toArray, List.getElem?_cons_zero, List.getElem?_cons_succ] at x0 x1
      have HK3 := Lib.hid k3
      have HAD := Lib.hid (add_any y c3 (S.erase p) (B + 17) q w3 h3 (by omega) hlen)
      rw [HFF.out, hAS] at HAD
      clear h3 k3
      go_wp2_with fail
      refine HAD.out.mono ?_
      rintro e w4 ⟨rfl, hE⟩
      have HX := Lib.hid hE; clear hE
      go_wp2
      go_ret
      obtain ⟨c, h1, h2⟩ := HX.out
      exact ⟨rfl, c, h1, (Kp.of_below HB2.out).trans (HK3.out.trans h2)⟩
    · rw [decide_eq_false hm] at hb0 HR
      rw [hb0, show movS S p q = S by rw [movS, if_neg (by simp [hb0])]]
      rw [List.erase_of_not_mem hm] at HR
      clear hb0 hm hAS
      go_enter Try.func15, Try.ntmps15
      go_wp2_with fail
      refine (HF.out _).mono ?_
      rintro e w2 ⟨rfl, hb2⟩
      have HB2 := Lib.hid (below_trans HA.out hb2)
      have HK := Lib.hid (And.intro (HBK.out.1.thru0 hb2) (HBK.out.2.thru0 hb2))
      have x0 := HK.out.1.cell 0
      have x1 := HK.out.1.cell 1
      simp only [List.getElem?_toArray, List.getElem?_cons_zero, List.getElem?_cons_succ] at x0 x1
      have HR2 := Lib.hid (HR.out w2 HB2.out)
      clear hb2
      go_wp2_with fail
      refine HR2.out.mono ?_
      rintro e w3 ⟨rfl, hE⟩
      have HX := Lib.hid hE; clear hE
      go_wp2
      go_ret
      obtain ⟨c, h1, h2⟩ := HX.out
      exact ⟨rfl, c, h1.more (by omega), (Kp.of_below HB2.out).trans h2⟩
end Go.Proofs.Ytdbiaijpbkmfhaa
