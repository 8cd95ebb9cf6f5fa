/- PyramidPlays: (P8.1, P8.2) whatever is done with a pyramid, step by step it tells what the document says. Conditions: none. -/
import Derived.Test.YtdbiaijpbkmfhaaPyD
import Derived.Test.YtdbiaijpbkmfhaaPyF
import Derived.Test.YtdbiaijpbkmfhaaPyP
import Derived.Lib.SmallJoins
namespace Go.Proofs.Ytdbiaijpbkmfhaa.pyramidPlays
set_option linter.unusedVariables false
set_option linter.unusedSimpArgs false
open Go.ChangeShapes Go.WideShapes Go.ChangeAt Go.RowKit
open Go.ChangeMaps (open_string shut_string)
def OpOk (w : World) (cs : List Value) : Prop := ∃ (kd a b c d : Int), cs = [.int .i64 kd, .int .i64 a, .int .i64 b, .int .i64 c, .int .i64 d]
theorem opOk_of {H : Type} {enc : TypeId × Value → H} {w : World} {sp : Nat → Bool} {hd : Bool} : ∀ fuel cs (y : DataW H × List MemPlace), DataW.trod enc Try.prog w 0 sp hd fuel 31 cs = some y → (∀ m ∈ y.1.weights Try.prog 31, m ≤ reachBytes) → OpOk w cs := by
  intro fuel cs y h hsz
  obtain ⟨_, _, _, _, hl, _, _⟩ := DataW.trod_struct Try.underlying31 h
  have hC : Try.prog.cellsOf 31 = 5 := by kernel_rfl
  rw [hC] at hl
  obtain ⟨a0, h0, _⟩ := leaf_int (o := 0) (u := 3) (by kernel_rfl) Try.underlying3 h
  obtain ⟨a1, h1, _⟩ := leaf_int (o := 1) (u := 3) (by kernel_rfl) Try.underlying3 h
  obtain ⟨a2, h2, _⟩ := leaf_int (o := 2) (u := 3) (by kernel_rfl) Try.underlying3 h
  obtain ⟨a3, h3, _⟩ := leaf_int (o := 3) (u := 3) (by kernel_rfl) Try.underlying3 h
  obtain ⟨a4, h4, _⟩ := leaf_int (o := 4) (u := 3) (by kernel_rfl) Try.underlying3 h
  have h5 : ∀ l : List Value, l.length = 5 → ∃ v0 v1 v2 v3 v4, l = [v0, v1, v2, v3, v4] := by
    intro l hl
    match l, hl with
    | [v0, v1, v2, v3, v4], _ => exact ⟨v0, v1, v2, v3, v4, rfl⟩
  obtain ⟨v0, v1, v2, v3, v4, rfl⟩ := h5 cs hl
  simp at h0 h1 h2 h3 h4
  subst h0; subst h1; subst h2; subst h3; subst h4
  exact ⟨_, _, _, _, _, rfl⟩
theorem code0 (p : Pn) : codeAt 0 p = 0 := by
  unfold codeAt codU
  split
  · rfl
  · rfl
theorem cnt_root (S : List Pn) : cntC S 0 0 0 = S.length := by
  have h : okC 0 0 0 = true := by decide
  rw [cntC, if_pos h, cnt]
  have e : codU 0 0 0 = 0 := rfl
  rw [e, List.countP_eq_length]
  intro p _
  rw [show (0 : Int).toNat = 0 from rfl, code0]; rfl
theorem below_drew1 {B : Nat} {a w : World} (h : Below B a w) : Below B a w.drew := ⟨h.os, h.tape, h.output, h.size, h.block⟩
theorem srt_erase {H : List Pn} (h : Srt H) (p : Pn) : Srt (H.erase p) := List.Pairwise.sublist List.erase_sublist h
theorem len_erase (H : List Pn) (p : Pn) : (H.erase p).length ≤ H.length := List.length_erase_le
/-- The pyramid and the row beside it, in order. -/
structure PP (w : World) (y : Nat) (cs : Array Value) (H : List Pn) (B k : Nat) (v : Value) (wr : World) : Prop where
  py : PyH w y cs H B v wr
  srt : Srt H
  fit : FitS H
  len : H.length ≤ k
theorem PP.below {w : World} {y : Nat} {cs : Array Value} {H : List Pn} {B k : Nat} {v : Value} {wr X : World} (h : PP w y cs H B k v wr) (hb : Below wr.heap.size wr X) : PP w y cs H B k v X := ⟨h.py.below hb, h.srt, h.fit, h.len⟩
/-- The pyramid has been turned, the row is still as it was. -/
structure PT (w : World) (y : Nat) (cs : Array Value) (T H : List Pn) (B : Nat) (v : Value) (wr : World) : Prop where
  py : PyR wr y cs (fun _ => T) B
  own : QOwn wr v H
  bel : Below w.heap.size w wr
  ge : w.heap.size ≤ y
  cse : ∀ l i : Nat, cs[l]? = some (Value.map (some i)) → w.heap.size ≤ i
  far : ∀ i, v.ownBlock = some i → w.heap.size ≤ i ∧ Out y cs i
theorem PP.act {w : World} {y : Nat} {cs cs' : Array Value} {H T : List Pn} {B k C : Nat} {v : Value} {wr X : World} (h : PP w y cs H B k v wr) (hp : PyR X y cs' (fun _ => T) C) (hk : Kp y cs wr cs' X) : PT w y cs' T H C v X := by
  obtain ⟨h1, h2, h3, h4, h5, h6⟩ := h.py.act hp hk
  exact ⟨h1, h2, h3, h4, h5, h6⟩
theorem PT.below {w : World} {y : Nat} {cs : Array Value} {T H : List Pn} {B : Nat} {v : Value} {wr X : World} (h : PT w y cs T H B v wr) (hb : Below wr.heap.size wr X) : PT w y cs T H B v X :=
  ⟨h.py.below hb, h.own.below hb, below_trans h.bel hb, h.ge, h.cse, h.far⟩
/-- The row is as it was. -/
theorem PT.same {w : World} {y : Nat} {cs : Array Value} {T H : List Pn} {B k C : Nat} {v : Value} {X : World} (h : PT w y cs T H B v X) (hp : T.Perm H) (hBC : B ≤ C) (hs : Srt H) (hf : FitS H) (hl : H.length ≤ k) : PP w y cs H C k v X :=
  ⟨⟨(h.py.perm fun _ => hp).more hBC, h.own, h.bel, h.ge, h.cse, h.far⟩, hs, hf, hl⟩
/-- The row is another one, made since. -/
theorem PT.other {w : World} {y : Nat} {cs : Array Value} {T H M : List Pn} {B k C : Nat} {v v' : Value} {X Y : World} (h : PT w y cs T H B v X) (hb : Below X.heap.size X Y) (hv : QOwn Y v' M) (ho : ∀ i, v'.ownBlock = some i → X.heap.size ≤ i) (hp : T.Perm M) (hBC : B ≤ C) (hs : Srt M) (hf : FitS M) (hl : M.length ≤ k) : PP w y cs M C k v' Y :=
  ⟨⟨((h.py.below hb).perm fun _ => hp).more hBC, hv, below_trans h.bel hb, h.ge, h.cse, fun i hi => ⟨Nat.le_trans h.bel.size (ho i hi), h.py.out (ho i hi)⟩⟩, hs, hf, hl⟩
theorem PP.under {w : World} {y : Nat} {cs : Array Value} {H : List Pn} {B k : Nat} {v : Value} {wr : World} (h : PP w y cs H B k v wr) : Below w.heap.size w wr := h.py.2.2.1
set_option maxRecDepth 100000 in
set_option maxHeartbeats 16000000 in
theorem walk (a : Option Addr) (len cap0 : Nat) (L cx cy : Int) (w : World) (h : IsSl w 5 (OpOk w) a len cap0) (g0 : -9223372036854775808 ≤ L ∧ L ≤ 9223372036854775807) (g1 : -9223372036854775808 ≤ cx ∧ cx ≤ 9223372036854775807) (g2 : -9223372036854775808 ≤ cy ∧ cy ≤ 9223372036854775807) :
    Calls Try.prog 3 #[.slice a len cap0, .agg #[.int .i64 L, .int .i64 cx, .int .i64 cy]] w fun e w' => e = .returned (.bool true) ∧ Below w.heap.size w w' := by
  have hlc := h.le
  obtain ⟨hlc1, hlc2⟩ := hlc
  unfold maxLen at hlc2
  have HH := Lib.hid h
  have hA : Below w.heap.size w (w.alloc (.cells #[.int .i64 L, .int .i64 cx, .int .i64 cy] 24)) := (Below.refl _ _).alloc (Nat.le_refl _) _
  have HC := Lib.hid (Blk.new w 24 #[.int .i64 L, .int .i64 cx, .int .i64 cy])
  have HA := Lib.hid hA
  clear h hA g0 g1 g2
  go_enter Try.func3, Try.ntmps3
  go_wp2_with fail
  refine (new_any _).mono ?_
  generalize (w.alloc (.cells #[.int .i64 L, .int .i64 cx, .int .i64 cy] 24)) = w0 at *
  rintro e w1 ⟨y, c1, rfl, h1, hb, ho⟩
  have HST := Lib.hid (show PP w0 y c1 [] 0 0 (.slice none 0 0) w1 from ⟨⟨h1, QOwn.nil_ _, hb, Nat.le_of_not_lt fun e => (ho y e).1 rfl, fun l i e => Nat.le_of_not_lt fun e2 => (ho i e2).2 l e, fun i hi => by simp [Value.ownBlock] at hi⟩, List.Pairwise.nil, fun q hq => (by cases hq), Nat.le_refl _⟩)
  clear hb ho h1
  go_wp2_with fail
  go_loopw [6, 7] (fun hv i wr => ∃ (k : Nat) (cs : Array Value) (A1 : Option Addr) (H : List Pn) (c1 : Nat), k ≤ 80 ∧ k ≤ len ∧ i = .int .i64 k ∧ hv = .slice A1 H.length c1 ∧ Hid (PP w0 y cs H (51 * k) k (.slice A1 H.length c1) wr)) (fun _ i _ => 80 - (intOf i).toNat)
  case atStart => exact ⟨0, c1, none, [], 0, by omega, Nat.zero_le _, rfl, rfl, HST⟩
  case round =>
    clear HST
    obtain ⟨k, cs, A1, H, c1, hk8, hkl, rfl, rfl, HR⟩ := hrel
    by_cases hlt : k < len ∧ k < 80
    · obtain ⟨hl1, hl2⟩ := hlt
      have hi1 : (k : Int) < (len : Int) := by omega
      have hi2 : (k : Int) < 80 := by omega
      obtain ⟨xb, xo, ocs, rfl, hol, hcell, kd, p1, p2, q1, q2, rfl⟩ := HH.out.at2 k hl1 (by omega)
      have a0 := cell_later (below_trans HA.out HR.out.under) (hcell 0 _ rfl)
      have a1 := cell_later (below_trans HA.out HR.out.under) (hcell 1 _ rfl)
      have a2 := cell_later (below_trans HA.out HR.out.under) (hcell 2 _ rfl)
      have a3 := cell_later (below_trans HA.out HR.out.under) (hcell 3 _ rfl)
      have a4 := cell_later (below_trans HA.out HR.out.under) (hcell 4 _ rfl)
      simp only [Nat.add_zero, ← Nat.add_assoc] at a0 a1 a2 a3 a4
      clear hcell hol
      have HOB := Lib.hid (Blk.new wr 31 #[.int .i64 kd, .int .i64 p1, .int .i64 p2, .int .i64 q1, .int .i64 q2])
      have HR2 := Lib.hid (HR.out.below ((Below.refl _ _).alloc (Nat.le_refl _) (.cells #[.int .i64 kd, .int .i64 p1, .int .i64 p2, .int .i64 q1, .int .i64 q2] 31)))
      obtain ⟨g8, hg8⟩ : ∃ g8, wr.heap.size = g8 := ⟨_, rfl⟩
      have HO8 := Lib.hid (fun (cs2 : Array Value) (T : List Pn) (C : Nat) (X : World) (hp : PyR X y cs2 (fun _ => T) C) (hk : Kp y cs (wr.alloc (.cells #[.int .i64 kd, .int .i64 p1, .int .i64 p2, .int .i64 q1, .int .i64 q2] 31)) cs2 X) => (hk.blk HOB.out (HR.out.py.1.out (Nat.le_refl _)) : Blk X wr.heap.size 31 #[.int .i64 kd, .int .i64 p1, .int .i64 p2, .int .i64 q1, .int .i64 q2]))
      go_upto_if 56 with fail
      rw [hg8] at HOB HO8
      (try rw [hg8])
      generalize (wr.alloc (.cells #[.int .i64 kd, .int .i64 p1, .int .i64 p2, .int .i64 q1, .int .i64 q2] 31)) = w2 at *
      clear hg8 HR a0 a1 a2 a3 a4
      have x0 := HOB.out.cell 0
      have x1 := HOB.out.cell 1
      have x2 := HOB.out.cell 2
      have x3 := HOB.out.cell 3
      have x4 := HOB.out.cell 4
      simp only [List.getElem?_toArray, List.getElem?_cons_zero, List.getElem?_cons_succ] at x0 x1 x2 x3 x4
      have HSR := Lib.hid HR2.out.srt
      have HFI := Lib.hid HR2.out.fit
      have HLE := Lib.hid HR2.out.len
      have hle := HR2.out.len
      by_cases hk0 : kd = 0
      · subst hk0
        have HAD := Lib.hid (add_any y cs H (51 * k) (p1, p2) w2 HR2.out.py.1 (by omega) (by omega))
        have HFT := Lib.hid (ref_fits p1 p2)
        have HPM := Lib.hid (ins_perm (p1, p2) H)
        have HIL := Lib.hid (ins_length (p1, p2) H)
        go_wp2_with fail
        refine HAD.out.mono ?_
        rintro e w3 ⟨rfl, cs3, hp3, hk3⟩
        have HB3 := Lib.hid (HO8.out _ _ _ _ hp3 hk3)
        have HP3 := Lib.hid (HR2.out.act hp3 hk3)
        clear hp3 hk3 HAD x0 x1 x2 x3 x4
        have x1 := HB3.out.cell 1
        have x2 := HB3.out.cell 2
        simp only [List.getElem?_toArray, List.getElem?_cons_zero, List.getElem?_cons_succ] at x1 x2
        cases hf : fitsB p1 p2 with
        | false =>
          rw [hf] at HFT
          have HAS := Lib.hid (show addS H (p1, p2) = H by simp [addS, hf])
          clear hf
          go_wp2_with fail
          refine (HFT.out _).mono ?_
          rintro e w4 ⟨rfl, hb4⟩
          have HN := Lib.hid (show PP w0 y cs3 H (51 * (k + 1)) (k + 1) (.slice A1 H.length c1) w4 from (HP3.out.below hb4).same (by rw [HAS.out]) (by omega) HSR.out HFI.out (by omega))
          clear hb4
          have HK0 := Lib.hid (HC.out.thru0 HN.out.under)
          have y0 := HK0.out.cell 0
          have y1 := HK0.out.cell 1
          have y2 := HK0.out.cell 2
          simp only [List.getElem?_toArray, List.getElem?_cons_zero, List.getElem?_cons_succ] at y0 y1 y2
          have HTT := Lib.hid (fun W hW => total_any y cs3 H _ W (HN.out.py.1.below hW))
          have HCT := Lib.hid (fun W hW => count_any y cs3 H _ L cx cy W (HN.out.py.1.below hW))
          have HRC := Lib.hid (fun W hW => rcount_any A1 (H).length c1 H L cx cy W (HN.out.py.2.1.rd.below hW) (by have := HN.out.len; omega))
          rw [cnt_root] at HTT
          rw [rcntN_cell H HN.out.fit] at HRC
          generalize cntC H L cx cy = n1 at *
          have z0 : Below w4.heap.size w4 w4 := Below.refl _ _
          have hHl : (H).length ≤ 81 := by have := HN.out.len; omega
          go_wp2_with fail
          generalize hbc : w.heap.size = bc at *
          have z1 : Below w4.heap.size w4 w4.drew := below_drew1 (Below.refl _ _)
          go_region_held3 (fun w' => w'.cell? ⟨bc, 0, none⟩ = some (.int .i64 L) ∧ w'.cell? ⟨bc, 1, none⟩ = some (.int .i64 cx) ∧ w'.cell? ⟨bc, 2, none⟩ = some (.int .i64 cy) ∧ Below w4.heap.size w4 w') (first | (refine ⟨?_, ?_, ?_, ?_⟩ <;> first | (exact cell_later (by assumption) (by assumption)) | (exact below_trans (by assumption) (by assumption)) | (exact below_drew1 (by assumption)) | assumption) | (go_split_ands; refine ⟨?_, ?_, ?_, ?_⟩ <;> first | (exact cell_later (by assumption) (by assumption)) | (exact below_trans (by assumption) (by assumption)) | (exact below_drew1 (by assumption)) | assumption))
            (first
              | (go_at_call 16; refine (HTT.out _ (by first | assumption | (go_split_ands; assumption))).mono ?_; rintro e w9 ⟨rfl, hb9⟩)
              | (go_at_call 17; refine (HCT.out _ (by first | assumption | (go_split_ands; assumption))).mono ?_; rintro e w9 ⟨rfl, hb9⟩)
              | (go_at_call 18; refine (HRC.out _ (by first | assumption | (go_split_ands; assumption))).mono ?_; rintro e w9 ⟨rfl, hb9⟩))
          all_goals
            go_split_ands
            subst hbc
            go_wp2
            go_roundw
            case rel => exact ⟨k + 1, cs3, _, _, _, by omega, by omega, by go_num, rfl, Lib.hid (HN.out.below (by assumption))⟩
            case measure => simp [intOf]; omega
        | true =>
          rw [hf] at HFT
          have HAS := Lib.hid (show addS H (p1, p2) = (p1, p2) :: H by simp [addS, hf])
          have HFF := Lib.hid hf
          clear hf
          go_wp2_with fail
          refine (HFT.out _).mono ?_
          rintro e w4 ⟨rfl, hb4⟩
          have HP4 := Lib.hid (HP3.out.below hb4)
          have HB4 := Lib.hid (HB3.out.thru0 hb4)
          clear hb4 x1 x2
          have x1 := HB4.out.cell 1
          have x2 := HB4.out.cell 2
          simp only [List.getElem?_toArray, List.getElem?_cons_zero, List.getElem?_cons_succ] at x1 x2
          have HPUT := Lib.hid (rput_any A1 H.length c1 H (p1, p2) w4 HP4.out.own.rd (by omega))
          go_wp2_with fail
          refine HPUT.out.mono ?_
          rintro e w5 ⟨A4, c4, rfl, hq4, hb5, ho4⟩
          have HN := Lib.hid (show PP w0 y cs3 (ins (p1, p2) H) (51 * (k + 1)) (k + 1) (.slice A4 (ins (p1, p2) H).length c4) w5 from HP4.out.other hb5 hq4 (fun i hi => ho4 i (own_map.1 hi)) (by rw [HAS.out]; exact HPM.out.symm) (by omega) (ins_srt _ _ HSR.out) (ins_fit HFI.out HFF.out) (by rw [HIL.out]; omega))
          clear hq4 hb5 ho4
          generalize ins (p1, p2) H = H2 at *
          have HK0 := Lib.hid (HC.out.thru0 HN.out.under)
          have y0 := HK0.out.cell 0
          have y1 := HK0.out.cell 1
          have y2 := HK0.out.cell 2
          simp only [List.getElem?_toArray, List.getElem?_cons_zero, List.getElem?_cons_succ] at y0 y1 y2
          have HTT := Lib.hid (fun W hW => total_any y cs3 H2 _ W (HN.out.py.1.below hW))
          have HCT := Lib.hid (fun W hW => count_any y cs3 H2 _ L cx cy W (HN.out.py.1.below hW))
          have HRC := Lib.hid (fun W hW => rcount_any A4 (H2).length c4 H2 L cx cy W (HN.out.py.2.1.rd.below hW) (by have := HN.out.len; omega))
          rw [cnt_root] at HTT
          rw [rcntN_cell H2 HN.out.fit] at HRC
          generalize cntC H2 L cx cy = n1 at *
          have z0 : Below w5.heap.size w5 w5 := Below.refl _ _
          have hHl : (H2).length ≤ 81 := by have := HN.out.len; omega
          go_wp2_with fail
          generalize hbc : w.heap.size = bc at *
          have z1 : Below w5.heap.size w5 w5.drew := below_drew1 (Below.refl _ _)
          go_region_held3 (fun w' => w'.cell? ⟨bc, 0, none⟩ = some (.int .i64 L) ∧ w'.cell? ⟨bc, 1, none⟩ = some (.int .i64 cx) ∧ w'.cell? ⟨bc, 2, none⟩ = some (.int .i64 cy) ∧ Below w5.heap.size w5 w') (first | (refine ⟨?_, ?_, ?_, ?_⟩ <;> first | (exact cell_later (by assumption) (by assumption)) | (exact below_trans (by assumption) (by assumption)) | (exact below_drew1 (by assumption)) | assumption) | (go_split_ands; refine ⟨?_, ?_, ?_, ?_⟩ <;> first | (exact cell_later (by assumption) (by assumption)) | (exact below_trans (by assumption) (by assumption)) | (exact below_drew1 (by assumption)) | assumption))
            (first
              | (go_at_call 16; refine (HTT.out _ (by first | assumption | (go_split_ands; assumption))).mono ?_; rintro e w9 ⟨rfl, hb9⟩)
              | (go_at_call 17; refine (HCT.out _ (by first | assumption | (go_split_ands; assumption))).mono ?_; rintro e w9 ⟨rfl, hb9⟩)
              | (go_at_call 18; refine (HRC.out _ (by first | assumption | (go_split_ands; assumption))).mono ?_; rintro e w9 ⟨rfl, hb9⟩))
          all_goals
            go_split_ands
            subst hbc
            go_wp2
            go_roundw
            case rel => exact ⟨k + 1, cs3, _, _, _, by omega, by omega, by go_num, rfl, Lib.hid (HN.out.below (by assumption))⟩
            case measure => simp [intOf]; omega
      · have hkb0 : (kd == 0) = false := by simpa using hk0
        by_cases hk1 : kd = 1
        · subst hk1
          have HAD := Lib.hid (rem_any y cs H (51 * k) (p1, p2) w2 HR2.out.py.1 (by omega) (by omega) HFI.out)
          have HLL := Lib.hid (len_erase H (p1, p2))
          clear hkb0 hk0
          go_wp2_with fail
          refine HAD.out.mono ?_
          rintro e w3 ⟨rfl, cs3, hp3, hk3⟩
          have HB3 := Lib.hid (HO8.out _ _ _ _ hp3 hk3)
          have HP3 := Lib.hid (HR2.out.act hp3 hk3)
          clear hp3 hk3 HAD x0 x1 x2 x3 x4
          have x1 := HB3.out.cell 1
          have x2 := HB3.out.cell 2
          simp only [List.getElem?_toArray, List.getElem?_cons_zero, List.getElem?_cons_succ] at x1 x2
          have HWO := Lib.hid (rwo_any A1 H.length c1 H (p1, p2) w3 HP3.out.own.rd (by omega))
          unfold WoP at HWO
          generalize decide ((p1, p2) ∈ H) = bm at *
          go_wp2_with fail
          refine HWO.out.mono ?_
          rintro e w4 ⟨A4, c4, rfl, hq4, hb4, ho4⟩
          have HN := Lib.hid (show PP w0 y cs3 (H.erase (p1, p2)) (51 * (k + 1)) (k + 1) (.slice A4 (H.erase (p1, p2)).length c4) w4 from HP3.out.other hb4 hq4 (fun i hi => ho4 i (own_map.1 hi)) (List.Perm.refl _) (by omega) (srt_erase HSR.out _) (erase_fit HFI.out _) (by have := HLL.out; omega))
          clear hq4 hb4 ho4
          generalize H.erase (p1, p2) = H2 at *
          cases bm
          all_goals
            have HK0 := Lib.hid (HC.out.thru0 HN.out.under)
            have y0 := HK0.out.cell 0
            have y1 := HK0.out.cell 1
            have y2 := HK0.out.cell 2
            simp only [List.getElem?_toArray, List.getElem?_cons_zero, List.getElem?_cons_succ] at y0 y1 y2
            have HTT := Lib.hid (fun W hW => total_any y cs3 H2 _ W (HN.out.py.1.below hW))
            have HCT := Lib.hid (fun W hW => count_any y cs3 H2 _ L cx cy W (HN.out.py.1.below hW))
            have HRC := Lib.hid (fun W hW => rcount_any A4 (H2).length c4 H2 L cx cy W (HN.out.py.2.1.rd.below hW) (by have := HN.out.len; omega))
            rw [cnt_root] at HTT
            rw [rcntN_cell H2 HN.out.fit] at HRC
            generalize cntC H2 L cx cy = n1 at *
            have z0 : Below w4.heap.size w4 w4 := Below.refl _ _
            have hHl : (H2).length ≤ 81 := by have := HN.out.len; omega
            go_wp2_with fail
            generalize hbc : w.heap.size = bc at *
            have z1 : Below w4.heap.size w4 w4.drew := below_drew1 (Below.refl _ _)
            go_region_held3 (fun w' => w'.cell? ⟨bc, 0, none⟩ = some (.int .i64 L) ∧ w'.cell? ⟨bc, 1, none⟩ = some (.int .i64 cx) ∧ w'.cell? ⟨bc, 2, none⟩ = some (.int .i64 cy) ∧ Below w4.heap.size w4 w') (first | (refine ⟨?_, ?_, ?_, ?_⟩ <;> first | (exact cell_later (by assumption) (by assumption)) | (exact below_trans (by assumption) (by assumption)) | (exact below_drew1 (by assumption)) | assumption) | (go_split_ands; refine ⟨?_, ?_, ?_, ?_⟩ <;> first | (exact cell_later (by assumption) (by assumption)) | (exact below_trans (by assumption) (by assumption)) | (exact below_drew1 (by assumption)) | assumption))
              (first
                | (go_at_call 16; refine (HTT.out _ (by first | assumption | (go_split_ands; assumption))).mono ?_; rintro e w9 ⟨rfl, hb9⟩)
                | (go_at_call 17; refine (HCT.out _ (by first | assumption | (go_split_ands; assumption))).mono ?_; rintro e w9 ⟨rfl, hb9⟩)
                | (go_at_call 18; refine (HRC.out _ (by first | assumption | (go_split_ands; assumption))).mono ?_; rintro e w9 ⟨rfl, hb9⟩))
            all_goals
              go_split_ands
              subst hbc
              go_wp2
              go_roundw
              case rel => exact ⟨k + 1, cs3, _, _, _, by omega, by omega, by go_num, rfl, Lib.hid (HN.out.below (by assumption))⟩
              case measure => simp [intOf]; omega
        · have hkb1 : (kd == 1) = false := by simpa using hk1
          have HAD := Lib.hid (mov_any y cs H (51 * k) (p1, p2) (q1, q2) w2 HR2.out.py.1 (by omega) (by omega) HFI.out)
          have HLL := Lib.hid (len_erase H (p1, p2))
          have HFT := Lib.hid (ref_fits q1 q2)
          have HPM := Lib.hid (ins_perm (q1, q2) (H.erase (p1, p2)))
          have HIL := Lib.hid (ins_length (q1, q2) (H.erase (p1, p2)))
          have HMV := Lib.hid (show movB H (p1, p2) (q1, q2) = (fitsB q1 q2 && decide ((p1, p2) ∈ H)) from rfl)
          have HMS := Lib.hid (show movS H (p1, p2) (q1, q2) = if movB H (p1, p2) (q1, q2) = true then (q1, q2) :: H.erase (p1, p2) else H from rfl)
          clear hk0 hk1
          generalize movB H (p1, p2) (q1, q2) = mb at *
          go_wp2_with fail
          refine HAD.out.mono ?_
          rintro e w3 ⟨rfl, cs3, hp3, hk3⟩
          have HB3 := Lib.hid (HO8.out _ _ _ _ hp3 hk3)
          have HP3 := Lib.hid (HR2.out.act hp3 hk3)
          clear hp3 hk3 HAD x0 x1 x2 x3 x4 hkb0 hkb1
          have x1 := HB3.out.cell 1
          have x2 := HB3.out.cell 2
          simp only [List.getElem?_toArray, List.getElem?_cons_zero, List.getElem?_cons_succ] at x1 x2
          have HWO := Lib.hid (rwo_any A1 H.length c1 H (p1, p2) w3 HP3.out.own.rd (by omega))
          cases hm : decide ((p1, p2) ∈ H) with
          | false =>
            have HMB : Hid (mb = false) := Lib.hid (by rw [HMV.out, hm]; simp)
            have hmb := HMB.out
            subst hmb
            have HX := Lib.hid (show movS H (p1, p2) (q1, q2) = H by rw [HMS.out]; simp)
            unfold WoP at HWO
            rw [hm] at HWO
            clear hm
            go_wp2_with fail
            refine HWO.out.mono ?_
            rintro e w4 ⟨A4, c4, rfl, hq4, hb4, ho4⟩
            have HN := Lib.hid (show PP w0 y cs3 H (51 * (k + 1)) (k + 1) (.slice A1 H.length c1) w4 from (HP3.out.below hb4).same (by rw [HX.out]) (by omega) HSR.out HFI.out (by omega))
            clear hq4 hb4 ho4
            generalize H.erase (p1, p2) = H2 at *
            have HK0 := Lib.hid (HC.out.thru0 HN.out.under)
            have y0 := HK0.out.cell 0
            have y1 := HK0.out.cell 1
            have y2 := HK0.out.cell 2
            simp only [List.getElem?_toArray, List.getElem?_cons_zero, List.getElem?_cons_succ] at y0 y1 y2
            have HTT := Lib.hid (fun W hW => total_any y cs3 H _ W (HN.out.py.1.below hW))
            have HCT := Lib.hid (fun W hW => count_any y cs3 H _ L cx cy W (HN.out.py.1.below hW))
            have HRC := Lib.hid (fun W hW => rcount_any A1 (H).length c1 H L cx cy W (HN.out.py.2.1.rd.below hW) (by have := HN.out.len; omega))
            rw [cnt_root] at HTT
            rw [rcntN_cell H HN.out.fit] at HRC
            generalize cntC H L cx cy = n1 at *
            have z0 : Below w4.heap.size w4 w4 := Below.refl _ _
            have hHl : (H).length ≤ 81 := by have := HN.out.len; omega
            go_wp2_with fail
            generalize hbc : w.heap.size = bc at *
            have z1 : Below w4.heap.size w4 w4.drew := below_drew1 (Below.refl _ _)
            go_region_held3 (fun w' => w'.cell? ⟨bc, 0, none⟩ = some (.int .i64 L) ∧ w'.cell? ⟨bc, 1, none⟩ = some (.int .i64 cx) ∧ w'.cell? ⟨bc, 2, none⟩ = some (.int .i64 cy) ∧ Below w4.heap.size w4 w') (first | (refine ⟨?_, ?_, ?_, ?_⟩ <;> first | (exact cell_later (by assumption) (by assumption)) | (exact below_trans (by assumption) (by assumption)) | (exact below_drew1 (by assumption)) | assumption) | (go_split_ands; refine ⟨?_, ?_, ?_, ?_⟩ <;> first | (exact cell_later (by assumption) (by assumption)) | (exact below_trans (by assumption) (by assumption)) | (exact below_drew1 (by assumption)) | assumption))
              (first
                | (go_at_call 16; refine (HTT.out _ (by first | assumption | (go_split_ands; assumption))).mono ?_; rintro e w9 ⟨rfl, hb9⟩)
                | (go_at_call 17; refine (HCT.out _ (by first | assumption | (go_split_ands; assumption))).mono ?_; rintro e w9 ⟨rfl, hb9⟩)
                | (go_at_call 18; refine (HRC.out _ (by first | assumption | (go_split_ands; assumption))).mono ?_; rintro e w9 ⟨rfl, hb9⟩))
            all_goals
              go_split_ands
              subst hbc
              go_wp2
              go_roundw
              case rel => exact ⟨k + 1, cs3, _, _, _, by omega, by omega, by go_num, rfl, Lib.hid (HN.out.below (by assumption))⟩
              case measure => simp [intOf]; omega
          | true =>
            unfold WoP at HWO
            rw [hm] at HWO HMV
            rw [Bool.and_true] at HMV
            clear hm
            have hmv := HMV.out
            subst hmv
            go_wp2_with fail
            refine HWO.out.mono ?_
            rintro e w4 ⟨A4, c4, rfl, hq4, hb4, ho4⟩
            have HB4 := Lib.hid (HB3.out.thru0 hb4)
            have HQ4 := Lib.hid (show QOwn w4 (.slice A4 (H.erase (p1, p2)).length c4) (H.erase (p1, p2)) ∧ Below w3.heap.size w3 w4 ∧ ∀ i, A4.map (·.block) = some i → w3.heap.size ≤ i from ⟨hq4, hb4, ho4⟩)
            clear x1 x2 hq4 hb4 ho4
            have x3 := HB4.out.cell 3
            have x4 := HB4.out.cell 4
            simp only [List.getElem?_toArray, List.getElem?_cons_zero, List.getElem?_cons_succ] at x3 x4
            have HFE := Lib.hid (show FitS (H.erase (p1, p2)) ∧ Srt (H.erase (p1, p2)) from ⟨erase_fit HFI.out _, srt_erase HSR.out _⟩)
            have hlE : (H.erase (p1, p2)).length ≤ 80 := by have := HLL.out; omega
            have HLK := Lib.hid (show (H.erase (p1, p2)).length ≤ k by have := HLL.out; omega)
            generalize hHE : H.erase (p1, p2) = HE at *
            cases hf : fitsB q1 q2 with
            | false =>
              rw [hf] at HFT HMS
              have HX := Lib.hid (show movS H (p1, p2) (q1, q2) = H by rw [HMS.out]; simp)
              clear hf
              go_wp2_with fail
              refine (HFT.out _).mono ?_
              rintro e w5 ⟨rfl, hb5⟩
              have HN := Lib.hid (show PP w0 y cs3 H (51 * (k + 1)) (k + 1) (.slice A1 H.length c1) w5 from (HP3.out.below (below_trans HQ4.out.2.1 hb5)).same (by rw [HX.out]) (by omega) HSR.out HFI.out (by omega))
              clear hb5
              have HK0 := Lib.hid (HC.out.thru0 HN.out.under)
              have y0 := HK0.out.cell 0
              have y1 := HK0.out.cell 1
              have y2 := HK0.out.cell 2
              simp only [List.getElem?_toArray, List.getElem?_cons_zero, List.getElem?_cons_succ] at y0 y1 y2
              have HTT := Lib.hid (fun W hW => total_any y cs3 H _ W (HN.out.py.1.below hW))
              have HCT := Lib.hid (fun W hW => count_any y cs3 H _ L cx cy W (HN.out.py.1.below hW))
              have HRC := Lib.hid (fun W hW => rcount_any A1 (H).length c1 H L cx cy W (HN.out.py.2.1.rd.below hW) (by have := HN.out.len; omega))
              rw [cnt_root] at HTT
              rw [rcntN_cell H HN.out.fit] at HRC
              generalize cntC H L cx cy = n1 at *
              have z0 : Below w5.heap.size w5 w5 := Below.refl _ _
              have hHl : (H).length ≤ 81 := by have := HN.out.len; omega
              go_wp2_with fail
              generalize hbc : w.heap.size = bc at *
              have z1 : Below w5.heap.size w5 w5.drew := below_drew1 (Below.refl _ _)
              go_region_held3 (fun w' => w'.cell? ⟨bc, 0, none⟩ = some (.int .i64 L) ∧ w'.cell? ⟨bc, 1, none⟩ = some (.int .i64 cx) ∧ w'.cell? ⟨bc, 2, none⟩ = some (.int .i64 cy) ∧ Below w5.heap.size w5 w') (first | (refine ⟨?_, ?_, ?_, ?_⟩ <;> first | (exact cell_later (by assumption) (by assumption)) | (exact below_trans (by assumption) (by assumption)) | (exact below_drew1 (by assumption)) | assumption) | (go_split_ands; refine ⟨?_, ?_, ?_, ?_⟩ <;> first | (exact cell_later (by assumption) (by assumption)) | (exact below_trans (by assumption) (by assumption)) | (exact below_drew1 (by assumption)) | assumption))
                (first
                  | (go_at_call 16; refine (HTT.out _ (by first | assumption | (go_split_ands; assumption))).mono ?_; rintro e w9 ⟨rfl, hb9⟩)
                  | (go_at_call 17; refine (HCT.out _ (by first | assumption | (go_split_ands; assumption))).mono ?_; rintro e w9 ⟨rfl, hb9⟩)
                  | (go_at_call 18; refine (HRC.out _ (by first | assumption | (go_split_ands; assumption))).mono ?_; rintro e w9 ⟨rfl, hb9⟩))
              all_goals
                go_split_ands
                subst hbc
                go_wp2
                go_roundw
                case rel => exact ⟨k + 1, cs3, _, _, _, by omega, by omega, by go_num, rfl, Lib.hid (HN.out.below (by assumption))⟩
                case measure => simp [intOf]; omega
            | true =>
              rw [hf] at HFT HMS
              have HX := Lib.hid (show movS H (p1, p2) (q1, q2) = (q1, q2) :: HE by rw [HMS.out]; simp)
              have HFF := Lib.hid hf
              clear hf
              go_wp2_with fail
              refine (HFT.out _).mono ?_
              rintro e w5 ⟨rfl, hb5⟩
              have HB5 := Lib.hid (HB4.out.thru0 hb5)
              have HBL := Lib.hid (below_trans HQ4.out.2.1 hb5)
              have HPUT := Lib.hid (rput_any A4 HE.length c4 HE (q1, q2) w5 (HQ4.out.1.below hb5).rd (by omega))
              clear hb5 x3 x4
              have x3 := HB5.out.cell 3
              have x4 := HB5.out.cell 4
              simp only [List.getElem?_toArray, List.getElem?_cons_zero, List.getElem?_cons_succ] at x3 x4
              go_wp2_with fail
              refine HPUT.out.mono ?_
              rintro e w6 ⟨A6, c6, rfl, hq6, hb6, ho6⟩
              have HN := Lib.hid (show PP w0 y cs3 (ins (q1, q2) HE) (51 * (k + 1)) (k + 1) (.slice A6 (ins (q1, q2) HE).length c6) w6 from (HP3.out.below HBL.out).other hb6 hq6 (fun i hi => ho6 i (own_map.1 hi)) (by rw [HX.out]; exact HPM.out.symm) (by omega) (ins_srt _ _ HFE.out.2) (ins_fit HFE.out.1 HFF.out) (by rw [HIL.out]; have := HLK.out; omega))
              clear hq6 hb6 ho6
              generalize ins (q1, q2) HE = H2 at *
              have HK0 := Lib.hid (HC.out.thru0 HN.out.under)
              have y0 := HK0.out.cell 0
              have y1 := HK0.out.cell 1
              have y2 := HK0.out.cell 2
              simp only [List.getElem?_toArray, List.getElem?_cons_zero, List.getElem?_cons_succ] at y0 y1 y2
              have HTT := Lib.hid (fun W hW => total_any y cs3 H2 _ W (HN.out.py.1.below hW))
              have HCT := Lib.hid (fun W hW => count_any y cs3 H2 _ L cx cy W (HN.out.py.1.below hW))
              have HRC := Lib.hid (fun W hW => rcount_any A6 (H2).length c6 H2 L cx cy W (HN.out.py.2.1.rd.below hW) (by have := HN.out.len; omega))
              rw [cnt_root] at HTT
              rw [rcntN_cell H2 HN.out.fit] at HRC
              generalize cntC H2 L cx cy = n1 at *
              have z0 : Below w6.heap.size w6 w6 := Below.refl _ _
              have hHl : (H2).length ≤ 81 := by have := HN.out.len; omega
              go_wp2_with fail
              generalize hbc : w.heap.size = bc at *
              have z1 : Below w6.heap.size w6 w6.drew := below_drew1 (Below.refl _ _)
              go_region_held3 (fun w' => w'.cell? ⟨bc, 0, none⟩ = some (.int .i64 L) ∧ w'.cell? ⟨bc, 1, none⟩ = some (.int .i64 cx) ∧ w'.cell? ⟨bc, 2, none⟩ = some (.int .i64 cy) ∧ Below w6.heap.size w6 w') (first | (refine ⟨?_, ?_, ?_, ?_⟩ <;> first | (exact cell_later (by assumption) (by assumption)) | (exact below_trans (by assumption) (by assumption)) | (exact below_drew1 (by assumption)) | assumption) | (go_split_ands; refine ⟨?_, ?_, ?_, ?_⟩ <;> first | (exact cell_later (by assumption) (by assumption)) | (exact below_trans (by assumption) (by assumption)) | (exact below_drew1 (by assumption)) | assumption))
                (first
                  | (go_at_call 16; refine (HTT.out _ (by first | assumption | (go_split_ands; assumption))).mono ?_; rintro e w9 ⟨rfl, hb9⟩)
                  | (go_at_call 17; refine (HCT.out _ (by first | assumption | (go_split_ands; assumption))).mono ?_; rintro e w9 ⟨rfl, hb9⟩)
                  | (go_at_call 18; refine (HRC.out _ (by first | assumption | (go_split_ands; assumption))).mono ?_; rintro e w9 ⟨rfl, hb9⟩))
              all_goals
                go_split_ands
                subst hbc
                go_wp2
                go_roundw
                case rel => exact ⟨k + 1, cs3, _, _, _, by omega, by omega, by go_num, rfl, Lib.hid (HN.out.below (by assumption))⟩
                case measure => simp [intOf]; omega
    · have HPT := Lib.hid (points_any y cs H _ wr HR.out.py.1 HR.out.fit (by have := HR.out.len; omega))
      have HEND : Hid (∀ w9, Below wr.heap.size wr w9 → Below w.heap.size w w9) := Lib.hid fun w9 h9 => below_trans HA.out (below_trans HR.out.under h9)
      have hcs : (k < len ∧ k = 80) ∨ ¬ k < len := by omega
      have HE2 := Lib.hid (fun (L3 : List Pn) (hp : L3.Perm H) (hs : Srt L3) => srt_uniq hs HR.out.srt hp (fun q hq => HR.out.fit q (hp.mem_iff.1 hq)))
      have HRD := Lib.hid HR.out.py.2.1.rd
      clear hlt HC HA HH HR
      rcases hcs with ⟨h1, rfl⟩ | h1
      all_goals
        have h2 : (80 : Int) ≤ 80 := by omega
        go_wp2_with fail
        refine HPT.out.mono ?_
        rintro e w3 ⟨A3, c3, L3, rfl, hfr, hpm, hsr⟩
        obtain rfl := HE2.out L3 hpm hsr
        have HSM := Lib.hid (rsame_rd A3 A1 L3.length L3.length c3 c1 L3 L3 w3 hfr.1.rd (HRD.out.below hfr.2.1))
        rw [show decide (L3 = L3) = true by simp] at HSM
        have HB3 := Lib.hid hfr.2.1
        clear hfr hpm hsr h2
        go_wp2_with fail
        refine HSM.out.mono ?_
        rintro e w4 ⟨rfl, q, hq⟩
        have HB4 := Lib.hid (show Below wr.heap.size wr w4 from by rw [hq]; exact below_trans HB3.out (below_drawn (Below.refl _ _) q))
        clear hq
        go_wp2_with fail
        refine (pyknown_any _).mono ?_
        rintro e w5 ⟨rfl, hb5⟩
        have HB5 := Lib.hid (HEND.out _ (below_trans HB4.out hb5))
        clear hb5
        go_wp2
        go_ret
        exact ⟨rfl, HB5.out⟩
theorem own : ownKnob Try.prog.godebug = none := by kernel_rfl
theorem laidOut : laidOutB Try.prog = true := by kernel_rfl
set_option maxRecDepth 100000 in
theorem lifted (os : Os) (started : os.Started) (H : Type) (enc : TypeId × Value → H) :
    ReturnsInHanded {} Try.checked os 3 .any (Rows.pyramidPlaysSpec.pre6 enc Try.prog Try.f3 Rows.pyramidPlaysRow.domain false) (Rows.pyramidPlaysSpec.post enc Try.prog Try.f3 false true false false) := by
  refine returnsInHanded_of_change_sized (C := Try.checked) own started (by kernel_rfl) Try.func3
    (ChangeSpec.witness6 (enc := enc) (C := Try.checked) false ⟨#[], #[.slice none 0 0, .agg #[.int .i64 0, .int .i64 0, .int .i64 0]], []⟩ 8 (by kernel_rfl) (by kernel_rfl) (by kernel_rfl) (by kernel_rfl)) ?_
  intro W base args ds gs before hval0 hW hcnd hsz0 _
  have hval : ∀ (j : Nat) t v, Try.f3.params[j]? = some t → args[j]? = some v → Value.okWide Try.prog W .any base t v := hval0
  have hW' := hW
  obtain ⟨p, q, hA0, hV, rfl, hfz, hnd⟩ := hW
  have hA : DataW.TrodAll enc Try.prog W 0 (fun _ => true) true Try.f3.params.toList args.toList ds p := hA0
  rw [Try.params3] at hA hval
  obtain ⟨v0, vs0, d0, ds0, p0, q0, hargs, rfl, rfl, h0, r0⟩ := trodAll_cons hA
  obtain ⟨v1, vs1, d1, ds1, p1, q1, rfl, rfl, rfl, h1, r1⟩ := trodAll_cons r0
  obtain ⟨rfl, rfl, rfl⟩ := trodAll_nil r1
  obtain rfl : args = #[v0, v1] := by cases args; simp_all
  obtain ⟨rfl, rfl⟩ := trodVars_none hV
  have k0 := h0
  have lt0 : ∀ x ∈ p0, x.block < W.heap.size := by obtain ⟨m, hm⟩ := k0; exact DataW.trod_lt m _ _ _ hm
  obtain ⟨a0, len0, cap0, rfl⟩ := okWide_slice Try.underlying22 (hval 0 22 v0 rfl rfl)
  have w0 : IsSl W 5 (OpOk W) a0 len0 cap0 := by
    obtain ⟨fuel, hf⟩ := h0
    exact isSl_of Try.underlying22 (by kernel_rfl) opOk_of hf (fun n hn => of_decide_eq_true (List.all_eq_true.1 hsz0 n (DataW.weights_mem_each (j := 0) (t := 22) (d := d0) rfl rfl n hn)))
  have k1 := h1
  have lt1 : ∀ x ∈ p1, x.block < W.heap.size := by obtain ⟨m, hm⟩ := k1; exact DataW.trod_lt m _ _ _ hm
  obtain ⟨c1_0, c1_1, c1_2, y1_0, y1_1, y1_2, m1, rfl, rfl, rfl, hy1_0, hy1_1, hy1_2⟩ := Joins.open_agg3 Try.underlying24 (by kernel_rfl) (by kernel_rfl) (hval 1 24 v1 rfl rfl) h1
  obtain ⟨a1_0, e1_0, rfl, w1_0⟩ := DataW.trod_int Try.underlying3 hy1_0
  simp only [List.cons.injEq, and_true] at e1_0
  subst e1_0
  obtain ⟨a1_1, e1_1, rfl, w1_1⟩ := DataW.trod_int Try.underlying3 hy1_1
  simp only [List.cons.injEq, and_true] at e1_1
  subst e1_1
  obtain ⟨a1_2, e1_2, rfl, w1_2⟩ := DataW.trod_int Try.underlying3 hy1_2
  simp only [List.cons.injEq, and_true] at e1_2
  subst e1_2
  clear hA0 hval0
  refine (walk a0 len0 cap0 a1_0 a1_1 a1_2 W w0 (bounds_i64 w1_0) (bounds_i64 w1_1) (bounds_i64 w1_2)).mono fun e W' ⟨he, bel⟩ => ?_
  subst he
  exact ⟨_, rfl, _, _, _, [], _, [], hW', trodAll_mk1 (shut_bool Try.underlying4 _), (trodAll_cons_mk (Below.trod laidOut (by kernel_rfl) (of_decide_eq_true (by kernel_rfl)) k0 bel lt0) (trodAll_cons_mk (Below.trod laidOut (by kernel_rfl) (of_decide_eq_true (by kernel_rfl)) k1 bel lt1) trodAll_mk0)), rfl, bel.frame _, fun h => by cases h⟩
theorem over : Rows.pyramidPlaysRow.holds Try.pinned (OpenSpec.ofChange Rows.pyramidPlaysSpec) :=
  OpenClaim.holds_of_wide 3 Try.f3 rfl rfl rfl rfl rfl rfl rfl ⟨rfl, rfl, rfl, rfl, rfl⟩ rfl rfl rfl rfl rfl (by kernel_rfl) Try.func3 (by kernel_rfl)
    (of_decide_eq_true (by kernel_rfl)) (by unfold Func.isWrapper; first | (rw [if_pos (by decide +kernel)]; kernel_rfl) | (rw [if_neg (by decide +kernel)]; exact ⟨rfl, rfl⟩))
    (fun os started H enc _ => lifted os started H enc)
/-- The statement. -/
theorem proved : Rows.PyramidPlaysSaid := over
#print axioms proved
end Go.Proofs.Ytdbiaijpbkmfhaa.pyramidPlays
