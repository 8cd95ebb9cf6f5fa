/- pyramid: eachLevel with Remove's closure; New, Count, Level, Cells, Total. -/
import Derived.Test.YtdbiaijpbkmfhaaPy5
import Derived.Test.YtdbiaijpbkmfhaaCellMath3
import Derived.Test.YtdbiaijpbkmfhaaCellFrom
namespace Go.Proofs.Ytdbiaijpbkmfhaa
set_option linter.unusedVariables false
set_option linter.unusedSimpArgs false
open Go.RowKit
set_option maxRecDepth 100000 in
set_option maxHeartbeats 4000000 in
theorem each_rem (y bx : Nat) (cs : Array Value) (Z S : List Pn) (B : Nat) (p : Pn) (w : World) (h : PyR w y cs (fun _ => Z) B) (hB : B ≤ 900000) (hbx : Blk w bx 25 #[.pointer (some ⟨y, 0, none⟩)]) (hox : Out y cs bx) (hS : Z.length ≤ 1000000) (hz : Z.Perm (p :: S)) (hp : fitsB p.1 p.2 = true) :
    Calls Try.prog 29 #[.agg #[.int .i64 p.1, .int .i64 p.2], .func (.func 33) #[] #[.pointer (some ⟨bx, 0, none⟩)]] w fun e w' => EachP y cs S B w e w' := by
  have HPY := Lib.hid h; have HBX := Lib.hid hbx; have HOX := Lib.hid hox; have HP := Lib.hid hp
  have HZ := Lib.hid hz
  clear h hbx hox hp hz
  go_enter Try.func29, Try.ntmps29
  go_wp2
  have hW : Below w.heap.size w (w.alloc (.cells #[.int .i64 p.1, .int .i64 p.2] 29)) := (Below.refl _ _).alloc (Nat.le_refl _) _
  have HPY2 := Lib.hid (HPY.out.below hW)
  have HB1 := Lib.hid (Blk.new w 29 #[.int .i64 p.1, .int .i64 p.2])
  have HO1 := Lib.hid (HPY.out.out (Nat.le_refl _))
  have HBX2 := Lib.hid (HBX.out.below hW HBX.out.lt)
  have HKP := Lib.hid (Kp.of_below (y := y) (cs := cs) hW)
  clear hW
  generalize w.alloc (.cells #[.int .i64 p.1, .int .i64 p.2] 29) = W at *
  generalize w.heap.size = b1 at *
  go_loopw [9] (fun i wr => ∃ (k : Nat), k ≤ 17 ∧ i = .int .i64 k ∧ Hid (EachSt y cs Z S B W k wr)) (fun i _ => 17 - (intOf i).toNat)
  case atStart => exact ⟨0, by omega, rfl, Lib.hid (EachSt.start HPY2.out)⟩
  case round =>
    obtain ⟨k, hk, rfl, hrel⟩ := hrel
    by_cases hlt : k < 17
    · have hki : (k : Int) < 17 := by omega
      have HBK := Lib.hid (hrel.out.blk HB1.out HO1.out)
      have x0 := HBK.out.cell 0
      have x1 := HBK.out.cell 1
      simp only [List.getElem?_toArray, List.getElem?_cons_zero, List.getElem?_cons_succ] at x0 x1
      have HLV := Lib.hid (lev_ok p k hlt HP.out)
      have HOF := Lib.hid (cof_u p.1 p.2 (k : Int))
      rw [HLV.out.1, HLV.out.2.1] at HOF
      generalize hcx : a1 16 p.1 p.2 (k : Int) = cx at *
      generalize hcy : a2 16 p.1 p.2 (k : Int) = cy at *
      have HCD := Lib.hid (code_u (k : Int) cx cy)
      rw [HLV.out.2.2, show codU (k : Int) cx cy = codeAt k p by rw [codeAt, hcx, hcy]] at HCD
      clear hcx hcy
      go_wp2_with fail
      go_at_call 44
      refine (HOF.out _).mono ?_
      rintro e w2 ⟨rfl, hb2⟩
      have HR2 := Lib.hid (hrel.out.below hb2)
      clear hb2 HBK x0 x1
      have ha2 : Below w2.heap.size w2 (w2.alloc (.cells #[.int .i64 (k : Int), .int .i64 cx, .int .i64 cy] 24)) := (Below.refl _ _).alloc (Nat.le_refl _) _
      have HR3 := Lib.hid (HR2.out.below ha2)
      have HC3 := Lib.hid (Blk.new w2 24 #[.int .i64 (k : Int), .int .i64 cx, .int .i64 cy])
      go_wp2_with fail
      go_at_call 34
      refine (HCD.out _).mono ?_
      rintro e w3 ⟨rfl, hb3⟩
      have HR4 := Lib.hid (HR3.out.below hb3)
      clear hb3 ha2 HC3 HR3 HR2
      go_wp2_with fail
      obtain ⟨cs1, hpy, hkp⟩ := HR4.out
      have HBX4 := Lib.hid (HR4.out.blk HBX2.out HOX.out)
      have HO4 := Lib.hid (hkp.out HBX2.out.lt HOX.out)
      have HK4 := Lib.hid hkp
      have HADD := Lib.hid (rem1_any y bx cs1 (PS Z S k) (B + k) k p S w3 hpy hlt (by omega) HBX4.out (by rw [PS_at]; exact HZ.out) (by rw [PS_at]; exact hS) HO4.out)
      clear hpy hkp
      go_at_call 33
      refine HADD.out.mono ?_
      rintro e w4 hA
      have HR5 := Lib.hid (EachSt.step HK4.out hA)
      obtain ⟨rfl, _⟩ := hA
      go_wp2_with fail
      go_roundw
      case rel => exact ⟨k + 1, by omega, by go_num, HR5⟩
      case measure => simp [intOf]; omega
    · obtain rfl : k = 17 := by omega
      have HD := Lib.hid hrel.out.done
      go_wp2
      refine bodyPost_ret (v := .tuple #[]) ?_ rfl ?_
      · simp [results, Try.results29, go_sem, *]
      · obtain ⟨c, h1, h2⟩ := HD.out
        exact ⟨rfl, c, h1, HKP.out.trans h2⟩
theorem nil_look (c : Int) (w : World) : (Instr.lookup 55 (Value.map none) (.int .u64 c) false).run Try.prog w = .ok (.int .i64 0) w := by kernel_rfl
theorem nil_len (ty : TypeId) (w : World) : (Builtin.len_ #[55] ty #[Value.map none]).run Try.prog w = .ok (.int .i64 0) w := by kernel_rfl
theorem PyR.value {w : World} {y : Nat} {cs : Array Value} {P : Nat → List Pn} {B : Nat} (h : PyR w y cs P B) (l : Nat) (hl : l < 17) :
    ∃ v, w.cell? ⟨y, l, none⟩ = some (Value.map v) ∧ ∀ w' : World, w'.heap = w.heap →
      (∀ c : Int, (Lit.int .u64 c).wf = true → (Instr.lookup 55 (Value.map v) (.int .u64 c) false).run Try.prog w' = .ok (.int .i64 (cnt (P l) l c : Int)) w') ∧
      ∀ ty, (Builtin.len_ #[55] ty #[Value.map v]).run Try.prog w' = .ok (.int .i64 (nd ((P l).map (codeAt l)) : Int)) w' := by
  obtain ⟨v, hv, hL⟩ := h.hl l hl
  have hc : w.cell? ⟨y, l, none⟩ = some v := by rw [h.hq.cell]; exact hv
  rcases hL with ⟨rfl, hP⟩ | ⟨m, n, rfl, hn, hm⟩
  · refine ⟨none, hc, fun w' _ => ⟨fun c hwf => ?_, fun ty => ?_⟩⟩
    · rw [hP]; exact nil_look c w'
    · rw [hP]; exact nil_len ty w'
  · refine ⟨some m, hc, fun w' hh => ?_⟩
    have hm := hm.keep (w' := w') (by rw [hh])
    refine ⟨fun c hwf => ?_, fun ty => hm.len ty⟩
    have := hm.look c hwf
    rw [cH_get] at this
    exact this
/-- The codes in the grid of a level. -/
theorem codU_wf (L x y : Int) : (Lit.int .u64 (codU L x y)).wf = true := by
  have : 0 ≤ codU L x y ∧ codU L x y < 4294967296 := by
    by_cases h : okC L x y = true
    · exact codU_bd L x y h
    · rw [codU, if_neg h]; omega
  simp [Lit.wf, IntKind.min, IntKind.max, IntKind.bits, IntKind.signed, *]
  omega
/-- How many points of S a cell has. -/
def cntC (S : List Pn) (L x y : Int) : Nat := if okC L x y = true then cnt S L.toNat (codU L x y) else 0
def levN (S : List Pn) (L : Int) : Nat := if levB L = true then nd (S.map (codeAt L.toNat)) else 0
set_option maxRecDepth 100000 in
set_option maxHeartbeats 2000000 in
theorem count_any (y : Nat) (cs : Array Value) (S : List Pn) (B : Nat) (L cx cy : Int) (w : World) (h : PyR w y cs (fun _ => S) B) :
    Calls Try.prog 17 #[.pointer (some ⟨y, 0, none⟩), .agg #[.int .i64 L, .int .i64 cx, .int .i64 cy]] w fun e w' => e = .returned (.int .i64 (cntC S L cx cy : Int)) ∧ Below w.heap.size w w' := by
  have HPY := Lib.hid h; clear h
  have HCD := Lib.hid (code_u L cx cy)
  by_cases ho : okC L cx cy = true
  · have g := okC_16 _ _ _ ho
    obtain ⟨l, rfl⟩ := Int.eq_ofNat_of_zero_le g.1
    have hl : l < 17 := by omega
    have hl1 : (l : Int) < 17 := by omega
    have hl2 : (0 : Int) ≤ (l : Int) := by omega
    have hcc : cntC S (l : Int) cx cy = cnt S l (codU (l : Int) cx cy) := by rw [cntC, if_pos ho]; rfl
    have hwf := codU_wf (l : Int) cx cy
    rw [hcc]
    rw [ho] at HCD
    generalize codU (l : Int) cx cy = cc at *
    clear ho g hcc
    go_enter Try.func17, Try.ntmps17
    have hA : Below w.heap.size w (w.alloc (.cells #[.int .i64 (l : Int), .int .i64 cx, .int .i64 cy] 24)) := (Below.refl _ _).alloc (Nat.le_refl _) _
    go_wp2_with fail
    refine (HCD.out _).mono ?_
    rintro e w2 ⟨rfl, hb2⟩
    have HB2 := Lib.hid (below_trans hA hb2)
    have HC := Lib.hid ((Blk.new w 24 #[.int .i64 (l : Int), .int .i64 cx, .int .i64 cy]).thru0 hb2)
    have c0 := HC.out.cell 0
    simp only [List.getElem?_toArray, List.getElem?_cons_zero] at c0
    obtain ⟨v, y0, hval⟩ := (HPY.out.below HB2.out).value l hl
    have hlk := (hval w2 rfl).1 cc hwf
    have hlk2 := (hval w2.drew rfl).1 cc hwf
    clear hval
    generalize hcn : (cnt S l cc : Int) = num at *
    clear hA hb2
    go_wp2
    go_region
    go_wp2
    go_ret
    exact ⟨by rw [hcn]; rfl, HB2.out.os, HB2.out.tape, HB2.out.output, HB2.out.size, HB2.out.block⟩
  · have hn : okC L cx cy = false := by simpa using ho
    have hcc : cntC S L cx cy = 0 := by rw [cntC, if_neg ho]
    rw [hn] at HCD
    rw [hcc]
    clear ho hcc hn
    generalize codU L cx cy = cc at *
    go_enter Try.func17, Try.ntmps17
    have hA : Below w.heap.size w (w.alloc (.cells #[.int .i64 L, .int .i64 cx, .int .i64 cy] 24)) := (Below.refl _ _).alloc (Nat.le_refl _) _
    go_wp2_with fail
    refine (HCD.out _).mono ?_
    rintro e w2 ⟨rfl, hb2⟩
    have HB2 := Lib.hid (below_trans hA hb2)
    clear hA hb2
    go_wp2
    go_ret
    exact ⟨rfl, HB2.out⟩
set_option maxHeartbeats 2000000 in
theorem level_any (y : Nat) (cs : Array Value) (S : List Pn) (B : Nat) (L : Int) (w : World) (h : PyR w y cs (fun _ => S) B) :
    Calls Try.prog 24 #[.pointer (some ⟨y, 0, none⟩), .int .i64 L] w fun e w' => e = .returned (.int .i64 (levN S L : Int)) ∧ Below w.heap.size w w' := by
  by_cases hL : levB L = true
  · have g := (levB_iff _).1 hL
    obtain ⟨l, rfl⟩ := Int.eq_ofNat_of_zero_le g.1
    have hl1 : ¬ (l : Int) < 0 := by omega
    have hl2 : ¬ (16 : Int) < (l : Int) := by omega
    have hl3 : (l : Int) < 17 := by omega
    have d1 : decide ((l : Int) < 0) = false := decide_eq_false hl1
    have d2 : decide ((16 : Int) < (l : Int)) = false := decide_eq_false hl2
    obtain ⟨v, y0, hval⟩ := h.value l (by omega)
    have hlen := (hval w rfl).2
    have hcc : levN S (l : Int) = nd (S.map (codeAt l)) := by rw [levN, if_pos hL]; rfl
    rw [hcc]
    clear h hval hcc hL g
    generalize hcn : (nd (S.map (codeAt l)) : Int) = num at *
    go_enter Try.func24, Try.ntmps24
    go_wp2
    go_ret
    exact ⟨rfl, Below.refl _ _⟩
  · have hcc : levN S L = 0 := by rw [levN, if_neg hL]
    have hn : L < 0 ∨ 16 < L := by
      have : ¬ (0 ≤ L ∧ L ≤ 16) := fun e => hL ((levB_iff L).2 e)
      omega
    rw [hcc]
    clear h hcc hL
    by_cases h1 : L < 0
    · clear hn
      go_enter Try.func24, Try.ntmps24
      go_wp2
      go_ret
      exact ⟨rfl, Below.refl _ _⟩
    · have h2 : 16 < L := by omega
      clear hn
      go_enter Try.func24, Try.ntmps24
      go_wp2
      go_ret
      exact ⟨rfl, Below.refl _ _⟩
end Go.Proofs.Ytdbiaijpbkmfhaa
