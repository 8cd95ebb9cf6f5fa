/- pyramid: a level's count, one more. -/
import Derived.Test.YtdbiaijpbkmfhaaPy2
import Derived.Lib.Hide
import Derived.StillTailTactics
import Derived.Handy
namespace Go.Proofs.Ytdbiaijpbkmfhaa
set_option linter.unusedVariables false
set_option linter.unusedSimpArgs false
open Go.RowKit
/-- One level's count is turned: what lies then. -/
def Add1P (y : Nat) (cs : Array Value) (P : Nat → List Pn) (B l : Nat) (S : List Pn) (w : World) (e : Ending) (w' : World) : Prop :=
  e = .returned (.tuple #[]) ∧ ∃ cs', PyR w' y cs' (updP P l S) (B + 1) ∧ Kp y cs w cs' w'
theorem codeAt_wf (l : Nat) (p : Pn) : (Lit.int .u64 (codeAt l p)).wf = true := by
  have : 0 ≤ codeAt l p ∧ codeAt l p < 4294967296 := by
    unfold codeAt codU
    split
    · rename_i h
      have h1 := cod_lt (l : Int).toNat (a1 16 p.1 p.2 (l : Int)).toNat (a2 16 p.1 p.2 (l : Int)).toNat
      have h3 := (okC_16 _ _ _ h).2.1
      have h2 := pow4_le (l : Int).toNat (by omega)
      omega
    · omega
  simp [Lit.wf, IntKind.min, IntKind.max, IntKind.bits, IntKind.signed, *]
  omega
/-- One more at a code: what is read, what is stored. -/
theorem PyR.inc {w : World} {y : Nat} {cs : Array Value} {P : Nat → List Pn} {B l m : Nat} (h : PyR w y cs P B) (hl : l < 17) (hB : B ≤ 1000000) (hv : cs[l]? = some (Value.map (some m))) (p : Pn) (hS : (P l).length ≤ 1000000) :
    ∃ c0 : Int, (Instr.lookup 55 (Value.map (some m)) (.int .u64 (codeAt l p)) false).run Try.prog w = .ok (.int .i64 c0) w ∧ IntKind.i64.wrap (c0 + 1) = c0 + 1 ∧
      ∃ w2, (Instr.mapUpdate 55 (Value.map (some m)) (.int .u64 (codeAt l p)) (.int .i64 (c0 + 1))).run Try.prog w = .ok () w2 ∧ PyR w2 y cs (updP P l (p :: P l)) (B + 1) ∧ Kp y cs w cs w2 := by
  obtain ⟨v, hv2, hL⟩ := h.hl l hl
  rw [hv] at hv2; cases hv2
  rcases hL with ⟨h1, _⟩ | ⟨m', n, h1, hn, hm⟩
  · cases h1
  cases h1
  have hlk := hm.look (codeAt l p) (codeAt_wf l p)
  rw [cH_get] at hlk
  have hwr : IntKind.i64.wrap ((cnt (P l) l (codeAt l p) : Int) + 1) = (cnt (P l) l (codeAt l p) : Int) + 1 := by
    have : cnt (P l) l (codeAt l p) ≤ (P l).length := List.countP_le_length
    rw [IntKind.wrap_i64]
    omega
  obtain ⟨w2, hst, hm2, hg2⟩ := hm.store (codeAt l p) (codeAt_wf l p) ((cnt (P l) l (codeAt l p) : Int) + 1) (by unfold maxLen; omega)
  rw [cH_cons, show (if (cH (P l) l (codeAt l p)).isSome then nd (List.map (codeAt l) (P l)) else nd (List.map (codeAt l) (P l)) + 1) = nd ((p :: P l).map (codeAt l)) by rw [nd_cons, cH_some]; by_cases h : cnt (P l) l (codeAt l p) = 0 <;> simp [h]] at hm2
  have HF := h.turn (C := B + 1) hl hv hg2 (by omega) (by omega) hm2
  exact ⟨_, hlk, hwr, w2, hst, HF.1, HF.2⟩
set_option maxRecDepth 100000 in
set_option maxHeartbeats 2000000 in
theorem add1_any (y bx : Nat) (cs : Array Value) (P : Nat → List Pn) (B l : Nat) (p : Pn) (w : World) (h : PyR w y cs P B) (hl : l < 17) (hB : B ≤ 1000000)
    (hbx : Blk w bx 25 #[.pointer (some ⟨y, 0, none⟩)]) (hS : (P l).length ≤ 1000000) (hox : Out y cs bx) :
    Calls Try.prog 30 #[.int .i64 (l : Int), .int .u64 (codeAt l p), .pointer (some ⟨bx, 0, none⟩)] w fun e w' => Add1P y cs P B l (p :: P l) w e w' := by
  have hli : (l : Int) < 17 := by omega
  have hl0 : ¬ (l : Int) < 0 := by omega
  have b0 := hbx.cell 0
  simp only [List.getElem?_toArray, List.getElem?_cons_zero] at b0
  obtain ⟨v, hv, hL⟩ := h.hl l hl
  have q0 : w.cell? ⟨y, l, none⟩ = some v := by rw [h.hq.cell]; exact hv
  have HBX := Lib.hid hbx; have HPY := Lib.hid h; have HV := Lib.hid hv
  clear hbx h hv
  have qT : ∀ (w : World) (r : Option Nat), (binOp .eql 55 (Value.map r) (Value.map none)).run Try.prog w = .ok (.bool r.isNone) w := fun w r => run_eql_map_nil w _ _ _ r Try.underlying55
  have hmm := @run_makeMap Try.prog
  have ba := Blk.cell (HBX.out.alloc (.map #[] 0)) 0
  simp only [List.getElem?_toArray, List.getElem?_cons_zero] at ba
  have qa : (w.alloc (.map #[] 0)).cell? ⟨y, l, none⟩ = some v := by rw [(HPY.out.alloc _).hq.cell]; exact HV.out
  have fa : (w.alloc (.map #[] 0)).frozen? ⟨y, l, none⟩ = false := (HPY.out.alloc _).hq.frozen l
  rcases hL with ⟨rfl, hPl⟩ | ⟨m, n, rfl, hn, hm⟩
  · clear hPl
    go_enter Try.func30, Try.ntmps30
    go_upto_region 2 with fail
    have HM := Lib.hid (HPY.out.make hl HV.out)
    have HW := Lib.hid (show (cs.setIfInBounds l (Value.map (some w.heap.size)))[l]? = some (Value.map (some w.heap.size)) by rw [Array.getElem?_setIfInBounds]; simp [HPY.out.hs, hl])
    have HB2 := Lib.hid (HM.out.2.blk HBX.out hox)
    clear qa fa ba q0 b0
    generalize cs.setIfInBounds l (Value.map (some w.heap.size)) = cs1 at *
    generalize ((w.alloc (Obj.map #[] 0)).setCell ⟨y, l, none⟩ (Value.map (some w.heap.size))) = W at *
    generalize w.heap.size = m at *
    obtain ⟨c0, hlk, hwr, w2, hst, h1, h2⟩ := HM.out.1.inc hl hB HW.out p hS
    have HF := Lib.hid (And.intro h1 (HM.out.2.trans h2)); clear h1 h2
    have b0 := HB2.out.cell 0
    simp only [List.getElem?_toArray, List.getElem?_cons_zero] at b0
    have q0 : W.cell? ⟨y, l, none⟩ = some (Value.map (some m)) := by rw [HM.out.1.hq.cell]; exact HW.out
    generalize hce : codeAt l p = cc at *
    go_wp2
    refine bodyPost_ret (v := .tuple #[]) ?_ rfl ?_
    · simp [results, Try.results30, go_sem, *]
    · exact ⟨rfl, cs1, HF.out.1, HF.out.2⟩
  · obtain ⟨c0, hlk, hwr, w2, hst, h1, h2⟩ := HPY.out.inc hl hB HV.out p hS
    have HF := Lib.hid (And.intro h1 h2); clear h1 h2 hm
    generalize hce : codeAt l p = cc at *
    go_enter Try.func30, Try.ntmps30
    go_wp2
    refine bodyPost_ret (v := .tuple #[]) ?_ rfl ?_
    · simp [results, Try.results30, go_sem, *]
    · exact ⟨rfl, cs, HF.out.1, HF.out.2⟩
end Go.Proofs.Ytdbiaijpbkmfhaa
