/- pyramid: a level's count, one less. -/
import Derived.Test.YtdbiaijpbkmfhaaPy3
namespace Go.Proofs.Ytdbiaijpbkmfhaa
set_option linter.unusedVariables false
set_option linter.unusedSimpArgs false
open Go.RowKit
theorem nd_pos {p : Pn} {S : List Pn} {l : Nat} : 1 ≤ nd ((p :: S).map (codeAt l)) := by
  rw [List.map_cons]
  induction S generalizing p with
  | nil => simp [nd]
  | cons q S ih =>
    rw [nd]
    split
    · exact ih
    · omega
theorem cH_less (p : Pn) (S : List Pn) (l : Nat) (h : cnt S l (codeAt l p) ≠ 0) : putH (cH (p :: S) l) (codeAt l p) ((cnt (p :: S) l (codeAt l p) : Int) - 1) = cH S l := by
  funext j
  unfold putH cH
  rw [cnt_cons, cnt_cons]
  by_cases hj : j = codeAt l p
  · subst hj
    rw [if_pos rfl, if_neg h, if_pos rfl]
    congr 1
    omega
  · rw [if_neg hj, if_neg hj]
theorem cH_gone (p : Pn) (S : List Pn) (l : Nat) (n : Int) (h : cnt S l (codeAt l p) = 0) : delH (putH (cH (p :: S) l) (codeAt l p) n) (codeAt l p) = cH S l := by
  funext j
  unfold delH putH cH
  rw [cnt_cons]
  by_cases hj : j = codeAt l p
  · subst hj
    rw [if_pos rfl, h]; simp
  · simp [hj]
/-- One less at a code. -/
theorem PyR.dec {w : World} {y : Nat} {cs : Array Value} {P : Nat → List Pn} {B l m : Nat} (h : PyR w y cs P B) (hl : l < 17) (hB : B ≤ 1000000) (hv : cs[l]? = some (Value.map (some m))) (p : Pn) (S : List Pn) (hp : (P l).Perm (p :: S)) (hS : (P l).length ≤ 1000000) :
    ∃ c0 : Int, (Instr.lookup 55 (Value.map (some m)) (.int .u64 (codeAt l p)) false).run Try.prog w = .ok (.int .i64 c0) w ∧ IntKind.i64.wrap (c0 - 1) = c0 - 1 ∧
      ∃ w2, (Instr.mapUpdate 55 (Value.map (some m)) (.int .u64 (codeAt l p)) (.int .i64 (c0 - 1))).run Try.prog w = .ok () w2 ∧ w.grownBy w2 (some m) ∧
        (Instr.lookup 55 (Value.map (some m)) (.int .u64 (codeAt l p)) false).run Try.prog w2 = .ok (.int .i64 (c0 - 1)) w2 ∧
        ((c0 - 1 ≠ 0 ∧ PyR w2 y cs (updP P l S) (B + 1) ∧ Kp y cs w cs w2) ∨ (c0 - 1 = 0 ∧ ∃ w3, (Builtin.delete_ #[55, 60] 0 #[Value.map (some m), .int .u64 (codeAt l p)]).run Try.prog w2 = .ok (.tuple #[]) w3 ∧ PyR w3 y cs (updP P l S) (B + 1) ∧ Kp y cs w cs w3)) := by
  obtain ⟨v, hv2, hL⟩ := h.hl l hl
  rw [hv] at hv2; cases hv2
  have hL2 := hL.perm hp
  rcases hL2 with ⟨h1, _⟩ | ⟨m', n, h1, hn, hm⟩
  · cases h1
  cases h1
  have hlk := hm.look (codeAt l p) (codeAt_wf l p)
  rw [cH_get] at hlk
  have hle : cnt (p :: S) l (codeAt l p) ≤ (p :: S).length := List.countP_le_length
  have hlen := hp.length_eq
  have hwr : IntKind.i64.wrap ((cnt (p :: S) l (codeAt l p) : Int) - 1) = (cnt (p :: S) l (codeAt l p) : Int) - 1 := by
    rw [IntKind.wrap_i64]
    omega
  obtain ⟨w2, hst, hm2, hg2⟩ := hm.store (codeAt l p) (codeAt_wf l p) ((cnt (p :: S) l (codeAt l p) : Int) - 1) (by unfold maxLen; omega)
  have hlk2 := hm2.look (codeAt l p) (codeAt_wf l p)
  rw [show (putH (cH (p :: S) l) (codeAt l p) ((cnt (p :: S) l (codeAt l p) : Int) - 1) (codeAt l p)).getD 0 = (cnt (p :: S) l (codeAt l p) : Int) - 1 by simp [putH]] at hlk2
  have hcc := cnt_cons p S l (codeAt l p)
  rw [if_pos rfl] at hcc
  have hsome : (cH (p :: S) l (codeAt l p)).isSome = true := by rw [cH_some, hcc]; simp
  rw [if_pos hsome] at hm2
  refine ⟨_, hlk, hwr, w2, hst, hg2, hlk2, ?_⟩
  by_cases h0 : cnt S l (codeAt l p) = 0
  · right
    refine ⟨by rw [hcc, h0]; rfl, ?_⟩
    obtain ⟨w3, hd, hm3, hg3⟩ := hm2.drop (codeAt l p) (codeAt_wf l p) 0
    rw [cH_gone p S l _ h0, show (if (putH (cH (p :: S) l) (codeAt l p) ((cnt (p :: S) l (codeAt l p) : Int) - 1) (codeAt l p)).isSome then 1 else 0) = 1 by simp [putH], nd_cons, if_pos h0, Nat.add_sub_cancel] at hm3
    have hg : w.grownBy w3 (some m) := hg2.trans hg3
    have HF := h.turn (C := B + 1) hl hv hg (by omega) (by omega) hm3
    exact ⟨w3, hd, HF.1, HF.2⟩
  · left
    refine ⟨by rw [hcc]; omega, ?_⟩
    rw [cH_less p S l h0, nd_cons, if_neg h0] at hm2
    exact h.turn (C := B + 1) hl hv hg2 (by omega) (by omega) hm2
set_option maxRecDepth 100000 in
set_option maxHeartbeats 2000000 in
theorem rem1_any (y bx : Nat) (cs : Array Value) (P : Nat → List Pn) (B l : Nat) (p : Pn) (S : List Pn) (w : World) (h : PyR w y cs P B) (hl : l < 17) (hB : B ≤ 1000000)
    (hbx : Blk w bx 25 #[.pointer (some ⟨y, 0, none⟩)]) (hp : (P l).Perm (p :: S)) (hS : (P l).length ≤ 1000000) (hox : Out y cs bx) :
    Calls Try.prog 33 #[.int .i64 (l : Int), .int .u64 (codeAt l p), .pointer (some ⟨bx, 0, none⟩)] w fun e w' => Add1P y cs P B l S w e w' := by
  have hli : (l : Int) < 17 := by omega
  have hl0 : ¬ (l : Int) < 0 := by omega
  have b0 := hbx.cell 0
  simp only [List.getElem?_toArray, List.getElem?_cons_zero] at b0
  obtain ⟨v, hv, hL⟩ := h.hl l hl
  have q0 : w.cell? ⟨y, l, none⟩ = some v := by rw [h.hq.cell]; exact hv
  have HBX := Lib.hid hbx; have HPY := Lib.hid h; have HV := Lib.hid hv; have HP := Lib.hid hp
  clear hbx h hv hp
  rcases hL with ⟨rfl, hPl⟩ | ⟨m, n, rfl, hn, hm⟩
  · have := HP.out; rw [hPl] at this; exact absurd this.length_eq (by simp)
  · obtain ⟨c0, hlk, hwr, w2, hst, hg2, hlk2, hor⟩ := HPY.out.dec hl hB HV.out p S HP.out hS
    clear hm
    have HB2 := Lib.hid (HBX.out.grown hg2 (fun e => by injection e with e; exact hox.2 l (by rw [HV.out, e])))
    have b2 := HB2.out.cell 0
    simp only [List.getElem?_toArray, List.getElem?_cons_zero] at b2
    have hmy : y ≠ m := by
      intro e
      obtain ⟨v, hv2, hL⟩ := HPY.out.hl l hl
      rw [HV.out] at hv2; cases hv2
      rcases hL with ⟨h1, _⟩ | ⟨m', n, h1, _, h3⟩
      · cases h1
      · cases h1
        obtain ⟨D, ⟨es, clock, hb, _⟩, _⟩ := h3
        have := HPY.out.hq
        unfold Blk at this
        rw [e, hb] at this
        cases this
    have q2 : w2.cell? ⟨y, l, none⟩ = some (Value.map (some m)) := by
      rw [(HPY.out.hq.grown hg2 (fun e => hmy (by injection e))).cell]; exact HV.out
    clear hmy hg2
    generalize hce : codeAt l p = cc at *
    rcases hor with ⟨hne, h1, h2⟩ | ⟨heq, w3, hd, h1, h2⟩
    · have HF := Lib.hid (And.intro h1 h2); clear h1 h2
      generalize hcz : c0 - 1 = c1 at *
      have hcb : (c1 == 0) = false := by simpa using hne
      go_enter Try.func33, Try.ntmps33
      go_wp2
      refine bodyPost_ret (v := .tuple #[]) ?_ rfl ?_
      · simp [results, Try.results33, go_sem, *]
      · exact ⟨rfl, cs, HF.out.1, HF.out.2⟩
    · have HF := Lib.hid (And.intro h1 h2); clear h1 h2
      rw [heq] at hst hlk2
      obtain rfl : c0 = 1 := by omega
      clear heq hwr
      go_enter Try.func33, Try.ntmps33
      go_wp2
      refine bodyPost_ret (v := .tuple #[]) ?_ rfl ?_
      · simp [results, Try.results33, go_sem, *]
      · exact ⟨rfl, cs, HF.out.1, HF.out.2⟩
end Go.Proofs.Ytdbiaijpbkmfhaa
