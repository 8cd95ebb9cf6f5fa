/- PolicyFaults, the walk. -/
import Derived.Test.YtileecbccmfpdaaGreatDoorPoK
import Derived.Test.YtileecbccmfpdaaGreatDoorPoS
import Derived.Test.YtileecbccmfpdaaGreatDoorLr7
import Derived.Deep.RegionHeld3
namespace Go.Proofs.YtileecbccmfpdaaGreatDoor
set_option linter.unusedVariables false
set_option linter.unusedSimpArgs false
open Go.RowKit
theorem nq_posV (a b c d : Int) (h : ¬ (a = c ∧ b = d)) (w : World) : (Op.equalIn 10000 25 (.agg #[.int .i64 a, .int .i64 b]) (.agg #[.int .i64 c, .int .i64 d])).run Tryz.prog w = .ok false w := by
  have u3 := Tryz.underlying3
  have a3 := Tryz.isAgg3
  have z3 := Tryz.sizeOf3
  have hS : Tryz.prog.underlying 25 = some (.struct (Tryz.prog.fieldsOf 25)) := by kernel_rfl
  have hp : Tryz.prog.stoodInHeld 25 = false := by kernel_rfl
  rw [show (10000 : Nat) = 9999 + 1 from rfl, run_equalIn_agg w 9999 25 _ _ hS hp]
  simp only [Program.fieldsOf, Tryz.underlying25]
  by_cases h1 : a = c
  · have h2 : (b == d) = false := beq_eq_false_iff_ne.2 (fun e => h ⟨h1, e⟩)
    subst h1
    go_simp
  · have h2 : (a == c) = false := beq_eq_false_iff_ne.2 h1
    go_simp
theorem below_of_drew {w w' : World} (h : Below w.drew.heap.size w.drew w') : Below w.heap.size w w' := ⟨h.os, h.tape, h.output, h.size, h.block⟩
theorem cell_below {w w' : World} {p : Addr} {v : Value} (hb : Below w.heap.size w w') (h : w.cell? p = some v) : w'.cell? p = some v := by
  obtain ⟨b, o, x⟩ := p
  have hl := World.block_lt_of_cell? w _ h
  simp only [World.cell?] at h ⊢
  rw [hb.block _ hl]
  exact h
attribute [local go_sem] ne_posV
set_option maxRecDepth 100000 in
set_option maxHeartbeats 4000000 in
theorem policyFaults_walk (l : Bs) (w : World) (hV : Vs w) (hs : Hs w) (hl : l.length ≤ 140737488355328) : Calls Tryz.prog 8 #[.string (bs l)] w fun e w' => e = .returned (.bool true) ∧ Below w.heap.size w w' := by
  have HVB := Lib.hid (show ∀ w', Below w.heap.size w w' → Vs w' from fun w' hb => hV.below hb)
  have HHB := Lib.hid (show ∀ w', Below w.heap.size w w' → Hs w' from fun w' hb => hs.low hb)
  have HP := Lib.hid (parse_any l w hV hs hs.lt hl)
  have HPA := Lib.hid (parse_place l)
  have HPL := Lib.hid (fun W at0 h => place_any (bs l) at0 W (by rw [bs_size]; exact hl) (by rw [bs_size]; exact h))
  have hbl : (bs l).data.toList = l := by simp [bs]
  rw [hbl] at HPL
  have HLN := Lib.hid hl
  clear hbl hV hs hl
  unfold ParseP at HP
  generalize parseP l = R at *
  go_enter Tryz.func8, Tryz.ntmps8
  go_wp2_with fail
  refine HP.out.mono ?_
  rintro e w1 ⟨v1, rfl, hD1, hb1⟩
  obtain ⟨acc1, _, hDR1⟩ := hD1.rd
  obtain ⟨A1, c1, rfl, _, _⟩ := id hDR1.1
  have ha1 := pfault_below w1 #[.int .i64 (flE R.2), .int .i64 (flP R.2).1, .int .i64 (flP R.2).2]
  have HB1 := Lib.hid (hb1.trans (ha1.mono hb1.size))
  have HF1 := Lib.hid (Blk.new w1 27 #[.int .i64 (flE R.2), .int .i64 (flP R.2).1, .int .i64 (flP R.2).2])
  clear hD1 hDR1 hb1 ha1 HP
  go_upto_region 2 with fail
  generalize hq1 : w1.heap.size = q1 at *
  generalize (w1.alloc (.cells #[.int .i64 (flE R.2), .int .i64 (flP R.2).1, .int .i64 (flP R.2).2] 27)) = W1 at *
  have f0 : W1.cell? ⟨q1, 0, none⟩ = some (.int .i64 (flE R.2)) := HF1.out.cell 0
  by_cases h31 : flE R.2 = 31
  · obtain ⟨L, f⟩ := R
    simp only at *
    cases f with
    | none => exact absurd h31 (by decide)
    | some fl =>
      obtain ⟨o, ho, hpo⟩ := HPA.out fl rfl
      have HO := Lib.hid hpo
      clear HPA hpo
      generalize flE (some fl) = fe at *
      subst h31
      have HFC := Lib.hid (show Blk W1 q1 27 #[.int .i64 31, .int .i64 (flP (some fl)).1, .int .i64 (flP (some fl)).2] from HF1.out)
      rw [show flP (some fl) = fl.2 from rfl] at HFC
      clear HF1
      generalize fl.2 = q at *
      go_upto_region 5 with fail
      clear f0
      go_loopw [5] (fun a wr => ∃ (t : Nat), t ≤ o ∧ a = .int .i64 t ∧ Hid (Below w.heap.size w wr ∧ Blk wr q1 27 #[.int .i64 31, .int .i64 q.1, .int .i64 q.2])) (fun a _ => o - (intOf a).toNat)
      case atStart => exact ⟨0, by omega, rfl, Lib.hid ⟨HB1.out, HFC.out⟩⟩
      case round =>
        rename_i wr
        clear HFC HB1
        obtain ⟨t, ht, rfl, HR⟩ := hrel
        have c1 : wr.cell? ⟨q1, 1, none⟩ = some (.int .i64 q.1) := HR.out.2.cell 1
        have c2 : wr.cell? ⟨q1, 2, none⟩ = some (.int .i64 q.2) := HR.out.2.cell 2
        have hts : (t : Int) ≤ ((bs l).size : Int) := by rw [bs_size]; omega
        have HPP := Lib.hid (fun W => HPL.out W t (by omega))
        by_cases hto : t < o
        · have HNE := pl_inj l hto (by omega)
          rw [← HO.out] at HNE
          generalize advs (1, 1) (l.take t) = p at *
          have hnq := nq_posV p.1 p.2 q.1 q.2 (fun h => HNE (Prod.ext h.1 h.2))
          clear HNE
          go_wp2_with fail
          go_region_held3 (fun w' => w'.cell? ⟨q1, 1, none⟩ = some (.int .i64 q.1) ∧ w'.cell? ⟨q1, 2, none⟩ = some (.int .i64 q.2)) (first | (refine ⟨?_, ?_⟩ <;> first | (exact cell_later (by assumption) (by assumption))) | (go_split_ands; refine ⟨?_, ?_⟩ <;> first | (exact cell_later (by assumption) (by assumption)) | go_keep))
            ((go_at_call 17; refine (HPP.out _).mono ?_; rintro e w9 ⟨rfl, hb9⟩; have HQ := Lib.hid (And.intro (HR.out.1.trans (Below.mono (show Below wr.heap.size wr w9 by first | exact hb9 | exact below_of_drew hb9) HR.out.1.size)) (Blk.thru0 HR.out.2 (show Below wr.heap.size wr w9 by first | exact hb9 | exact below_of_drew hb9)))))
          all_goals
            go_split_ands
            have htb : (t : Int) < 9223372036854775807 := by have := HLN.out; omega
            go_wp2_with fail
            go_roundw
            case rel => exact ⟨t + 1, by omega, by go_num, HQ⟩
            case measure => simp [intOf]; omega
        · obtain rfl : t = o := by omega
          rw [← HO.out] at HPP
          clear HO
          go_wp2_with fail
          go_region_held3 (fun w' => w'.cell? ⟨q1, 1, none⟩ = some (.int .i64 q.1) ∧ w'.cell? ⟨q1, 2, none⟩ = some (.int .i64 q.2)) (first | (refine ⟨?_, ?_⟩ <;> first | (exact cell_later (by assumption) (by assumption))) | (go_split_ands; refine ⟨?_, ?_⟩ <;> first | (exact cell_later (by assumption) (by assumption)) | go_keep))
            ((go_at_call 17; refine (HPP.out _).mono ?_; rintro e w9 ⟨rfl, hb9⟩; have HQ := Lib.hid (And.intro (HR.out.1.trans (Below.mono (show Below wr.heap.size wr w9 by first | exact hb9 | exact below_of_drew hb9) HR.out.1.size)) (Blk.thru0 HR.out.2 (show Below wr.heap.size wr w9 by first | exact hb9 | exact below_of_drew hb9)))))
          all_goals
            go_split_ands
            go_wp2_with fail
            refine (pknown_any _ (HVB.out _ HQ.out.1) (HHB.out _ HQ.out.1)).mono ?_
            rintro e w6 ⟨rfl, hb6⟩
            have HB6 := Lib.hid (HQ.out.1.trans (hb6.mono HQ.out.1.size))
            clear hb6
            go_wp2_with fail
            go_ret
            exact ⟨rfl, HB6.out⟩
  · have hne : (flE R.2 != 31) = true := by simp [bne, h31]
    clear HPA HF1 HPL
    generalize flE R.2 = fe at *
    go_wp2_with fail
    refine (pknown_any _ (HVB.out _ HB1.out) (HHB.out _ HB1.out)).mono ?_
    rintro e w6 ⟨rfl, hb6⟩
    have HB6 := Lib.hid (HB1.out.trans (hb6.mono HB1.out.size))
    clear hb6
    go_wp2_with fail
    go_ret
    exact ⟨rfl, HB6.out⟩
end Go.Proofs.YtileecbccmfpdaaGreatDoor
