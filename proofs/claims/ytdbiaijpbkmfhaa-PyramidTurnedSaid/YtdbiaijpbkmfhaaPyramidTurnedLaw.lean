/- PyramidTurned: (P8.4) in which order points come does not matter, and what is added and taken away leaves nothing behind. Conditions: none. -/
import Derived.Test.YtdbiaijpbkmfhaaPyD
import Derived.Test.YtdbiaijpbkmfhaaPyF
import Derived.Test.YtdbiaijpbkmfhaaPyP
import Derived.Lib.SmallJoins
namespace Go.Proofs.Ytdbiaijpbkmfhaa.pyramidTurned
set_option linter.unusedVariables false
set_option linter.unusedSimpArgs false
open Go.ChangeShapes Go.WideShapes Go.ChangeAt Go.RowKit
open Go.ChangeMaps (open_string shut_string)
theorem below_drew1 {B : Nat} {a w : World} (h : Below B a w) : Below B a w.drew := ⟨h.os, h.tape, h.output, h.size, h.block⟩
theorem have_srt (S : List Pn) : ∀ k, Srt (haveK S k) := by
  intro k
  induction k with
  | zero => exact List.Pairwise.nil
  | succ k ih =>
    rw [haveK]
    split
    · exact ins_srt _ _ ih
    · exact ih
/-- Those that may be. -/
def ft (L : List Pn) : List Pn := L.filter fun p => fitsB p.1 p.2
theorem ft_fit (L : List Pn) : FitS (ft L) := fun q hq => (List.mem_filter.1 hq).2
theorem ft_len (L : List Pn) : (ft L).length ≤ L.length := List.length_filter_le _ _
theorem ft_take {M : List Pn} {k : Nat} (hk : k < M.length) : (addS (ft (M.take k)) (at_ M k)).Perm (ft (M.take (k + 1))) := by
  simp only [ft]
  rw [take_more hk, List.filter_append, addS]
  cases hf : fitsB (at_ M k).1 (at_ M k).2 with
  | true => simp only [List.filter_cons, hf, if_true, List.filter_nil]; exact (List.perm_append_singleton _ _).symm
  | false => simp [List.filter_cons, hf]
theorem drop_more {M : List Pn} {k : Nat} (hk : k < M.length) : M.drop k = at_ M k :: M.drop (k + 1) := by rw [at_get hk]; exact (List.drop_eq_getElem_cons hk)
theorem ft_drop {M : List Pn} {k : Nat} (hk : k < M.length) : ft (M.drop k) = if fitsB (at_ M k).1 (at_ M k).2 = true then at_ M k :: ft (M.drop (k + 1)) else ft (M.drop (k + 1)) := by
  rw [drop_more hk, ft, List.filter_cons]
  rfl
theorem fit_app {A B : List Pn} (ha : FitS A) (hb : FitS B) : FitS (A ++ B) := fun q hq => by
  rcases List.mem_append.1 hq with h | h
  · exact ha q h
  · exact hb q h
theorem rem_ft {M H : List Pn} {k : Nat} (hk : k < M.length) (hH : FitS H) : (ft (M.drop k) ++ H).erase (at_ M k) = ft (M.drop (k + 1)) ++ H ∧ decide (at_ M k ∈ ft (M.drop k) ++ H) = fitsB (at_ M k).1 (at_ M k).2 := by
  rw [ft_drop hk]
  cases hf : fitsB (at_ M k).1 (at_ M k).2 with
  | true => simp
  | false =>
    have hn : at_ M k ∉ ft (M.drop (k + 1)) ++ H := fun hm => by
      have := fit_app (ft_fit _) hH _ hm
      rw [hf] at this; cases this
    simp only [Bool.false_eq_true, if_false]
    exact ⟨List.erase_of_not_mem hn, decide_eq_false hn⟩
/-- The second pyramid, made since w. -/
structure ZT (w : World) (z : Nat) (cz : Array Value) (T : List Pn) (B : Nat) (wr : World) : Prop where
  py : PyR wr z cz (fun _ => T) B
  bel : Below w.heap.size w wr
  ge : w.heap.size ≤ z
  cse : ∀ l i : Nat, cz[l]? = some (Value.map (some i)) → w.heap.size ≤ i
theorem ZT.act {w wr X : World} {z : Nat} {cz cz' : Array Value} {T T' : List Pn} {B C : Nat} (h : ZT w z cz T B wr) (hp : PyR X z cz' (fun _ => T') C) (hk : Kp z cz wr cz' X) : ZT w z cz' T' C X := by
  refine ⟨hp, below_kp h.bel hk fun i hi => ⟨by have := h.ge; omega, fun l e => by have := h.cse l i e; omega⟩, h.ge, fun l i e => ?_⟩
  rcases hk.2.2.2.2.2 l i e with ⟨k, hk2⟩ | hk2
  · exact h.cse k i hk2
  · have := h.bel.size; omega
theorem ZT.below {w wr X : World} {z : Nat} {cz : Array Value} {T : List Pn} {B : Nat} (h : ZT w z cz T B wr) (hb : Below wr.heap.size wr X) : ZT w z cz T B X := ⟨h.py.below hb, below_trans h.bel hb, h.ge, h.cse⟩
theorem ZT.perm {w wr : World} {z : Nat} {cz : Array Value} {T T' : List Pn} {B C : Nat} (h : ZT w z cz T B wr) (hp : T.Perm T') (hB : B ≤ C) : ZT w z cz T' C wr := ⟨(h.py.perm fun _ => hp).more hB, h.bel, h.ge, h.cse⟩
set_option maxRecDepth 100000 in
set_option maxHeartbeats 16000000 in
theorem walk (a : Option Addr) (len cap0 : Nat) (b : Option Addr) (len1 cap1 : Nat) (w : World) (h : IsSl w 2 (PntOk w) a len cap0) (h' : IsSl w 2 (PntOk w) b len1 cap1) :
    Calls Try.prog 6 #[.slice a len cap0, .slice b len1 cap1] w fun e w' => e = .returned (.bool true) ∧ Below w.heap.size w w' := by
  have hlc := h.le
  obtain ⟨hlc1, hlc2⟩ := hlc
  have hld := h'.le
  obtain ⟨hld1, hld2⟩ := hld
  unfold maxLen at hlc2 hld2
  obtain ⟨S, hS⟩ := rd_of h
  obtain ⟨M, hM⟩ := rd_of h'
  have HS := Lib.hid hS
  have HM := Lib.hid hM
  clear h h' hS hM
  by_cases hbig : 100 < len
  · have hbi : (100 : Int) < (len : Int) := by omega
    go_enter Try.func6, Try.ntmps6
    go_wp2_with fail
    refine (built_big a len cap0 _ hbig).mono ?_
    rintro e w1 ⟨rfl, hb1⟩
    have HB := Lib.hid hb1
    clear hb1
    go_wp2_with fail
    refine (new_any _).mono ?_
    rintro e w2 ⟨z, cz, rfl, -, hb, -⟩
    have HB2 := Lib.hid (below_trans HB.out hb)
    clear hb
    go_wp2_with fail
    refine (pyknown_any _).mono ?_
    rintro e w3 ⟨rfl, hb2⟩
    have HB3 := Lib.hid (below_trans HB2.out hb2)
    clear hb2
    go_wp2
    go_ret
    exact ⟨rfl, HB3.out⟩
  · have hbi : (len : Int) ≤ 100 := by omega
    have HBT := Lib.hid (built_any a len cap0 S _ HS.out (by omega))
    have HHS := Lib.hid (have_srt S len)
    have HHF := Lib.hid (haveK_fit S len)
    have hlen := haveK_len S len
    go_enter Try.func6, Try.ntmps6
    go_wp2_with fail
    refine HBT.out.mono ?_
    rintro e w1 ⟨y, cs, A1, c1, rfl, hp⟩
    have HB1 := Lib.hid hp.2.2.1
    have HPY := Lib.hid hp.1
    have HRD := Lib.hid hp.2.1.rd
    clear hp HBT HS
    generalize haveK S len = H at *
    have hHl : H.length ≤ 100 := by omega
    go_wp2_with fail
    refine (new_any _).mono ?_
    rintro e w2 ⟨z, cz, rfl, h2, hb2, ho2⟩
    have HB2 := Lib.hid (below_trans HB1.out hb2)
    have HZ0 := Lib.hid (show ZT w1 z cz [] 0 w2 from ⟨h2, hb2, Nat.le_of_not_lt fun e => (ho2 z e).1 rfl, fun l i e => Nat.le_of_not_lt fun e2 => (ho2 i e2).2 l e⟩)
    clear h2 hb2 ho2
    by_cases hbig1 : 100 < len1
    · have hbj : (100 : Int) < (len1 : Int) := by omega
      go_wp2_with fail
      refine (pyknown_any _).mono ?_
      rintro e w3 ⟨rfl, hb3⟩
      have HB3 := Lib.hid (below_trans HB2.out hb3)
      clear hb3
      go_wp2
      go_ret
      exact ⟨rfl, HB3.out⟩
    · have hbj : (len1 : Int) ≤ 100 := by omega
      have HRM := Lib.hid (fun (W : World) (hW : Below w1.heap.size w1 W) => HM.out.below (below_trans HB1.out hW))
      have hMl : M.length = len1 := HM.out.1
      have HML := Lib.hid hMl
      clear HM hMl
      go_wp2_with fail
      go_loopw [8] (fun i wr => ∃ (k : Nat) (cz : Array Value), k ≤ len1 ∧ i = .int .i64 k ∧ Hid (ZT w1 z cz (ft (M.take k)) (17 * k) wr)) (fun i _ => len1 - (intOf i).toNat)
      case atStart => exact ⟨0, cz, Nat.zero_le _, rfl, HZ0⟩
      case round =>
        clear HZ0
        obtain ⟨k, cz, hk, rfl, HR⟩ := hrel
        by_cases hlt : k < len1
        · have hki : (k : Int) < (len1 : Int) := by omega
          obtain ⟨g, off, rfl, a0, a1⟩ := (HRM.out wr HR.out.bel).cell hlt
          have HFT := Lib.hid (ft_take (M := M) (k := k) (by rw [HML.out]; exact hlt))
          have hfl := ft_len (M.take k)
          rw [List.length_take] at hfl
          have HAD := Lib.hid (add_any z cz (ft (M.take k)) (17 * k) (at_ M k) wr HR.out.py (by omega) (by omega))
          generalize at_ M k = p at *
          generalize fitsB p.1 p.2 = bb at *
          go_wp2_with fail
          refine HAD.out.mono ?_
          rintro e w3 ⟨rfl, cz3, hp3, hk3⟩
          have HN := Lib.hid (show ZT w1 z cz3 (ft (M.take (k + 1))) (17 * (k + 1)) w3 from (HR.out.act hp3 hk3).perm HFT.out (by omega))
          clear hp3 hk3 HAD HFT hfl
          go_wp2
          go_roundw
          case rel => exact ⟨k + 1, cz3, by omega, by go_num, HN⟩
          case measure => simp [intOf]; omega
        · obtain rfl : k = len1 := by omega
          have HZ1 := Lib.hid (show ZT w1 z cz (ft M ++ H.drop H.length) (17 * k + 17 * 0) wr from by
            have h9 := HR.out
            rw [List.take_of_length_le (by rw [HML.out]; exact Nat.le_refl _)] at h9
            rw [List.drop_length, List.append_nil]; exact h9)
          have hfl := ft_len M
          clear HR
          go_wp2_with fail
          go_loopw [9] (fun i wr => ∃ (j : Nat) (cz : Array Value), j ≤ H.length ∧ i = .int .i64 ((j : Int) - 1) ∧ Hid (ZT w1 z cz (ft M ++ H.drop j) (17 * k + 17 * (H.length - j)) wr)) (fun i _ => (intOf i + 1).toNat)
          case atStart => exact ⟨H.length, cz, Nat.le_refl _, rfl, by rw [Nat.sub_self]; exact HZ1⟩
          case round =>
            clear HZ1
            obtain ⟨j, cz, hj, rfl, HR⟩ := hrel
            cases j with
            | succ j =>
              have e3 : ((j + 1 : Nat) : Int) - 1 = (j : Int) := by omega
              rw [e3]; clear e3
              have hji : (j : Int) < (H.length : Int) := by omega
              obtain ⟨g, off, rfl, a0, a1⟩ := (HRD.out.below HR.out.bel).cell (show j < H.length by omega)
              have HDM := Lib.hid (drop_more (M := H) (k := j) (by omega))
              have hdl : (H.drop (j + 1)).length ≤ 100 := by rw [List.length_drop]; omega
              have HAD := Lib.hid (add_any z cz (ft M ++ H.drop (j + 1)) (17 * k + 17 * (H.length - (j + 1))) (at_ H j) wr HR.out.py (by omega) (by rw [List.length_append]; have := HML.out; omega))
              have hff : fitsB (at_ H j).1 (at_ H j).2 = true := HHF.out _ (by rw [at_get (show j < H.length by omega)]; exact List.getElem_mem _)
              have HAS := Lib.hid (show addS (ft M ++ H.drop (j + 1)) (at_ H j) = at_ H j :: (ft M ++ H.drop (j + 1)) by rw [addS, if_pos hff])
              rw [hff] at HAD
              clear hff
              generalize at_ H j = p at *
              go_wp2_with fail
              refine HAD.out.mono ?_
              rintro e w3 ⟨rfl, cz3, hp3, hk3⟩
              have HN := Lib.hid (show ZT w1 z cz3 (ft M ++ H.drop j) (17 * k + 17 * (H.length - j)) w3 from (HR.out.act hp3 hk3).perm (by rw [HAS.out, HDM.out]; exact List.perm_middle.symm) (by omega))
              clear hp3 hk3 HAD HDM hdl
              go_wp2
              go_roundw
              case rel => exact ⟨j, cz3, by omega, by first | rfl | (congr 1; omega), HN⟩
              case measure => simp [intOf] <;> omega
            | zero =>
              have HZ2 := Lib.hid (show ZT w1 z cz (ft (M.drop 0) ++ H) (17 * k + 17 * H.length + 17 * 0) wr from by
                have h9 := HR.out
                simpa using h9)
              clear HR
              have e3 : ((0 : Nat) : Int) - 1 = -1 := by omega
              rw [e3]; clear e3
              go_wp2_with fail
              go_loopw [10] (fun i wr => ∃ (q : Nat) (cz : Array Value), q ≤ k ∧ i = .int .i64 q ∧ Hid (ZT w1 z cz (ft (M.drop q) ++ H) (17 * k + 17 * H.length + 17 * q) wr)) (fun i _ => k - (intOf i).toNat)
              case atStart => exact ⟨0, cz, Nat.zero_le _, rfl, HZ2⟩
              case round =>
                clear HZ2
                obtain ⟨q, cz, hq, rfl, HR⟩ := hrel
                by_cases hlt2 : q < k
                · have hqi : (q : Int) < (k : Int) := by omega
                  obtain ⟨g, off, rfl, a0, a1⟩ := (HRM.out wr HR.out.bel).cell hlt2
                  have HRF := Lib.hid (rem_ft (M := M) (H := H) (k := q) (by rw [HML.out]; exact hlt2) HHF.out)
                  have hfd := ft_len (M.drop q)
                  rw [List.length_drop] at hfd
                  have HRE := Lib.hid (fun (W : World) (hW : Below wr.heap.size wr W) => rem_any z cz (ft (M.drop q) ++ H) (17 * k + 17 * H.length + 17 * q) (at_ M q) W (HR.out.py.below hW) (by omega) (by rw [List.length_append]; have := HML.out; omega) (fit_app (ft_fit _) HHF.out))
                  have HFI := Lib.hid (ref_fits (at_ M q).1 (at_ M q).2)
                  rw [HRF.out.2, HRF.out.1] at HRE
                  have HCE := Lib.hid (show ∀ (W : World), Below w1.heap.size w1 W → W.cell? ⟨g, off + q * 2, none⟩ = some (.int .i64 (at_ M q).1) ∧ W.cell? ⟨g, off + q * 2 + 1, none⟩ = some (.int .i64 (at_ M q).2) from fun W hW => by
                    obtain ⟨g', off', e, h0, h1⟩ := (HRM.out W hW).cell hlt2
                    simp only [Option.some.injEq, Addr.mk.injEq] at e
                    obtain ⟨rfl, rfl, _⟩ := e
                    exact ⟨h0, h1⟩)
                  clear HRF hfd
                  generalize at_ M q = p at *
                  generalize hbb : fitsB p.1 p.2 = bb at *
                  clear hbb
                  generalize hT2 : ft (M.drop (q + 1)) ++ H = T2 at *
                  have hd : Below wr.heap.size wr wr.drew := below_drew1 (Below.refl _ _)
                  have HD := Lib.hid hd
                  have HS0 := Lib.hid (HCE.out wr.drew (below_trans HR.out.bel hd))
                  clear hd
                  have hne : (bb != bb) = false := by cases bb <;> rfl
                  go_wp2_with fail
                  go_region_held3 (fun w' => w'.cell? ⟨g, off + q * 2, none⟩ = some (.int .i64 p.1) ∧ w'.cell? ⟨g, off + q * 2 + 1, none⟩ = some (.int .i64 p.2)) (with_reducible (first | exact HS0.out | exact HSa.out | exact HSb.out))
                    (first
                      | (go_at_call 13; (with_reducible (refine (HRE.out wr.drew HD.out).mono ?_)); rintro e w9 ⟨rfl, cz9, hp9, hk9⟩; have HX := Lib.hid (((HR.out.below HD.out).act hp9 hk9).perm (List.Perm.refl _) (Nat.le_refl _)); have HSa := Lib.hid (HCE.out w9 HX.out.bel); clear hp9 hk9)
                      | (go_at_call 13; (with_reducible (refine (HRE.out w8 HBF.out).mono ?_)); rintro e w9 ⟨rfl, cz9, hp9, hk9⟩; have HX := Lib.hid (((HR.out.below HBF.out).act hp9 hk9).perm (List.Perm.refl _) (Nat.le_refl _)); have HSb := Lib.hid (HCE.out w9 HX.out.bel); clear hp9 hk9)
                      | (go_at_call 11; (with_reducible (refine (HFI.out wr.drew).mono ?_)); rintro e w8 ⟨rfl, hb8⟩; have HBF := Lib.hid (below_trans HD.out hb8); have HSa := Lib.hid (HCE.out w8 (below_trans HR.out.bel HBF.out)); clear hb8)
                      | (go_at_call 11; (with_reducible (refine (HFI.out w9).mono ?_)); rintro e w8 ⟨rfl, hb8⟩; have HY := Lib.hid (HX.out.below hb8); have HSb := Lib.hid (HCE.out w8 HY.out.bel); clear hb8))
                  all_goals
                    go_wp2
                    go_roundw
                    case rel => exact ⟨q + 1, cz9, by omega, by go_num, by rw [hT2]; first | exact HY | exact HX⟩
                    case measure => simp [intOf]; omega
                · obtain rfl : q = k := by omega
                  have HZ3 := Lib.hid (show ZT w1 z cz H (17 * q + 17 * H.length + 17 * q) wr from by
                    have h9 := HR.out
                    rw [List.drop_of_length_le (by rw [HML.out]; exact Nat.le_refl _)] at h9
                    exact h9)
                  clear HR
                  have HP1 := Lib.hid (points_any y cs H _ wr (HPY.out.below HZ3.out.bel) HHF.out (by omega))
                  have HP2 := Lib.hid (fun W (hW : Below wr.heap.size wr W) => points_any z cz H _ W (HZ3.out.py.below hW) HHF.out (by omega))
                  have HC1 := Lib.hid (fun W (hW : Below wr.heap.size wr W) => cells_any y cs H _ W ((HPY.out.below HZ3.out.bel).below hW) (by omega))
                  have HC2 := Lib.hid (fun W (hW : Below wr.heap.size wr W) => cells_any z cz H _ W (HZ3.out.py.below hW) (by omega))
                  have HUQ := Lib.hid (fun (L1 L2 : List Pn) (h1 : L1.Perm H) (s1 : Srt L1) (h2 : L2.Perm H) (s2 : Srt L2) => srt_uniq s1 s2 (h1.trans h2.symm) (fun p hp => HHF.out p (h1.mem_iff.1 hp)))
                  have HWR := Lib.hid (show Below w.heap.size w wr from below_trans HB1.out HZ3.out.bel)
                  generalize cellsN H 17 = nc at *
                  go_wp2_with fail
                  refine HP1.out.mono ?_
                  rintro e w3 ⟨A3, c3, L3, rfl, hfr3, hpm3, hsr3⟩
                  have HF3 := Lib.hid hfr3
                  go_wp2_with fail
                  refine (HP2.out w3 HF3.out.2.1).mono ?_
                  rintro e w4 ⟨A4, c4, L4, rfl, hfr4, hpm4, hsr4⟩
                  obtain rfl := HUQ.out L3 L4 hpm3 hsr3 hpm4 hsr4
                  have HSM := Lib.hid (rsame_rd A3 A4 L3.length L3.length c3 c4 L3 L3 w4 (HF3.out.1.rd.below hfr4.2.1) hfr4.1.rd)
                  rw [show decide (L3 = L3) = true by simp] at HSM
                  have HB4 := Lib.hid (below_trans HF3.out.2.1 hfr4.2.1)
                  clear hfr3 hpm3 hsr3 hfr4 hpm4 hsr4
                  go_wp2_with fail
                  refine HSM.out.mono ?_
                  rintro e w5 ⟨rfl, q5, hq5⟩
                  have HB5 := Lib.hid (show Below wr.heap.size wr w5 from by rw [hq5]; exact below_trans HB4.out (below_drawn (Below.refl _ _) q5))
                  clear hq5
                  go_wp2_with fail
                  refine (HC1.out w5 HB5.out).mono ?_
                  rintro e w6 ⟨rfl, hb6⟩
                  have HB6 := Lib.hid (below_trans HB5.out hb6)
                  clear hb6
                  go_wp2_with fail
                  refine (HC2.out w6 HB6.out).mono ?_
                  rintro e w7 ⟨rfl, hb7⟩
                  have HB7 := Lib.hid (below_trans HB6.out hb7)
                  clear hb7
                  go_wp2_with fail
                  refine (pyknown_any _).mono ?_
                  rintro e w8 ⟨rfl, hb8⟩
                  have HB8 := Lib.hid (below_trans HWR.out (below_trans HB7.out hb8))
                  clear hb8
                  go_wp2
                  go_ret
                  exact ⟨rfl, HB8.out⟩
theorem own : ownKnob Try.prog.godebug = none := by kernel_rfl
theorem laidOut : laidOutB Try.prog = true := by kernel_rfl
set_option maxRecDepth 100000 in
theorem lifted (os : Os) (started : os.Started) (H : Type) (enc : TypeId × Value → H) :
    ReturnsInHanded {} Try.checked os 6 .any (Rows.pyramidTurnedSpec.pre6 enc Try.prog Try.f6 Rows.pyramidTurnedRow.domain false) (Rows.pyramidTurnedSpec.post enc Try.prog Try.f6 false true false false) := by
  refine returnsInHanded_of_change_sized (C := Try.checked) own started (by kernel_rfl) Try.func6
    (ChangeSpec.witness6 (enc := enc) (C := Try.checked) false ⟨#[], #[.slice none 0 0, .slice none 0 0], []⟩ 8 (by kernel_rfl) (by kernel_rfl) (by kernel_rfl) (by kernel_rfl)) ?_
  intro W base args ds gs before hval0 hW hcnd hsz0 _
  have hval : ∀ (j : Nat) t v, Try.f6.params[j]? = some t → args[j]? = some v → Value.okWide Try.prog W .any base t v := hval0
  have hW' := hW
  obtain ⟨p, q, hA0, hV, rfl, hfz, hnd⟩ := hW
  have hA : DataW.TrodAll enc Try.prog W 0 (fun _ => true) true Try.f6.params.toList args.toList ds p := hA0
  rw [Try.params6] at hA hval
  obtain ⟨v0, vs0, d0, ds0, p0, q0, hargs, rfl, rfl, h0, r0⟩ := trodAll_cons hA
  obtain ⟨v1, vs1, d1, ds1, p1, q1, rfl, rfl, rfl, h1, r1⟩ := trodAll_cons r0
  obtain ⟨rfl, rfl, rfl⟩ := trodAll_nil r1
  obtain rfl : args = #[v0, v1] := by cases args; simp_all
  obtain ⟨rfl, rfl⟩ := trodVars_none hV
  have k0 := h0
  have lt0 : ∀ x ∈ p0, x.block < W.heap.size := by obtain ⟨m, hm⟩ := k0; exact DataW.trod_lt m _ _ _ hm
  obtain ⟨a0, len0, cap0, rfl⟩ := okWide_slice Try.underlying27 (hval 0 27 v0 rfl rfl)
  have w0 : IsSl W 2 (PntOk W) a0 len0 cap0 := by
    obtain ⟨fuel, hf⟩ := h0
    exact isSl_of Try.underlying27 (by kernel_rfl) pntOk_of hf (fun n hn => of_decide_eq_true (List.all_eq_true.1 hsz0 n (DataW.weights_mem_each (j := 0) (t := 27) (d := d0) rfl rfl n hn)))
  have k1 := h1
  have lt1 : ∀ x ∈ p1, x.block < W.heap.size := by obtain ⟨m, hm⟩ := k1; exact DataW.trod_lt m _ _ _ hm
  obtain ⟨a1, len1, cap1, rfl⟩ := okWide_slice Try.underlying27 (hval 1 27 v1 rfl rfl)
  have w1 : IsSl W 2 (PntOk W) a1 len1 cap1 := by
    obtain ⟨fuel, hf⟩ := h1
    exact isSl_of Try.underlying27 (by kernel_rfl) pntOk_of hf (fun n hn => of_decide_eq_true (List.all_eq_true.1 hsz0 n (DataW.weights_mem_each (j := 1) (t := 27) (d := d1) rfl rfl n hn)))
  clear hA0 hval0
  refine (walk a0 len0 cap0 a1 len1 cap1 W w0 w1).mono fun e W' ⟨he, bel⟩ => ?_
  subst he
  exact ⟨_, rfl, _, _, _, [], _, [], hW', trodAll_mk1 (shut_bool Try.underlying4 _), (trodAll_cons_mk (Below.trod laidOut (by kernel_rfl) (of_decide_eq_true (by kernel_rfl)) k0 bel lt0) (trodAll_cons_mk (Below.trod laidOut (by kernel_rfl) (of_decide_eq_true (by kernel_rfl)) k1 bel lt1) trodAll_mk0)), rfl, bel.frame _, fun h => by cases h⟩
theorem over : Rows.pyramidTurnedRow.holds Try.pinned (OpenSpec.ofChange Rows.pyramidTurnedSpec) :=
  OpenClaim.holds_of_wide 6 Try.f6 rfl rfl rfl rfl rfl rfl rfl ⟨rfl, rfl, rfl, rfl, rfl⟩ rfl rfl rfl rfl rfl (by kernel_rfl) Try.func6 (by kernel_rfl)
    (of_decide_eq_true (by kernel_rfl)) (by unfold Func.isWrapper; first | (rw [if_pos (by decide +kernel)]; kernel_rfl) | (rw [if_neg (by decide +kernel)]; exact ⟨rfl, rfl⟩))
    (fun os started H enc _ => lifted os started H enc)
/-- The statement. -/
theorem proved : Rows.PyramidTurnedSaid := over
#print axioms proved
end Go.Proofs.Ytdbiaijpbkmfhaa.pyramidTurned
