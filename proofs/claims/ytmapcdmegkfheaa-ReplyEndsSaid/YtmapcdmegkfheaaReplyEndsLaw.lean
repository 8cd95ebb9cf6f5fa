/- ReplyEnds: (P20.4) all bytes behind what an answer has are 0, and one that is not makes it none. Conditions: none. -/
import Derived.Test.YtmapcdmegkfheaaRe32
import Derived.Test.YtmapcdmegkfheaaRe35
import Derived.Test.YtmapcdmegkfheaaReH
import Derived.Test.YtmapcdmegkfheaaRe6
import Derived.Test.YtmapcdmegkfheaaFrame
import Derived.Deep.RegionHeld3
import Derived.Deep.DeepCutAuto
namespace Go.Proofs.Ytmapcdmegkfheaa.replyEnds
set_option linter.unusedVariables false
set_option linter.unusedSimpArgs false
open Go.ChangeShapes Go.WideShapes Go.ChangeAt Go.RowKit
open Go.ChangeMaps (open_string shut_string)
theorem below_undr {W w' : World} (h : Below W.drew.heap.size W.drew w') : Below W.heap.size W w' := ⟨h.os, h.tape, h.output, h.size, h.block⟩
set_option maxRecDepth 100000 in
set_option maxHeartbeats 8000000 in
theorem walk (op m : Int) (a : An) (L : List Snt) (M : List Evt) (at_ : Int) (w : World) (hop : -9223372036854775808 ≤ op ∧ op ≤ 9223372036854775807) (hm : -9223372036854775808 ≤ m ∧ m ≤ 9223372036854775807) (hA : AnI w a L M) (hat : -9223372036854775808 ≤ at_ ∧ at_ ≤ 9223372036854775807) :
    Calls Try.prog 8 #[.int .i64 op, .int .i64 m, a.V, .int .i64 at_] w fun e w' => e = .returned (.bool true) ∧ Below w.heap.size w w' := by
  obtain ⟨W, hW⟩ : ∃ W, W = w.alloc (.cells a.cs TA) := ⟨_, rfl⟩
  have HBW := Lib.hid (show Below w.heap.size w W by rw [hW]; exact (Below.refl _ _).alloc (Nat.le_refl _) _)
  have HKA := Lib.hid (show Blk W w.heap.size TA a.cs by rw [hW]; exact Blk.new _ _ _)
  have HAW := Lib.hid (hA.r.below HBW.out)
  have HE := Lib.hid (encode_any W op m a L M HAW.out hA.sec)
  have HSC := Lib.hid hA.sec
  have HKN := Lib.hid (fun w => rknown_any w)
  have ea0 : a.cs[0]? = some (.int .i64 a.st) := rfl
  have ea1 : a.cs[1]? = some (.int .u64 (a.sec : Int)) := rfl
  have ea2 : a.cs[2]? = some (.int .i64 a.rid) := rfl
  have ea3 : a.cs[3]? = some (.int .i64 a.rx) := rfl
  have ea4 : a.cs[4]? = some (.int .i64 a.ry) := rfl
  have ea5 : a.cs[5]? = some (.int .i64 a.lab) := rfl
  have ea6 : a.cs[6]? = some (.int .i64 a.b0) := rfl
  have ea7 : a.cs[7]? = some (.int .i64 a.b1) := rfl
  have ea8 : a.cs[8]? = some (.int .i64 a.b2) := rfl
  have ea9 : a.cs[9]? = some (.int .i64 a.b3) := rfl
  have ea10 : a.cs[10]? = some (.slice a.sA a.sn a.sc) := rfl
  have ea11 : a.cs[11]? = some (.slice a.eA a.en a.ec) := rfl
  unfold EncP at HE
  have hWs := hW.symm
  clear hW hA hop hm
  have ka0 := HKA.out.cell 0; simp only [ea0] at ka0
  have ka1 := HKA.out.cell 1; simp only [ea1] at ka1
  have ka2 := HKA.out.cell 2; simp only [ea2] at ka2
  have ka3 := HKA.out.cell 3; simp only [ea3] at ka3
  have ka4 := HKA.out.cell 4; simp only [ea4] at ka4
  have ka5 := HKA.out.cell 5; simp only [ea5] at ka5
  have ka6 := HKA.out.cell 6; simp only [ea6] at ka6
  have ka7 := HKA.out.cell 7; simp only [ea7] at ka7
  have ka8 := HKA.out.cell 8; simp only [ea8] at ka8
  have ka9 := HKA.out.cell 9; simp only [ea9] at ka9
  have ka10 := HKA.out.cell 10; simp only [ea10] at ka10
  have ka11 := HKA.out.cell 11; simp only [ea11] at ka11
  go_enter Try.func8, Try.ntmps8
  go_wp2_with fail
  refine HE.out.mono ?_
  rintro e w1 ⟨hb1, hE⟩
  have HB1 := Lib.hid (below_trans HBW.out hb1)
  have HK1 := Lib.hid (HKA.out.thru0 hb1)
  clear hb1 hWs HE ka0 ka1 ka2 ka3 ka4 ka5 ka6 ka7 ka8 ka9 ka10 ka11
  rcases hE with ⟨_, rfl⟩ | ⟨_, _, rfl⟩ | ⟨_, hma, g, n, hn, hzl, hge, rfl, hbk⟩
  · go_wp2_with fail
    refine (HKN.out _).mono ?_
    rintro e w4 ⟨rfl, hb4⟩
    have HB4 := Lib.hid (below_trans HB1.out hb4)
    clear hb4
    go_wp2_with fail
    go_ret
    exact ⟨rfl, HB4.out⟩
  · go_wp2_with fail
    refine (HKN.out _).mono ?_
    rintro e w4 ⟨rfl, hb4⟩
    have HB4 := Lib.hid (below_trans HB1.out hb4)
    clear hb4
    go_wp2_with fail
    go_ret
    exact ⟨rfl, HB4.out⟩
  · obtain ⟨q1, q2, q3, q4, q5, q6, q7⟩ := may_few HAW.out hma
    obtain ⟨P, hP, hPZ⟩ := zero_behind HAW.out hma HSC.out
    obtain ⟨hlen, h800⟩ := len_few HAW.out hma
    have hsl := HAW.out.sl
    have hel := HAW.out.el
    have HEND : Hid (∀ (i : Nat) (w' : World) (a' : An) (L' : List Snt) (M' : List Evt), AnR w' a' L' M' → mayB op m a' L' M' = true → a'.sec ≤ 18446744073709551615 → nN op a ≤ i → i < (encW op m a L M).length → encW op m a' L' M' = (encW op m a L M).set i 1 → False) := Lib.hid (fun i w' a' L' M' h1 h2 h3 h4 h5 h6 => ends_bad HAW.out hma HSC.out h1 h2 h3 h4 h5 h6)
    have HNN : Hid (nN op a = if a.st = 0 then 3 + onceN op.toNat + (a.sn + a.en) * eachN op.toNat else 3) := Lib.hid rfl
    have HTO := Lib.hid hlen
    have h3n : 3 ≤ nN op a := nN_ge op a
    generalize encW op m a L M = R at *
    generalize nN op a = nn at *
    have hnn : nn ≤ n := by rw [← hzl, hPZ, List.length_append]; omega
    have hn8 : n ≤ 800 := by rw [hn]; exact h800
    have HZER : Hid (∀ j, nn ≤ j → j < n → R[j]? = some 0) := Lib.hid (by
      intro j h1 h2
      rw [hPZ, List.getElem?_append_right (by omega), List.getElem?_replicate, if_pos (by rw [hP]; omega)])
    have HQ1 := Lib.hid (And.intro q1 (And.intro q2 (And.intro q3 q4)))
    have HBK := Lib.hid hbk
    have HGE := Lib.hid hge
    have HRN : Hid (R.length = n) := Lib.hid hzl
    have HN8 := Lib.hid (And.intro hnn (And.intro hn8 h3n))
    have HAT := Lib.hid hat
    obtain ⟨kO, hkO⟩ : ∃ kO : Nat, op = (kO : Int) := ⟨op.toNat, by omega⟩
    have HKO := Lib.hid hkO
    have HQ5 := Lib.hid (show a.sn + a.en ≤ 128 by omega)
    clear hma hn hzl hge hbk hP hPZ hlen h800 hsl hel q1 q2 q3 q4 q5 q6 q7 hnn hn8 h3n hat hkO HAW
    have kst := HK1.out.cell 0
    simp only [ea0] at kst
    have HEA10 := Lib.hid ea10
    have HEA11 := Lib.hid ea11
    clear ea0 ea1 ea2 ea3 ea4 ea5 ea6 ea7 ea8 ea9 ea10 ea11
    by_cases hst : a.st = 0
    · have HNV := HNN.out
      rw [if_pos hst] at HNV
      have HNV2 := Lib.hid HNV
      rw [hst] at kst
      clear HNV HNN hst
      have HON := Lib.hid (fun w => ronce_any kO (by have := HQ1.out; have := HKO.out; omega) (by have := HQ1.out; have := HKO.out; omega) w)
      have HEC := Lib.hid (fun w => reach_any kO (by have := HQ1.out; have := HKO.out; omega) (by have := HQ1.out; have := HKO.out; omega) w)
      have hto : op.toNat = kO := by have := HKO.out; omega
      rw [hto] at HNV2
      have l1 := onceN_le kO
      have l2 := eachN_le kO
      have HOPK := Lib.hid HKO.out
      generalize onceN kO = on at *
      generalize eachN kO = ec at *
      have hsn9 : a.sn + a.en ≤ 128 := HQ5.out
      have hp9 : (a.sn + a.en) * ec ≤ 128 * 11 := Nat.mul_le_mul hsn9 l2
      have hp8 : ((a.sn : Int) + (a.en : Int)) * (ec : Int) = (((a.sn + a.en) * ec : Nat) : Int) := by rw [Int.natCast_mul, Int.natCast_add]
      have HNV3 := HNV2
      clear HNV2
      generalize (a.sn + a.en) * ec = p at *
      have hw1 : IntKind.i64.wrap (((a.sn : Int) + (a.en : Int)) * (ec : Int)) = (p : Int) := by rw [hp8, IntKind.wrap_i64]; omega
      have HP8 := Lib.hid hp8
      clear hp8
      have HS := Lib.hid (fun (w' : World) (hb : Below w1.heap.size w1 w') => And.intro (show w'.cell? ⟨w.heap.size, 10, none⟩ = some (.slice a.sA a.sn a.sc) by have k3 := (HK1.out.thru0 hb).cell 10; simp only [HEA10.out] at k3; exact k3) (And.intro (show w'.cell? ⟨w.heap.size, 11, none⟩ = some (.slice a.eA a.en a.ec) by have k3 := (HK1.out.thru0 hb).cell 11; simp only [HEA11.out] at k3; exact k3) hb))
      rw [← HKO.out] at HON HEC
      have hka := HS.out w1 (Below.refl _ _)
      obtain ⟨ka10, ka11, _⟩ := hka
      clear hto
      go_upto_region 6 with fail
      go_cut [11] (fun s11 wx => s11 = .int .i64 (nn : Int) ∧ Hid (Below w1.heap.size w1 wx))
      case first =>
        go_region_held3 (fun w' => (w'.cell? ⟨w.heap.size, 10, none⟩ = some (.slice a.sA a.sn a.sc)) ∧ (w'.cell? ⟨w.heap.size, 11, none⟩ = some (.slice a.eA a.en a.ec)) ∧ (Below w1.heap.size w1 w')) (first | exact HS.out _ (by assumption) | exact HS.out _ (below_drawn (Below.refl _ _) 1) | exact HS.out _ (Below.refl _ _) | go_keep) (first | (go_at_call 20; refine (HON.out _).mono ?_; rintro e w9 ⟨rfl, hb9⟩; have hbz : Below w1.heap.size w1 w9 := (by first | exact below_undr hb9 | exact below_trans (by assumption) hb9 | exact below_trans (by assumption) (below_undr hb9) | exact hb9)) | (go_at_call 21; refine (HEC.out _).mono ?_; rintro e w9 ⟨rfl, hb9⟩; have hbz : Below w1.heap.size w1 w9 := (by first | exact below_undr hb9 | exact below_trans (by assumption) hb9 | exact below_trans (by assumption) (below_undr hb9) | exact hb9)))
        all_goals
          rename_i hS
          go_wp2
          go_meet
          exact ⟨by have h9 := HNV3.out; have e1 : IntKind.i64.wrap ((a.sn : Int) + (a.en : Int)) = (a.sn : Int) + (a.en : Int) := (by rw [IntKind.wrap_i64]; omega); rw [e1, hw1]; congr 1; simp only [IntKind.wrap_i64]; omega, Lib.hid (by first | exact hS.2.2 | assumption)⟩
      case rest =>
        rename World => w2
        obtain ⟨rfl, HBC⟩ := hcut
        have HBX := Lib.hid (below_trans HB1.out HBC.out)
        have HBKX := Lib.hid (HBK.out.thru0 HBC.out)
        go_wp2_with fail
        go_loopw [12] (fun i wr => Hid (wr = w2) ∧ ∃ j : Nat, nn ≤ j ∧ j ≤ n ∧ i = .int .i64 j) (fun i _ => n - (intOf i).toNat)
        case atStart => exact ⟨by first | exact Lib.hid trivial | exact Lib.hid rfl, nn, Nat.le_refl _, HN8.out.1, rfl⟩
        case round =>
          rename World => wr
          obtain ⟨HWR, j, hj1, hj2, rfl⟩ := hrel
          have hwr : w2 = wr := HWR.out.symm
          subst hwr
          have hn8 := HN8.out.2.1
          clear HWR
          by_cases hlt : j < n
          · have kc := HBKX.out.cell j
            have hz := HZER.out j hj1 hlt
            have kv : (bv R).toArray[j]? = some (.int .u8 0) := by simp [bv, hz]
            rw [kv] at kc
            clear kv hz
            go_wp2_with fail
            go_roundw
            case rel => exact ⟨by first | exact Lib.hid trivial | exact Lib.hid rfl, j + 1, by omega, by omega, by go_num⟩
            case measure => simp [intOf]; omega
          · obtain rfl : j = n := by omega
            clear hj1 hj2 hlt
            by_cases ha1 : at_ < (nn : Int)
            · go_wp2_with fail
              refine (HKN.out _).mono ?_
              rintro e w4 ⟨rfl, hb4⟩
              have HB4 := Lib.hid (below_trans HBX.out hb4)
              clear hb4
              go_wp2_with fail
              go_ret
              exact ⟨rfl, HB4.out⟩
            · by_cases ha2 : at_ ≥ (j : Int)
              · go_wp2_with fail
                refine (HKN.out _).mono ?_
                rintro e w4 ⟨rfl, hb4⟩
                have HB4 := Lib.hid (below_trans HBX.out hb4)
                clear hb4
                go_wp2_with fail
                go_ret
                exact ⟨rfl, HB4.out⟩
              · obtain ⟨t, rfl⟩ : ∃ t : Nat, at_ = (t : Int) := ⟨at_.toNat, by omega⟩
                have HT1 : Hid (nn ≤ t ∧ t < j) := Lib.hid (by omega)
                have HA0 := Lib.hid (Ap.refl (FBy.nil_ w2 w2 (Below.refl _ _)))
                go_wp2_with fail
                go_loopw [13, 14] (fun b i wr => ∃ k : Nat, k ≤ j ∧ i = .int .i64 k ∧ Hid (Ap w2 w2 (.slice none 0 0) (R.take k) b wr)) (fun _ i _ => j - (intOf i).toNat)
                case atStart => exact ⟨0, Nat.zero_le _, rfl, by simpa using HA0⟩
                case round =>
                  rename World => wr
                  obtain ⟨k, hk, rfl, HA⟩ := hrel
                  obtain ⟨A2, c2, hv, hl2, hm2⟩ := HA.out.f.own.slice
                  by_cases hlt : k < j
                  · have hjl : k < R.length := by rw [HRN.out]; exact hlt
                    have HTK : Hid (R.take (k + 1) = R.take k ++ [R[k]]) := Lib.hid (List.take_succ_eq_append_getElem hjl)
                    have kc := (HA.out.blk HBKX.out (by simp [Value.ownBlock])).cell k
                    have kv : (bv R).toArray[k]? = some (.int .u8 (R[k].toNat : Int)) := by simp [bv, List.getElem?_eq_getElem hjl]
                    rw [kv] at kc
                    clear kv
                    generalize R[k] = x at *
                    have HLQ : Hid ((R.take k).length ≤ 2010) := Lib.hid (by rw [List.length_take]; have := HN8.out; omega)
                    generalize R.take k = Q at *
                    generalize Q.length = lj at hv hl2
                    subst hv
                    clear hl2 hm2 hjl
                    have HOW := Lib.hid (HA.out.f.own.below ((Below.refl _ _).alloc (Nat.le_refl _) (.cells #[.int .u8 (x.toNat : Int)] 5)))
                    have HRM := Lib.hid (one_new2 wr x 5)
                    go_wp2_with ((at_builtin; go_loud (refine wpList_eappr2 (e2 := 5) elB_ok rfl _ _ 24 24 rfl (by kernel_rfl) (by kernel_rfl) _ Q [x] (some ⟨wr.heap.size, 0, none⟩) 1 rfl rfl HOW.out HRM.out (by have := HLQ.out; simp only [maxLen, List.length_cons, List.length_nil]; omega) (by have := HLQ.out; have h1 : elB.by_ = 1 := rfl; rw [h1, List.length_cons, List.length_nil]; omega) ?_; intro v' w9 hA; have HA9 := Lib.hid (HA.out.app ((Below.refl _ _).alloc (Nat.le_refl _) _) hA); clear hA)))
                    go_roundw
                    case rel => exact ⟨k + 1, by omega, by go_num, Lib.hid (by rw [HTK.out]; exact HA9.out)⟩
                    case measure => simp [intOf]; omega
                  · obtain rfl : k = j := by omega
                    have HT2 : Hid (R.take k = R) := Lib.hid (by rw [← HRN.out, List.take_length])
                    rw [HT2.out] at HA hv
                    clear hv hl2 hm2 hlt hk HT2
                    obtain ⟨g2, c3, cur, hv, hc1, hc2, hg2, hb2, hcur⟩ := fby_block HA.out.f (by rw [HRN.out]; have := HN8.out; omega)
                    subst hv
                    have HBR := Lib.hid (below_trans HBX.out HA.out.f.bel)
                    have HC1 := Lib.hid (And.intro hc1 hc2)
                    have HG2 := Lib.hid hg2
                    have HRB := Lib.hid (set_rb hb2 hcur t (by rw [HRN.out]; exact HT1.out.2) 1)
                    have ht := HT1.out
                    have HTI := Lib.hid (And.intro (show ((t : Int) < (k : Int)) by omega) (show (0 : Int) ≤ (t : Int) by omega))
                    have kc := hb2.cell t
                    rw [hcur t _ (List.getElem?_eq_getElem (by rw [HRN.out]; exact ht.2))] at kc
                    have kf := hb2.frozen t
                    have hrl := HRN.out
                    rw [hrl] at HC1 HRB ⊢
                    have HW9 : Hid (Below w.heap.size w (wr.setCell ⟨g2, t, none⟩ (.int .u8 ((1 : UInt8).toNat : Int)))) := Lib.hid (HBR.out.setCell (by have h1 := HG2.out; have h2 := HBX.out.size; simp only; omega) _)
                    have HDE := Lib.hid (fun (X : World) (hX : X = wr.setCell ⟨g2, t, none⟩ (.int .u8 ((1 : UInt8).toNat : Int))) => decode_any X op m (R.set t 1) (some ⟨g2, 0, none⟩) c3 k HQ1.out.1 HQ1.out.2.1 HQ1.out.2.2.1 HQ1.out.2.2.2 (by rw [List.length_set]; exact HTO.out) (by rw [List.length_set]; exact HRN.out.symm) HC1.out.1 HC1.out.2 (by rw [hX]; exact HRB.out))
                    unfold DecB at HDE
                    clear hc1 hc2 hg2 hb2 hcur hrl
                    go_wp2_with fail
                    refine (HDE.out _ rfl).mono ?_
                    rintro e w8 ⟨hb8, sA, sn, sc, eA, en, ec8, har, hE⟩
                    have HSX := Lib.hid (anr_sec op (R.set t 1) sA sn sc eA en ec8)
                    generalize anR op (R.set t 1) sA sn sc eA en ec8 = a8 at *
                    generalize seensR op (R.set t 1) = L8 at *
                    generalize evtsR op (R.set t 1) = M8 at *
                    have HB8 := Lib.hid (below_trans HW9.out hb8)
                    rcases hE with ⟨_, hma8, hen8⟩ | ⟨rfl, _⟩
                    · exact (HEND.out t w8 a8 L8 M8 har hma8 HSX.out HT1.out.1 (by rw [HRN.out]; exact HT1.out.2) hen8).elim
                    · clear har hb8 HDE HSX
                      go_wp2_with fail
                      refine (HKN.out _).mono ?_
                      rintro e w4 ⟨rfl, hb4⟩
                      have HB4 := Lib.hid (below_trans (HB8.out.alloc HB8.out.size _) hb4)
                      clear hb4
                      go_wp2_with fail
                      go_ret
                      exact ⟨rfl, HB4.out⟩
    · have HNV := HNN.out
      rw [if_neg hst] at HNV
      subst HNV
      clear HNN
      go_wp2_with fail
      go_loopw [12] (fun i wr => Hid (wr = w1) ∧ ∃ j : Nat, 3 ≤ j ∧ j ≤ n ∧ i = .int .i64 j) (fun i _ => n - (intOf i).toNat)
      case atStart => exact ⟨by first | exact Lib.hid trivial | exact Lib.hid rfl, 3, Nat.le_refl _, HN8.out.1, rfl⟩
      case round =>
        rename World => wr
        obtain ⟨HWR, j, hj1, hj2, rfl⟩ := hrel
        have hwr : w1 = wr := HWR.out.symm
        subst hwr
        have hn8 := HN8.out.2.1
        clear HWR
        by_cases hlt : j < n
        · have kc := HBK.out.cell j
          have hz := HZER.out j hj1 hlt
          have kv : (bv R).toArray[j]? = some (.int .u8 0) := by simp [bv, hz]
          rw [kv] at kc
          clear kv hz
          go_wp2_with fail
          go_roundw
          case rel => exact ⟨by first | exact Lib.hid trivial | exact Lib.hid rfl, j + 1, by omega, by omega, by go_num⟩
          case measure => simp [intOf]; omega
        · obtain rfl : j = n := by omega
          clear hj1 hj2 hlt
          by_cases ha1 : at_ < (3 : Int)
          · go_wp2_with fail
            refine (HKN.out _).mono ?_
            rintro e w4 ⟨rfl, hb4⟩
            have HB4 := Lib.hid (below_trans HB1.out hb4)
            clear hb4
            go_wp2_with fail
            go_ret
            exact ⟨rfl, HB4.out⟩
          · by_cases ha2 : at_ ≥ (j : Int)
            · go_wp2_with fail
              refine (HKN.out _).mono ?_
              rintro e w4 ⟨rfl, hb4⟩
              have HB4 := Lib.hid (below_trans HB1.out hb4)
              clear hb4
              go_wp2_with fail
              go_ret
              exact ⟨rfl, HB4.out⟩
            · obtain ⟨t, rfl⟩ : ∃ t : Nat, at_ = (t : Int) := ⟨at_.toNat, by omega⟩
              have HT1 : Hid (3 ≤ t ∧ t < j) := Lib.hid (by omega)
              have HA0 := Lib.hid (Ap.refl (FBy.nil_ w1 w1 (Below.refl _ _)))
              go_wp2_with fail
              go_loopw [13, 14] (fun b i wr => ∃ k : Nat, k ≤ j ∧ i = .int .i64 k ∧ Hid (Ap w1 w1 (.slice none 0 0) (R.take k) b wr)) (fun _ i _ => j - (intOf i).toNat)
              case atStart => exact ⟨0, Nat.zero_le _, rfl, by simpa using HA0⟩
              case round =>
                rename World => wr
                obtain ⟨k, hk, rfl, HA⟩ := hrel
                obtain ⟨A2, c2, hv, hl2, hm2⟩ := HA.out.f.own.slice
                by_cases hlt : k < j
                · have hjl : k < R.length := by rw [HRN.out]; exact hlt
                  have HTK : Hid (R.take (k + 1) = R.take k ++ [R[k]]) := Lib.hid (List.take_succ_eq_append_getElem hjl)
                  have kc := (HA.out.blk HBK.out (by simp [Value.ownBlock])).cell k
                  have kv : (bv R).toArray[k]? = some (.int .u8 (R[k].toNat : Int)) := by simp [bv, List.getElem?_eq_getElem hjl]
                  rw [kv] at kc
                  clear kv
                  generalize R[k] = x at *
                  have HLQ : Hid ((R.take k).length ≤ 2010) := Lib.hid (by rw [List.length_take]; have := HN8.out; omega)
                  generalize R.take k = Q at *
                  generalize Q.length = lj at hv hl2
                  subst hv
                  clear hl2 hm2 hjl
                  have HOW := Lib.hid (HA.out.f.own.below ((Below.refl _ _).alloc (Nat.le_refl _) (.cells #[.int .u8 (x.toNat : Int)] 5)))
                  have HRM := Lib.hid (one_new2 wr x 5)
                  go_wp2_with ((at_builtin; go_loud (refine wpList_eappr2 (e2 := 5) elB_ok rfl _ _ 24 24 rfl (by kernel_rfl) (by kernel_rfl) _ Q [x] (some ⟨wr.heap.size, 0, none⟩) 1 rfl rfl HOW.out HRM.out (by have := HLQ.out; simp only [maxLen, List.length_cons, List.length_nil]; omega) (by have := HLQ.out; have h1 : elB.by_ = 1 := rfl; rw [h1, List.length_cons, List.length_nil]; omega) ?_; intro v' w9 hA; have HA9 := Lib.hid (HA.out.app ((Below.refl _ _).alloc (Nat.le_refl _) _) hA); clear hA)))
                  go_roundw
                  case rel => exact ⟨k + 1, by omega, by go_num, Lib.hid (by rw [HTK.out]; exact HA9.out)⟩
                  case measure => simp [intOf]; omega
                · obtain rfl : k = j := by omega
                  have HT2 : Hid (R.take k = R) := Lib.hid (by rw [← HRN.out, List.take_length])
                  rw [HT2.out] at HA hv
                  clear hv hl2 hm2 hlt hk HT2
                  obtain ⟨g2, c3, cur, hv, hc1, hc2, hg2, hb2, hcur⟩ := fby_block HA.out.f (by rw [HRN.out]; have := HN8.out; omega)
                  subst hv
                  have HBR := Lib.hid (below_trans HB1.out HA.out.f.bel)
                  have HC1 := Lib.hid (And.intro hc1 hc2)
                  have HG2 := Lib.hid hg2
                  have HRB := Lib.hid (set_rb hb2 hcur t (by rw [HRN.out]; exact HT1.out.2) 1)
                  have ht := HT1.out
                  have HTI := Lib.hid (And.intro (show ((t : Int) < (k : Int)) by omega) (show (0 : Int) ≤ (t : Int) by omega))
                  have kc := hb2.cell t
                  rw [hcur t _ (List.getElem?_eq_getElem (by rw [HRN.out]; exact ht.2))] at kc
                  have kf := hb2.frozen t
                  have hrl := HRN.out
                  rw [hrl] at HC1 HRB ⊢
                  have HW9 : Hid (Below w.heap.size w (wr.setCell ⟨g2, t, none⟩ (.int .u8 ((1 : UInt8).toNat : Int)))) := Lib.hid (HBR.out.setCell (by have h1 := HG2.out; have h2 := HB1.out.size; simp only; omega) _)
                  have HDE := Lib.hid (fun (X : World) (hX : X = wr.setCell ⟨g2, t, none⟩ (.int .u8 ((1 : UInt8).toNat : Int))) => decode_any X op m (R.set t 1) (some ⟨g2, 0, none⟩) c3 k HQ1.out.1 HQ1.out.2.1 HQ1.out.2.2.1 HQ1.out.2.2.2 (by rw [List.length_set]; exact HTO.out) (by rw [List.length_set]; exact HRN.out.symm) HC1.out.1 HC1.out.2 (by rw [hX]; exact HRB.out))
                  unfold DecB at HDE
                  clear hc1 hc2 hg2 hb2 hcur hrl
                  go_wp2_with fail
                  refine (HDE.out _ rfl).mono ?_
                  rintro e w8 ⟨hb8, sA, sn, sc, eA, en, ec8, har, hE⟩
                  have HSX := Lib.hid (anr_sec op (R.set t 1) sA sn sc eA en ec8)
                  generalize anR op (R.set t 1) sA sn sc eA en ec8 = a8 at *
                  generalize seensR op (R.set t 1) = L8 at *
                  generalize evtsR op (R.set t 1) = M8 at *
                  have HB8 := Lib.hid (below_trans HW9.out hb8)
                  rcases hE with ⟨_, hma8, hen8⟩ | ⟨rfl, _⟩
                  · exact (HEND.out t w8 a8 L8 M8 har hma8 HSX.out HT1.out.1 (by rw [HRN.out]; exact HT1.out.2) hen8).elim
                  · clear har hb8 HDE HSX
                    go_wp2_with fail
                    refine (HKN.out _).mono ?_
                    rintro e w4 ⟨rfl, hb4⟩
                    have HB4 := Lib.hid (below_trans (HB8.out.alloc HB8.out.size _) hb4)
                    clear hb4
                    go_wp2_with fail
                    go_ret
                    exact ⟨rfl, HB4.out⟩
theorem own : ownKnob Try.prog.godebug = none := by kernel_rfl
theorem laidOut : laidOutB Try.prog = true := by kernel_rfl
set_option maxRecDepth 100000 in
theorem lifted (os : Os) (started : os.Started) (H : Type) (enc : TypeId × Value → H) :
    ReturnsInHanded {} Try.checked os 8 .any (Rows.replyEndsSpec.pre6 enc Try.prog Try.f8 Rows.replyEndsRow.domain false) (Rows.replyEndsSpec.post enc Try.prog Try.f8 false true false false) := by
  refine returnsInHanded_of_change_sized (C := Try.checked) own started (by kernel_rfl) Try.func8
    (ChangeSpec.witness6 (enc := enc) (C := Try.checked) false ⟨#[], #[.int .i64 0, .int .i64 0, wAn, .int .i64 0], []⟩ 8 (by kernel_rfl) (by kernel_rfl) (by kernel_rfl) (by kernel_rfl)) ?_
  intro W base args ds gs before hval0 hW hcnd hsz0 _
  have hval : ∀ (j : Nat) t v, Try.f8.params[j]? = some t → args[j]? = some v → Value.okWide Try.prog W .any base t v := hval0
  have hW' := hW
  obtain ⟨p, q, hA0, hV, rfl, hfz, hnd⟩ := hW
  have hA : DataW.TrodAll enc Try.prog W 0 (fun _ => true) true Try.f8.params.toList args.toList ds p := hA0
  rw [Try.params8] at hA hval
  obtain ⟨v0, vs0, d0, ds0, p0, q0, hargs, rfl, rfl, h0, r0⟩ := trodAll_cons hA
  obtain ⟨v1, vs1, d1, ds1, p1, q1, rfl, rfl, rfl, h1, r1⟩ := trodAll_cons r0
  obtain ⟨v2, vs2, d2, ds2, p2, q2, rfl, rfl, rfl, h2, r2⟩ := trodAll_cons r1
  obtain ⟨v3, vs3, d3, ds3, p3, q3, rfl, rfl, rfl, h3, r3⟩ := trodAll_cons r2
  obtain ⟨rfl, rfl, rfl⟩ := trodAll_nil r3
  obtain rfl : args = #[v0, v1, v2, v3] := by cases args; simp_all
  obtain ⟨rfl, rfl⟩ := trodVars_none hV
  have k0 := h0
  have lt0 : ∀ x ∈ p0, x.block < W.heap.size := by obtain ⟨m, hm⟩ := k0; exact DataW.trod_lt m _ _ _ hm
  obtain ⟨a0, rfl, rfl, rfl, w0⟩ := open_int Try.underlying3 (hval 0 3 v0 rfl rfl) h0
  have k1 := h1
  have lt1 : ∀ x ∈ p1, x.block < W.heap.size := by obtain ⟨m, hm⟩ := k1; exact DataW.trod_lt m _ _ _ hm
  obtain ⟨a1, rfl, rfl, rfl, w1⟩ := open_int Try.underlying3 (hval 1 3 v1 rfl rfl) h1
  have k2 := h2
  have lt2 : ∀ x ∈ p2, x.block < W.heap.size := by obtain ⟨m, hm⟩ := k2; exact DataW.trod_lt m _ _ _ hm
  obtain ⟨cs2, rfl, hc2⟩ := okWide_struct Try.underlying38 (hval 2 38 v2 rfl rfl)
  obtain ⟨a2, L2, M2, e2, w2⟩ : ∃ a L M, Value.agg cs2 = An.V a ∧ AnI W a L M := by
    obtain ⟨fuel, hf⟩ := h2
    exact ans_of (cs := cs2) hf (by rw [hc2]; kernel_rfl) (fun n hn => of_decide_eq_true (List.all_eq_true.1 hsz0 n (DataW.weights_mem_each (j := 2) (t := 38) (d := d2) rfl rfl n hn)))
  have k3 := h3
  have lt3 : ∀ x ∈ p3, x.block < W.heap.size := by obtain ⟨m, hm⟩ := k3; exact DataW.trod_lt m _ _ _ hm
  obtain ⟨a3, rfl, rfl, rfl, w3⟩ := open_int Try.underlying3 (hval 3 3 v3 rfl rfl) h3
  clear hA0 hval0
  have hw := walk a0 a1 a2 L2 M2 a3 W (bounds_i64 w0) (bounds_i64 w1) w2 (bounds_i64 w3)
  rw [← e2] at hw
  refine hw.mono fun e W' ⟨he, bel⟩ => ?_
  subst he
  exact ⟨_, rfl, _, _, _, [], _, [], hW', trodAll_mk1 (shut_bool Try.underlying4 _), (trodAll_cons_mk (Below.trod laidOut (by kernel_rfl) (of_decide_eq_true (by kernel_rfl)) k0 bel lt0) (trodAll_cons_mk (Below.trod laidOut (by kernel_rfl) (of_decide_eq_true (by kernel_rfl)) k1 bel lt1) (trodAll_cons_mk (Below.trod laidOut (by kernel_rfl) (of_decide_eq_true (by kernel_rfl)) k2 bel lt2) (trodAll_cons_mk (Below.trod laidOut (by kernel_rfl) (of_decide_eq_true (by kernel_rfl)) k3 bel lt3) trodAll_mk0)))), rfl, bel.frame _, fun h => by cases h⟩
theorem over : Rows.replyEndsRow.holds Try.pinned (OpenSpec.ofChange Rows.replyEndsSpec) :=
  OpenClaim.holds_of_wide 8 Try.f8 rfl rfl rfl rfl rfl rfl rfl ⟨rfl, rfl, rfl, rfl, rfl⟩ rfl rfl rfl rfl rfl (by kernel_rfl) Try.func8 (by kernel_rfl)
    (of_decide_eq_true (by kernel_rfl)) (by unfold Func.isWrapper; first | (rw [if_pos (by decide +kernel)]; kernel_rfl) | (rw [if_neg (by decide +kernel)]; exact ⟨rfl, rfl⟩))
    (fun os started H enc _ => lifted os started H enc)
/-- The statement. -/
theorem proved : Rows.ReplyEndsSaid := over
#print axioms proved
end Go.Proofs.Ytmapcdmegkfheaa.replyEnds
