/- sort.Sort over the entries of a row: partialInsertionSort. -/
import Derived.Test.YtdmmglnpeoeicaaSrt3
namespace Go.Proofs.Ytdmmglnpeoeicaa
set_option linter.unusedVariables false
set_option linter.unusedSimpArgs false
open Go.RowKit
theorem sd_go {d : Array En} {j : Nat} (h : 1 ≤ j) (hl : ltE d[j]! d[j - 1]! = true) : Sort.shiftDown ltE j d = Sort.shiftDown ltE (j - 1) (Sort.swp d j (j - 1)) := by
  obtain ⟨k, rfl⟩ : ∃ k, j = k + 1 := ⟨j - 1, by omega⟩
  simp only [Nat.add_sub_cancel] at hl ⊢
  rw [Sort.shiftDown, if_neg (by simp [hl])]
theorem sd_stop {d : Array En} {j : Nat} (h : j = 0 ∨ ltE d[j]! d[j - 1]! = false) : Sort.shiftDown ltE j d = d := by
  cases j with
  | zero => rfl
  | succ k => rw [Sort.shiftDown, if_pos (by simpa using h)]
theorem su_go {d : Array En} {b j : Nat} (h : j < b) (hl : ltE d[j]! d[j - 1]! = true) : Sort.shiftUp ltE b j d = Sort.shiftUp ltE b (j + 1) (Sort.swp d j (j - 1)) := by
  rw [Sort.shiftUp, if_pos h, if_neg (by simp [hl])]
theorem su_stop {d : Array En} {b j : Nat} (h : ¬ j < b ∨ ltE d[j]! d[j - 1]! = false) : Sort.shiftUp ltE b j d = d := by
  rw [Sort.shiftUp]
  by_cases hj : j < b
  · rw [if_pos hj, if_pos (by rcases h with h | h; exact absurd hj h; simp [h])]
  · rw [if_neg hj]
theorem sc_go {d : Array En} {b i : Nat} (h : i < b) (hl : ltE d[i]! d[i - 1]! = false) : Sort.scanSorted ltE d b i = Sort.scanSorted ltE d b (i + 1) := by
  rw [Sort.scanSorted, if_pos (by simp [h, hl])]
theorem sc_stop {d : Array En} {b i : Nat} (h : ¬ i < b ∨ ltE d[i]! d[i - 1]! = true) : Sort.scanSorted ltE d b i = i := by
  rw [Sort.scanSorted, if_neg]
  rcases h with h | h
  · simp [h]
  · simp [h]
def PI (w0 : World) (g cap n a b : Nat) (d : Array En) (i s : Nat) (w : World) : Prop := ∃ dk : Array En, dk.size = n ∧ SA w0 g cap dk w ∧ Sort.partialIns ltE a b (5 - s) i dk = Sort.partialIns ltE a b 5 (a + 1) d
def PK (w0 : World) (g cap b : Nat) (dk : Array En) (i k : Nat) (w : World) : Prop := SA w0 g cap dk w ∧ Sort.scanSorted ltE dk b k = Sort.scanSorted ltE dk b i
def PD (w0 : World) (g cap n : Nat) (D : Array En) (j : Nat) (w : World) : Prop := ∃ dj : Array En, dj.size = n ∧ SA w0 g cap dj w ∧ Sort.shiftDown ltE j dj = D
def PU (w0 : World) (g cap n b : Nat) (D : Array En) (j : Nat) (w : World) : Prop := ∃ dj : Array En, dj.size = n ∧ SA w0 g cap dj w ∧ Sort.shiftUp ltE b j dj = D
def PE (w0 : World) (g cap n : Nat) (D : Array En) (w : World) : Prop := D.size = n ∧ SA w0 g cap D w
def PinsP (w0 : World) (g cap n a b : Nat) (d : Array En) (e : Ending) (w' : World) : Prop :=
  ∃ (r : Bool) (d' : Array En), e = .returned (.bool r) ∧ Sort.partialInsertionSort ltE d a b = (d', r) ∧ SA w0 g cap d' w'
theorem pi_step {a b s i k : Nat} {d0 dk : Array En} (hs : s < 5) (hE : Sort.partialIns ltE a b (5 - s) i dk = Sort.partialIns ltE a b 5 (a + 1) d0) (hk : Sort.scanSorted ltE dk b i = k) :
    Sort.partialInsertionSort ltE d0 a b = if k = b then (dk, true) else if b - a < 50 then (dk, false) else
      Sort.partialIns ltE a b (5 - (s + 1)) k (Sort.fixUp ltE b k (Sort.fixDown ltE a k (Sort.swp dk k (k - 1)))) := by
  unfold Sort.partialInsertionSort
  rw [← hE, show 5 - s = (5 - (s + 1)) + 1 by omega, Sort.partialIns_succ, hk]
set_option maxRecDepth 100000 in
set_option maxHeartbeats 16000000 in
theorem spin_any (w0 : World) (g cap n a b : Nat) (d : Array En) (w : World) (h : SA w0 g cap d w) (hs : d.size = n) (hab : a < b) (hbn : b ≤ n) (hn : n ≤ 2305843009213693951) :
    Calls Try.prog 39 #[.iface 46 (.slice (some ⟨g, 0, none⟩) n cap), .int .i64 (a : Int), .int .i64 (b : Int)] w fun e w' => PinsP w0 g cap n a b d e w' := by
  have HR := Lib.hid (show PI w0 g cap n a b d (a + 1) 0 w from ⟨d, hs, h, rfl⟩)
  clear h hs
  have mL := meth_sless; have mS := meth_sswap
  go_enter Try.func39, Try.ntmps39
  go_wp2
  go_loopw [7, 8] (fun vi vs wr => ∃ i s : Nat, vi = .int .i64 i ∧ vs = .int .i64 s ∧ s ≤ 5 ∧ a < i ∧ i ≤ b ∧ Hid (PI w0 g cap n a b d i s wr)) (fun _ vs _ => (5 - intOf vs).toNat)
  case atStart => exact ⟨a + 1, 0, by go_num, rfl, by omega, by omega, by omega, HR⟩
  case round =>
    clear HR
    obtain ⟨i, s, rfl, rfl, hs5, hai, hib, hrel⟩ := hrel
    by_cases hs : s < 5
    · have hsi : (s : Int) < 5 := by omega
      obtain ⟨dk, hsk, hk, hE⟩ := hrel.out
      have HE := Lib.hid hE; have HSK := Lib.hid hsk
      have HREL := Lib.hid (show PK w0 g cap b dk i i wr from ⟨hk, rfl⟩)
      clear hsk hk hE hrel
      go_wp2
      go_loopw [7] (fun vk wr => ∃ k : Nat, vk = .int .i64 k ∧ i ≤ k ∧ k ≤ b ∧ Hid (PK w0 g cap b dk i k wr)) (fun vk _ => (b - intOf vk).toNat)
      case atStart => exact ⟨i, rfl, by omega, by omega, HREL⟩
      case round =>
        clear HREL
        obtain ⟨k, rfl, hik, hkb, hrel⟩ := hrel
        have HK := Lib.hid hrel.out.1; have HSC := Lib.hid hrel.out.2
        clear hrel
        by_cases hlt : k < b
        · have hL := sless HK.out HSK.out (i := k) (j := k - 1) (I := (k : Int)) (J := (k : Int) - 1) (by omega) (by omega) rfl (by omega)
          cases hlv : ltE dk[k]! dk[k - 1]! with
          | false =>
            rw [hlv] at hL
            have HL := Lib.hid hL; have HV := Lib.hid hlv; clear hL hlv
            go_wp2_with fail
            refine HL.out.mono ?_
            rintro e w3 ⟨rfl, hb0⟩
            have HN := Lib.hid (show PK w0 g cap b dk i (k + 1) w3 from ⟨HK.out.below hb0, by rw [← HSC.out]; exact (sc_go hlt HV.out).symm⟩)
            clear hb0
            go_wp2
            go_roundw
            case rel => exact ⟨k + 1, by go_num, by omega, by omega, HN⟩
            case measure => simp [intOf]; omega
          | true =>
            rw [hlv] at hL
            have HL := Lib.hid hL; have HV := Lib.hid hlv; clear hL hlv
            go_wp2_with fail
            refine HL.out.mono ?_
            rintro e w3 ⟨rfl, hb0⟩
            have HK3 := Lib.hid (HK.out.below hb0)
            have HST := Lib.hid (pi_step (k := k) hs HE.out (by rw [← HSC.out]; exact sc_stop (.inr HV.out)))
            clear hb0 HK HL HV HSC
            have hkb2 : ¬ k = b := by omega
            have hkbi : ((k : Int) == (b : Int)) = false := by simp; omega
            by_cases h50 : b - a < 50
            · have h50i : (b : Int) - (a : Int) < 50 := by omega
              have HP := Lib.hid (show PinsP w0 g cap n a b d (.returned (.bool false)) w3 from ⟨false, dk, rfl, by rw [HST.out, if_neg hkb2, if_pos h50], HK3.out⟩)
              clear HST HK3
              go_wp2
              go_ret
              exact HP.out
            · have h50i : ¬ (b : Int) - (a : Int) < 50 := by omega
              have HSW := Lib.hid (sswap HK3.out HSK.out (i := k) (j := k - 1) (I := (k : Int)) (J := (k : Int) - 1) (by omega) (by omega) rfl (by omega))
              have HST2 := Lib.hid (HST.out.trans (by rw [if_neg hkb2, if_neg h50]))
              have HSZ := Lib.hid (show (Sort.swp dk k (k - 1)).size = n by rw [Sort.size_swp]; exact HSK.out)
              clear HST
              go_wp2_with fail
              refine HSW.out.mono ?_
              rintro e w4 ⟨rfl, hsa⟩
              have HA4 := Lib.hid hsa; clear hsa HSW HK3 HSK HE
              generalize Sort.swp dk k (k - 1) = d1 at *
              go_upto_if 45 with fail
              go_cut [] from 13 to 84 (fun wx => Hid (PE w0 g cap n (Sort.fixDown ltE a k d1) wx))
              case first =>
                by_cases h2 : 2 ≤ k - a
                · have h2i : (2 : Int) ≤ (k : Int) - (a : Int) := by omega
                  have HFD := Lib.hid (show Sort.fixDown ltE a k d1 = Sort.shiftDown ltE (k - 1) d1 from if_pos h2)
                  have HREL := Lib.hid (show PD w0 g cap n (Sort.fixDown ltE a k d1) (k - 1) w4 from ⟨d1, HSZ.out, HA4.out, HFD.out.symm⟩)
                  clear HFD
                  have hd2 : decide ((2 : Int) ≤ (k : Int) - (a : Int)) = true := decide_eq_true h2i
                  rw [hd2]
                  clear hd2
                  go_wp2
                  go_loopw [9] (fun vj wr => ∃ j : Nat, vj = .int .i64 j ∧ j ≤ k ∧ Hid (PD w0 g cap n (Sort.fixDown ltE a k d1) j wr)) (fun vj _ => (intOf vj).toNat)
                  case atStart => exact ⟨k - 1, by congr 1; omega, by omega, HREL⟩
                  case round =>
                    clear HREL
                    obtain ⟨j, rfl, hjk, hrel⟩ := hrel
                    obtain ⟨dj, hsj, hj, hD⟩ := hrel.out
                    have HJ := Lib.hid hj; have HSJ := Lib.hid hsj; have HD := Lib.hid hD
                    clear hrel hsj hj hD
                    by_cases h1 : 1 ≤ j
                    · have h1i : (1 : Int) ≤ (j : Int) := by omega
                      have hL := sless HJ.out HSJ.out (i := j) (j := j - 1) (I := (j : Int)) (J := (j : Int) - 1) (by omega) (by omega) rfl (by omega)
                      cases hlv : ltE dj[j]! dj[j - 1]! with
                      | true =>
                        rw [hlv] at hL
                        have HL := Lib.hid hL; have HV := Lib.hid hlv; clear hL hlv
                        go_wp2_with fail
                        refine HL.out.mono ?_
                        rintro e w5 ⟨rfl, hb0⟩
                        have HSW := Lib.hid (sswap (HJ.out.below hb0) HSJ.out (i := j) (j := j - 1) (I := (j : Int)) (J := (j : Int) - 1) (by omega) (by omega) rfl (by omega))
                        clear hb0
                        go_wp2_with fail
                        refine HSW.out.mono ?_
                        rintro e w6 ⟨rfl, hsa⟩
                        have HN := Lib.hid (show PD w0 g cap n (Sort.fixDown ltE a k d1) (j - 1) w6 from ⟨_, by rw [Sort.size_swp]; exact HSJ.out, hsa, by rw [← HD.out]; exact (sd_go h1 HV.out).symm⟩)
                        clear hsa
                        go_wp2
                        go_roundw
                        case rel => exact ⟨j - 1, by congr 1; omega, by omega, HN⟩
                        case measure => simp [intOf]; omega
                      | false =>
                        rw [hlv] at hL
                        have HL := Lib.hid hL; have HV := Lib.hid hlv; clear hL hlv
                        go_wp2_with fail
                        refine HL.out.mono ?_
                        rintro e w5 ⟨rfl, hb0⟩
                        have HN := Lib.hid (show PE w0 g cap n (Sort.fixDown ltE a k d1) w5 from by rw [← HD.out, sd_stop (.inr HV.out)]; exact ⟨HSJ.out, HJ.out.below hb0⟩)
                        clear hb0
                        go_wp2
                        go_meet
                        exact HN
                    · have h1i : ¬ (1 : Int) ≤ (j : Int) := by omega
                      have HN := Lib.hid (show PE w0 g cap n (Sort.fixDown ltE a k d1) _ from by rw [← HD.out, sd_stop (.inl (by omega))]; exact ⟨HSJ.out, HJ.out⟩)
                      go_wp2
                      go_meet
                      exact HN
                · have h2i : ¬ (2 : Int) ≤ (k : Int) - (a : Int) := by omega
                  have HN := Lib.hid (show PE w0 g cap n (Sort.fixDown ltE a k d1) w4 from by rw [Sort.fixDown, if_neg h2]; exact ⟨HSZ.out, HA4.out⟩)
                  go_wp2
                  go_meet
                  exact HN
              case rest =>
                have HA5 := hcut
                clear hcut HA4 HSZ
                generalize Sort.fixDown ltE a k d1 = d2 at *
                by_cases h2 : 2 ≤ b - k
                · have h2i : (2 : Int) ≤ (b : Int) - (k : Int) := by omega
                  have HFD := Lib.hid (show Sort.fixUp ltE b k d2 = Sort.shiftUp ltE b (k + 1) d2 from if_pos h2)
                  have HREL := Lib.hid (show PU w0 g cap n b (Sort.fixUp ltE b k d2) (k + 1) _ from ⟨d2, HA5.out.1, HA5.out.2, HFD.out.symm⟩)
                  clear HFD
                  go_wp2
                  go_loopw [10] (fun vj wr => ∃ j : Nat, vj = .int .i64 j ∧ k < j ∧ j ≤ b ∧ Hid (PU w0 g cap n b (Sort.fixUp ltE b k d2) j wr)) (fun vj _ => (b - intOf vj).toNat)
                  case atStart => exact ⟨k + 1, by go_num, by omega, by omega, HREL⟩
                  case round =>
                    clear HREL
                    obtain ⟨j, rfl, hjk, hjb, hrel⟩ := hrel
                    obtain ⟨dj, hsj, hj, hD⟩ := hrel.out
                    have HJ := Lib.hid hj; have HSJ := Lib.hid hsj; have HD := Lib.hid hD
                    clear hrel hsj hj hD
                    by_cases h1 : j < b
                    · have hL := sless HJ.out HSJ.out (i := j) (j := j - 1) (I := (j : Int)) (J := (j : Int) - 1) (by omega) (by omega) rfl (by omega)
                      cases hlv : ltE dj[j]! dj[j - 1]! with
                      | true =>
                        rw [hlv] at hL
                        have HL := Lib.hid hL; have HV := Lib.hid hlv; clear hL hlv
                        go_wp2_with fail
                        refine HL.out.mono ?_
                        rintro e w5 ⟨rfl, hb0⟩
                        have HSW := Lib.hid (sswap (HJ.out.below hb0) HSJ.out (i := j) (j := j - 1) (I := (j : Int)) (J := (j : Int) - 1) (by omega) (by omega) rfl (by omega))
                        clear hb0
                        go_wp2_with fail
                        refine HSW.out.mono ?_
                        rintro e w6 ⟨rfl, hsa⟩
                        have HN := Lib.hid (show PU w0 g cap n b (Sort.fixUp ltE b k d2) (j + 1) w6 from ⟨_, by rw [Sort.size_swp]; exact HSJ.out, hsa, by rw [← HD.out]; exact (su_go h1 HV.out).symm⟩)
                        clear hsa
                        go_wp2
                        go_roundw
                        case rel => exact ⟨j + 1, by go_num, by omega, by omega, HN⟩
                        case measure => simp [intOf]; omega
                      | false =>
                        rw [hlv] at hL
                        have HL := Lib.hid hL; have HV := Lib.hid hlv; clear hL hlv
                        go_wp2_with fail
                        refine HL.out.mono ?_
                        rintro e w5 ⟨rfl, hb0⟩
                        have HM := Lib.hid (show PE w0 g cap n (Sort.fixUp ltE b k d2) w5 from by rw [← HD.out, su_stop (.inr HV.out)]; exact ⟨HSJ.out, HJ.out.below hb0⟩)
                        clear hb0
                        have HN := Lib.hid (show PI w0 g cap n a b d k (s + 1) _ from ⟨_, HM.out.1, HM.out.2, by rw [← HST2.out]; rfl⟩)
                        clear HM HST2
                        go_wp2
                        go_roundw
                        case rel => exact ⟨k, s + 1, rfl, by go_num, by omega, by omega, by omega, HN⟩
                        case measure => simp [intOf]; omega
                    · have HM := Lib.hid (show PE w0 g cap n (Sort.fixUp ltE b k d2) _ from by rw [← HD.out, su_stop (.inl h1)]; exact ⟨HSJ.out, HJ.out⟩)
                      have HN := Lib.hid (show PI w0 g cap n a b d k (s + 1) _ from ⟨_, HM.out.1, HM.out.2, by rw [← HST2.out]; rfl⟩)
                      clear HM HST2
                      go_wp2
                      go_roundw
                      case rel => exact ⟨k, s + 1, rfl, by go_num, by omega, by omega, by omega, HN⟩
                      case measure => simp [intOf]; omega
                · have h2i : ¬ (2 : Int) ≤ (b : Int) - (k : Int) := by omega
                  have HM := Lib.hid (show PE w0 g cap n (Sort.fixUp ltE b k d2) _ from by rw [Sort.fixUp, if_neg h2]; exact HA5.out)
                  have HN := Lib.hid (show PI w0 g cap n a b d k (s + 1) _ from ⟨_, HM.out.1, HM.out.2, by rw [← HST2.out]; rfl⟩)
                  clear HM HST2
                  go_wp2
                  go_roundw
                  case rel => exact ⟨k, s + 1, rfl, by go_num, by omega, by omega, by omega, HN⟩
                  case measure => simp [intOf]; omega
        · have HST := Lib.hid (pi_step (k := k) hs HE.out (by rw [← HSC.out]; exact sc_stop (.inl hlt)))
          have HP := Lib.hid (show PinsP w0 g cap n a b d (.returned (.bool true)) _ from ⟨true, dk, rfl, by rw [HST.out, if_pos (show k = b by omega)], HK.out⟩)
          have hkbi : ((k : Int) == (b : Int)) = true := by simp; omega
          clear HK HST HSC
          go_wp2
          go_ret
          exact HP.out
    · have hsi : ¬ (s : Int) < 5 := by omega
      have HP := Lib.hid (show PinsP w0 g cap n a b d (.returned (.bool false)) _ from (fun ⟨dk, _, hk, hE⟩ => ⟨false, dk, rfl, by unfold Sort.partialInsertionSort; rw [← hE, show 5 - s = 0 by omega]; rfl, hk⟩) hrel.out)
      clear hrel
      go_wp2
      go_ret
      exact HP.out

theorem spin_spec (w0 : World) (g cap n a b : Nat) (d : Array En) (w : World) (h : SA w0 g cap d w) (hs : d.size = n) (hab : a < b) (hbn : b ≤ n) (hn : n ≤ 2305843009213693951) (hB : Sort.Below ltE a b d) :
    Calls Try.prog 39 #[.iface 46 (.slice (some ⟨g, 0, none⟩) n cap), .int .i64 (a : Int), .int .i64 (b : Int)] w fun e w' => ∃ r : Bool, e = .returned (.bool r) ∧ ∃ d', Sort.PermIn a b d d' ∧ (r = true → Sort.SortedIn ltE a b d') ∧ SA w0 g cap d' w' :=
  (spin_any w0 g cap n a b d w h hs hab hbn hn).mono fun e w' ⟨r, d', he, hp, hk⟩ => by
    have := Sort.partialInsertionSort_holds (lt := ltE) swo_ltE d a b hab (by rw [hs]; exact hbn) hB
    rw [hp] at this
    exact ⟨r, he, d', this.1, this.2, hk⟩
end Go.Proofs.Ytdmmglnpeoeicaa
