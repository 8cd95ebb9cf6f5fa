/- sort.Sort over the entries of a row: partition, partitionEqual. -/
import Derived.Test.YtdmmglnpeoeicaaSrt3
namespace Go.Proofs.Ytdmmglnpeoeicaa
set_option linter.unusedVariables false
set_option linter.unusedSimpArgs false
open Go.RowKit
/-- What partition keeps: below i all are less than the pivot, above j none is. -/
def PF (a b : Nat) (d : Array En) (i j : Nat) (dk : Array En) : Prop :=
  Sort.PermIn a b d dk ∧ (∀ k, a < k → k < i → ltE dk[k]! dk[a]! = true) ∧ (∀ k, j < k → k < b → ltE dk[k]! dk[a]! = false)
theorem PF.up {a b i j : Nat} {d dk : Array En} (h : PF a b d i j dk) (hl : ltE dk[i]! dk[a]! = true) : PF a b d (i + 1) j dk :=
  ⟨h.1, fun k h1 h2 => by by_cases e : k = i; (subst e; exact hl); exact h.2.1 k h1 (by omega), h.2.2⟩
theorem PF.down {a b i j : Nat} {d dk : Array En} (h : PF a b d i j dk) (hl : ltE dk[j]! dk[a]! = false) : PF a b d i (j - 1) dk :=
  ⟨h.1, h.2.1, fun k h1 h2 => by by_cases e : k = j; (subst e; exact hl); exact h.2.2 k (by omega) h2⟩
theorem PF.swap {a b i j : Nat} {d dk : Array En} (h : PF a b d i j dk) (hai : a < i) (hij : i < j) (hjb : j < b) (hb : b ≤ d.size) (hi : ltE dk[i]! dk[a]! = false) (hj : ltE dk[j]! dk[a]! = true) : PF a b d (i + 1) (j - 1) (Sort.swp dk i j) := by
  have hs := h.1.1
  have ha : (Sort.swp dk i j)[a]! = dk[a]! := Sort.swp_other dk i j a (by omega) (by omega)
  refine ⟨Sort.permIn_trans d dk _ a b h.1 (Sort.swp_permIn dk a b i j (by omega) (by omega) (by omega) (by omega) (by omega)), fun k h1 h2 => ?_, fun k h1 h2 => ?_⟩
  · rw [ha]
    by_cases e : k = i
    · subst e; rw [Sort.swp_left dk k j (by omega) (by omega)]; exact hj
    · rw [Sort.swp_other dk i j k e (by omega)]; exact h.2.1 k h1 (by omega)
  · rw [ha]
    by_cases e : k = j
    · subst e; rw [Sort.swp_right dk i k (by omega)]; exact hi
    · rw [Sort.swp_other dk i j k (by omega) e]; exact h.2.2 k (by omega) h2
theorem PF.start {a b p : Nat} {d : Array En} (hap : a ≤ p) (hpb : p < b) (hb : b ≤ d.size) : PF a b d (a + 1) (b - 1) (Sort.swp d a p) :=
  ⟨Sort.swp_permIn d a b a p (Nat.le_refl _) (by omega) hap hpb hb, fun k h1 h2 => by omega, fun k h1 h2 => by omega⟩
/-- What partition leaves. -/
def PartF (a b : Nat) (d : Array En) (m : Nat) (d' : Array En) : Prop :=
  Sort.PermIn a b d d' ∧ (∀ k, a ≤ k → k < m → ltE d'[k]! d'[m]! = true) ∧ (∀ k, m < k → k < b → ltE d'[k]! d'[m]! = false)
theorem PF.done {a b i j : Nat} {d dk : Array En} (h : PF a b d i j dk) (hij : i = j + 1) (haj : a ≤ j) (hjb : j < b) (hb : b ≤ d.size) : PartF a b d j (Sort.swp dk j a) := by
  have hs := h.1.1
  have hp := Sort.permIn_trans d dk _ a b h.1 (Sort.swp_permIn dk a b j a haj hjb (Nat.le_refl _) (by omega) (by omega))
  by_cases e : j = a
  · subst e
    have hsw : ∀ k, (Sort.swp dk j j)[k]! = dk[k]! := fun k => by
      by_cases ek : k = j
      · subst ek; rw [Sort.swp_right dk k k (by omega)]
      · exact Sort.swp_other dk j j k ek ek
    refine ⟨hp, fun k h1 h2 => by omega, fun k h1 h2 => ?_⟩
    rw [hsw, hsw]; exact h.2.2 k h1 h2
  · have hj' : (Sort.swp dk j a)[j]! = dk[a]! := Sort.swp_left dk j a (by omega) e
    have ha' : (Sort.swp dk j a)[a]! = dk[j]! := Sort.swp_right dk j a (by omega)
    refine ⟨hp, fun k h1 h2 => ?_, fun k h1 h2 => ?_⟩
    · rw [hj']
      by_cases ek : k = a
      · subst ek; rw [ha']; exact h.2.1 j (by omega) (by omega)
      · rw [Sort.swp_other dk j a k (by omega) ek]; exact h.2.1 k (by omega) (by omega)
    · rw [hj', Sort.swp_other dk j a k (by omega) (by omega)]; exact h.2.2 k h1 h2
/-- What partitionEqual keeps. -/
def EF (a b : Nat) (d : Array En) (P : En) (i j : Nat) (dk : Array En) : Prop :=
  Sort.PermIn a b d dk ∧ (∀ k, a < k → k < i → ltE dk[a]! dk[k]! = false) ∧ (∀ k, j < k → k < b → ltE dk[a]! dk[k]! = true) ∧ dk[a]! = P
theorem EF.up {a b i j : Nat} {d dk : Array En} {P : En} (h : EF a b d P i j dk) (hl : ltE dk[a]! dk[i]! = false) : EF a b d P (i + 1) j dk :=
  ⟨h.1, fun k h1 h2 => by by_cases e : k = i; (subst e; exact hl); exact h.2.1 k h1 (by omega), h.2.2⟩
theorem EF.down {a b i j : Nat} {d dk : Array En} {P : En} (h : EF a b d P i j dk) (hl : ltE dk[a]! dk[j]! = true) : EF a b d P i (j - 1) dk :=
  ⟨h.1, h.2.1, fun k h1 h2 => by by_cases e : k = j; (subst e; exact hl); exact h.2.2.1 k (by omega) h2, h.2.2.2⟩
theorem EF.swap {a b i j : Nat} {d dk : Array En} {P : En} (h : EF a b d P i j dk) (hai : a < i) (hij : i < j) (hjb : j < b) (hb : b ≤ d.size) (hi : ltE dk[a]! dk[i]! = true) (hj : ltE dk[a]! dk[j]! = false) : EF a b d P (i + 1) (j - 1) (Sort.swp dk i j) := by
  have hs := h.1.1
  have ha : (Sort.swp dk i j)[a]! = dk[a]! := Sort.swp_other dk i j a (by omega) (by omega)
  refine ⟨Sort.permIn_trans d dk _ a b h.1 (Sort.swp_permIn dk a b i j (by omega) (by omega) (by omega) (by omega) (by omega)), fun k h1 h2 => ?_, fun k h1 h2 => ?_, ha.trans h.2.2.2⟩
  · rw [ha]
    by_cases e : k = i
    · subst e; rw [Sort.swp_left dk k j (by omega) (by omega)]; exact hj
    · rw [Sort.swp_other dk i j k e (by omega)]; exact h.2.1 k h1 (by omega)
  · rw [ha]
    by_cases e : k = j
    · subst e; rw [Sort.swp_right dk i k (by omega)]; exact hi
    · rw [Sort.swp_other dk i j k (by omega) e]; exact h.2.2.1 k (by omega) h2
theorem EF.start {a b p : Nat} {d : Array En} (hap : a ≤ p) (hpb : p < b) (hb : b ≤ d.size) : EF a b d d[p]! (a + 1) (b - 1) (Sort.swp d a p) :=
  ⟨Sort.swp_permIn d a b a p (Nat.le_refl _) (by omega) hap hpb hb, fun k h1 h2 => by omega, fun k h1 h2 => by omega, by
    by_cases e : a = p
    · subst e; exact Sort.swp_right d a a (by omega)
    · exact Sort.swp_left d a p (by omega) e⟩
/-- What partitionEqual leaves: the first entry, P, is not ahead of those below m, and ahead of those from m on. -/
def EqF (a b : Nat) (d : Array En) (P : En) (m : Nat) (d' : Array En) : Prop :=
  Sort.PermIn a b d d' ∧ a < m ∧ m ≤ b ∧ (∀ k, a ≤ k → k < m → ltE P d'[k]! = false) ∧ (∀ k, m ≤ k → k < b → ltE P d'[k]! = true)
theorem EF.done {a b i j : Nat} {d dk : Array En} {P : En} (h : EF a b d P i j dk) (hij : i = j + 1) (haj : a ≤ j) (hjb : j < b) : EqF a b d P i dk := by
  obtain ⟨h1, h2, h3, h4⟩ := h
  subst h4
  exact ⟨h1, by omega, by omega, fun k k1 k2 => by by_cases e : k = a; (subst e; exact swo_ltE.irrefl _); exact h2 k (by omega) k2, fun k k1 k2 => h3 k (by omega) k2⟩
def PA (w0 : World) (g cap a b : Nat) (d : Array En) (i j : Nat) (w : World) : Prop := ∃ dk, PF a b d i j dk ∧ SA w0 g cap dk w
def PA2 (w0 : World) (g cap a b : Nat) (d : Array En) (i j : Nat) (w : World) : Prop := ∃ dk, PF a b d i j dk ∧ SA w0 g cap dk w ∧ (i ≤ j → ltE dk[i]! dk[a]! = false)
def QA (w0 : World) (g cap a b : Nat) (d : Array En) (P : En) (i j : Nat) (w : World) : Prop := ∃ dk, EF a b d P i j dk ∧ SA w0 g cap dk w
def QA2 (w0 : World) (g cap a b : Nat) (d : Array En) (P : En) (i j : Nat) (w : World) : Prop := ∃ dk, EF a b d P i j dk ∧ SA w0 g cap dk w ∧ (i ≤ j → ltE dk[a]! dk[i]! = true)
def PartP (w0 : World) (g cap a b : Nat) (d : Array En) (e : Ending) (w' : World) : Prop :=
  ∃ (m : Nat) (r : Bool) (d' : Array En), e = .returned (.tuple #[.int .i64 (m : Int), .bool r]) ∧ a ≤ m ∧ m < b ∧ PartF a b d m d' ∧ SA w0 g cap d' w'
def EqP (w0 : World) (g cap a b : Nat) (d : Array En) (P : En) (e : Ending) (w' : World) : Prop :=
  ∃ (m : Nat) (d' : Array En), e = .returned (.int .i64 (m : Int)) ∧ EqF a b d P m d' ∧ SA w0 g cap d' w'
theorem PA2.stop {w0 w : World} {g cap a b i j : Nat} {d : Array En} (h : PA w0 g cap a b d i j w) (hij : ¬ i ≤ j) : PA2 w0 g cap a b d i j w := by
  obtain ⟨dk, h1, h2⟩ := h; exact ⟨dk, h1, h2, fun h => absurd h hij⟩
theorem QA2.stop {w0 w : World} {g cap a b i j : Nat} {d : Array En} {P : En} (h : QA w0 g cap a b d P i j w) (hij : ¬ i ≤ j) : QA2 w0 g cap a b d P i j w := by
  obtain ⟨dk, h1, h2⟩ := h; exact ⟨dk, h1, h2, fun h => absurd h hij⟩
set_option maxHeartbeats 8000000 in
theorem speq_any (w0 : World) (g cap n a b p : Nat) (d : Array En) (w : World) (h : SA w0 g cap d w) (hs : d.size = n) (hap : a ≤ p) (hpb : p < b) (hbn : b ≤ n) (hn : n ≤ 2305843009213693951) :
    Calls Try.prog 40 #[.iface 46 (.slice (some ⟨g, 0, none⟩) n cap), .int .i64 (a : Int), .int .i64 (b : Int), .int .i64 (p : Int)] w fun e w' => EqP w0 g cap a b d d[p]! e w' := by
  have HSW := Lib.hid (sswap h hs (i := a) (j := p) (I := (a : Int)) (J := (p : Int)) (by omega) (by omega) rfl rfl)
  have HS := Lib.hid hs
  have HST := Lib.hid (EF.start (a := a) (b := b) (p := p) (d := d) hap hpb (by omega))
  generalize d[p]! = P at *
  clear h hs
  have mL := meth_sless; have mS := meth_sswap
  go_enter Try.func40, Try.ntmps40
  go_wp2_with fail
  refine HSW.out.mono ?_
  rintro e w2 ⟨rfl, hsa⟩
  have HREL0 := Lib.hid (show QA w0 g cap a b d P (a + 1) (b - 1) w2 from ⟨_, HST.out, hsa⟩)
  clear hsa HSW HST
  go_wp2
  go_loopw [9, 10] (fun vi vj wr => ∃ i j : Nat, vi = .int .i64 i ∧ vj = .int .i64 j ∧ a < i ∧ a ≤ j ∧ i ≤ j + 1 ∧ j < b ∧ Hid (QA w0 g cap a b d P i j wr)) (fun vi vj _ => (intOf vj + 1 - intOf vi).toNat)
  case atStart => exact ⟨a + 1, b - 1, by go_num, by congr 1; omega, by omega, by omega, by omega, by omega, HREL0⟩
  case round =>
    clear HREL0
    obtain ⟨i, j, rfl, rfl, hai, haj, hij, hjb, HREL⟩ := hrel
    go_wp2
    obtain ⟨I0, hI0⟩ : ∃ I0 : Nat, I0 ≤ i ∧ i ≤ I0 := ⟨i, Nat.le_refl _, Nat.le_refl _⟩
    obtain ⟨J0, hJ0⟩ : ∃ J0 : Nat, J0 ≤ j ∧ j ≤ J0 := ⟨j, Nat.le_refl _, Nat.le_refl _⟩
    go_loopw [9] (fun vi wr => ∃ i : Nat, vi = .int .i64 i ∧ a < i ∧ i ≤ j + 1 ∧ I0 ≤ i ∧ Hid (QA w0 g cap a b d P i j wr)) (fun vi _ => (b + 1 - (intOf vi).toNat))
    case atStart => exact ⟨i, by first | rfl | go_num, by omega, by omega, by omega, HREL⟩
    case round =>
      clear HREL
      obtain ⟨i, rfl, hai, hij, hiI, hrel⟩ := hrel
      by_cases hle : i ≤ j
      · obtain ⟨dk, hf, hk⟩ := hrel.out
        have hsk := hf.1.1.trans HS.out
        have hL := sless hk hsk (i := a) (j := i) (I := (a : Int)) (J := (i : Int)) (by omega) (by omega) rfl rfl
        have HF := Lib.hid hf; have HK := Lib.hid hk
        clear hf hk hrel hsk
        cases hlv : ltE dk[a]! dk[i]! with
        | false =>
          rw [hlv] at hL
          have HL := Lib.hid hL; have HV := Lib.hid hlv; clear hL hlv
          go_wp2_with fail
          refine HL.out.mono ?_
          rintro e w3 ⟨rfl, hb0⟩
          have HN := Lib.hid (show QA w0 g cap a b d P (i + 1) j w3 from ⟨dk, HF.out.up HV.out, HK.out.below hb0⟩)
          clear hb0
          go_wp2
          go_roundw
          case rel => exact ⟨i + 1, by go_num, by omega, by omega, by omega, HN⟩
          case measure => simp [intOf]; omega
        | true =>
          rw [hlv] at hL
          have HL := Lib.hid hL; have HV := Lib.hid hlv; clear hL hlv
          go_wp2_with fail
          refine HL.out.mono ?_
          rintro e w3 ⟨rfl, hb0⟩
          have HREL := Lib.hid (show QA2 w0 g cap a b d P i j w3 from ⟨dk, HF.out, HK.out.below hb0, fun _ => HV.out⟩)
          clear hb0 HL HK HF HV hle
          go_wp2
          go_loopw [10] (fun vj wr => ∃ j : Nat, vj = .int .i64 j ∧ a ≤ j ∧ i ≤ j + 1 ∧ j < b ∧ j ≤ J0 ∧ Hid (QA2 w0 g cap a b d P i j wr)) (fun vj _ => (intOf vj).toNat)
          case atStart => exact ⟨j, rfl, by omega, by omega, by omega, by omega, HREL⟩
          case round =>
            clear HREL
            obtain ⟨j, rfl, haj, hij, hjb, hjJ, hrel⟩ := hrel
            by_cases hle : i ≤ j
            · obtain ⟨dk, hf, hk, hst⟩ := hrel.out
              have hsk := hf.1.1.trans HS.out
              have hL := sless hk hsk (i := a) (j := j) (I := (a : Int)) (J := (j : Int)) (by omega) (by omega) rfl rfl
              have HF := Lib.hid hf; have HK := Lib.hid hk; have HST := Lib.hid (hst hle); have HSK := Lib.hid hsk
              clear hf hk hst hsk hrel
              cases hlv : ltE dk[a]! dk[j]! with
              | true =>
                rw [hlv] at hL
                have HL := Lib.hid hL; have HV := Lib.hid hlv; clear hL hlv
                go_wp2_with fail
                refine HL.out.mono ?_
                rintro e w3 ⟨rfl, hb0⟩
                have HN := Lib.hid (show QA2 w0 g cap a b d P i (j - 1) w3 from ⟨dk, HF.out.down HV.out, HK.out.below hb0, fun _ => HST.out⟩)
                clear hb0
                go_wp2
                go_roundw
                case rel => exact ⟨j - 1, by congr 1; omega, by omega, by omega, by omega, by omega, HN⟩
                case measure => simp [intOf]; omega
              | false =>
                rw [hlv] at hL
                have HL := Lib.hid hL; have HV := Lib.hid hlv; clear hL hlv
                go_wp2_with fail
                refine HL.out.mono ?_
                rintro e w3 ⟨rfl, hb0⟩
                have hlt : i < j := by
                  rcases Nat.lt_or_ge i j with h | h
                  · exact h
                  · exfalso
                    have e : i = j := by omega
                    subst e
                    have h1 := HST.out; rw [HV.out] at h1; cases h1
                have HK3 := Lib.hid (HK.out.below hb0)
                clear hb0
                have HSW := Lib.hid (sswap HK3.out HSK.out (i := i) (j := j) (I := (i : Int)) (J := (j : Int)) (by omega) (by omega) rfl rfl)
                go_wp2_with fail
                refine HSW.out.mono ?_
                rintro e w4 ⟨rfl, hsa⟩
                have HN := Lib.hid (show QA w0 g cap a b d P (i + 1) (j - 1) w4 from ⟨_, HF.out.swap hai hlt hjb (by rw [HS.out]; omega) HST.out HV.out, hsa⟩)
                clear hsa
                go_wp2
                go_roundw
                case rel => exact ⟨i + 1, j - 1, by go_num, by congr 1; omega, by omega, by omega, by omega, by omega, HN⟩
                case measure => simp [intOf]; omega
            · have HE := Lib.hid hrel.out
              clear hrel
              have HIJ := Lib.hid (show i = j + 1 by omega)
              have HP := Lib.hid (show EqP w0 g cap a b d P (.returned (.int .i64 (i : Int))) _ from (fun ⟨dk, hf, hk, _⟩ => ⟨i, dk, rfl, hf.done HIJ.out (by omega) hjb, hk⟩) HE.out)
              clear HE
              go_wp2
              go_ret
              exact HP.out
      · have HREL := Lib.hid (QA2.stop hrel.out hle)
        clear hrel
        go_wp2
        clear hle
        go_loopw [10] (fun vj wr => ∃ j : Nat, vj = .int .i64 j ∧ a ≤ j ∧ i ≤ j + 1 ∧ j < b ∧ j ≤ J0 ∧ Hid (QA2 w0 g cap a b d P i j wr)) (fun vj _ => (intOf vj).toNat)
        case atStart => exact ⟨j, rfl, by omega, by omega, by omega, by omega, HREL⟩
        case round =>
          clear HREL
          obtain ⟨j, rfl, haj, hij, hjb, hjJ, hrel⟩ := hrel
          by_cases hle : i ≤ j
          · obtain ⟨dk, hf, hk, hst⟩ := hrel.out
            have hsk := hf.1.1.trans HS.out
            have hL := sless hk hsk (i := a) (j := j) (I := (a : Int)) (J := (j : Int)) (by omega) (by omega) rfl rfl
            have HF := Lib.hid hf; have HK := Lib.hid hk; have HST := Lib.hid (hst hle); have HSK := Lib.hid hsk
            clear hf hk hst hsk hrel
            cases hlv : ltE dk[a]! dk[j]! with
            | true =>
              rw [hlv] at hL
              have HL := Lib.hid hL; have HV := Lib.hid hlv; clear hL hlv
              go_wp2_with fail
              refine HL.out.mono ?_
              rintro e w3 ⟨rfl, hb0⟩
              have HN := Lib.hid (show QA2 w0 g cap a b d P i (j - 1) w3 from ⟨dk, HF.out.down HV.out, HK.out.below hb0, fun _ => HST.out⟩)
              clear hb0
              go_wp2
              go_roundw
              case rel => exact ⟨j - 1, by congr 1; omega, by omega, by omega, by omega, by omega, HN⟩
              case measure => simp [intOf]; omega
            | false =>
              rw [hlv] at hL
              have HL := Lib.hid hL; have HV := Lib.hid hlv; clear hL hlv
              go_wp2_with fail
              refine HL.out.mono ?_
              rintro e w3 ⟨rfl, hb0⟩
              have hlt : i < j := by
                rcases Nat.lt_or_ge i j with h | h
                · exact h
                · exfalso
                  have e : i = j := by omega
                  subst e
                  have h1 := HST.out; rw [HV.out] at h1; cases h1
              have HK3 := Lib.hid (HK.out.below hb0)
              clear hb0
              have HSW := Lib.hid (sswap HK3.out HSK.out (i := i) (j := j) (I := (i : Int)) (J := (j : Int)) (by omega) (by omega) rfl rfl)
              go_wp2_with fail
              refine HSW.out.mono ?_
              rintro e w4 ⟨rfl, hsa⟩
              have HN := Lib.hid (show QA w0 g cap a b d P (i + 1) (j - 1) w4 from ⟨_, HF.out.swap hai hlt hjb (by rw [HS.out]; omega) HST.out HV.out, hsa⟩)
              clear hsa
              go_wp2
              go_roundw
              case rel => exact ⟨i + 1, j - 1, by go_num, by congr 1; omega, by omega, by omega, by omega, by omega, HN⟩
              case measure => simp [intOf]; omega
          · have HE := Lib.hid hrel.out
            clear hrel
            have HIJ := Lib.hid (show i = j + 1 by omega)
            have HP := Lib.hid (show EqP w0 g cap a b d P (.returned (.int .i64 (i : Int))) _ from (fun ⟨dk, hf, hk, _⟩ => ⟨i, dk, rfl, hf.done HIJ.out (by omega) hjb, hk⟩) HE.out)
            clear HE
            go_wp2
            go_ret
            exact HP.out
set_option maxHeartbeats 16000000 in
theorem spart_any (w0 : World) (g cap n a b p : Nat) (d : Array En) (w : World) (h : SA w0 g cap d w) (hs : d.size = n) (hap : a ≤ p) (hpb : p < b) (hbn : b ≤ n) (hn : n ≤ 2305843009213693951) :
    Calls Try.prog 41 #[.iface 46 (.slice (some ⟨g, 0, none⟩) n cap), .int .i64 (a : Int), .int .i64 (b : Int), .int .i64 (p : Int)] w fun e w' => PartP w0 g cap a b d e w' := by
  have HSW := Lib.hid (sswap h hs (i := a) (j := p) (I := (a : Int)) (J := (p : Int)) (by omega) (by omega) rfl rfl)
  have HS := Lib.hid hs
  have HST := Lib.hid (PF.start (a := a) (b := b) (p := p) (d := d) hap hpb (by omega))
  clear h hs
  have mL := meth_sless; have mS := meth_sswap
  go_enter Try.func41, Try.ntmps41
  go_wp2_with fail
  refine HSW.out.mono ?_
  rintro e w2 ⟨rfl, hsa⟩
  have HREL := Lib.hid (show PA w0 g cap a b d (a + 1) (b - 1) w2 from ⟨_, HST.out, hsa⟩)
  clear hsa HSW HST
  have ei : (a : Int) + 1 = ((a + 1 : Nat) : Int) := by omega
  have ej : (b : Int) - 1 = ((b - 1 : Nat) : Int) := by omega
  have hai : a < a + 1 := by omega
  have haj : a ≤ b - 1 := by omega
  have hij : a + 1 ≤ b - 1 + 1 := by omega
  have hjb : b - 1 < b := by omega
  generalize a + 1 = i at *
  generalize b - 1 = j at *
  go_wp2
  clear ei ej
  obtain ⟨I0, hI0⟩ : ∃ I0 : Nat, I0 ≤ i ∧ i ≤ I0 := ⟨i, Nat.le_refl _, Nat.le_refl _⟩
  obtain ⟨J0, hJ0⟩ : ∃ J0 : Nat, J0 ≤ j ∧ j ≤ J0 := ⟨j, Nat.le_refl _, Nat.le_refl _⟩
  go_loopw [10] (fun vi wr => ∃ i : Nat, vi = .int .i64 i ∧ a < i ∧ i ≤ j + 1 ∧ I0 ≤ i ∧ Hid (PA w0 g cap a b d i j wr)) (fun vi _ => (b + 1 - (intOf vi).toNat))
  case atStart => exact ⟨i, by first | rfl | go_num, by omega, by omega, by omega, HREL⟩
  case round =>
    clear HREL
    obtain ⟨i, rfl, hai, hij, hiI, hrel⟩ := hrel
    by_cases hle : i ≤ j
    · obtain ⟨dk, hf, hk⟩ := hrel.out
      have hsk := hf.1.1.trans HS.out
      have hL := sless hk hsk (i := i) (j := a) (I := (i : Int)) (J := (a : Int)) (by omega) (by omega) rfl rfl
      have HF := Lib.hid hf; have HK := Lib.hid hk
      clear hf hk hrel hsk
      cases hlv : ltE dk[i]! dk[a]! with
      | true =>
        rw [hlv] at hL
        have HL := Lib.hid hL; have HV := Lib.hid hlv; clear hL hlv
        go_wp2_with fail
        refine HL.out.mono ?_
        rintro e w3 ⟨rfl, hb0⟩
        have HN := Lib.hid (show PA w0 g cap a b d (i + 1) j w3 from ⟨dk, HF.out.up HV.out, HK.out.below hb0⟩)
        clear hb0
        go_wp2
        go_roundw
        case rel => exact ⟨i + 1, by go_num, by omega, by omega, by omega, HN⟩
        case measure => simp [intOf]; omega
      | false =>
        rw [hlv] at hL
        have HL := Lib.hid hL; have HV := Lib.hid hlv; clear hL hlv
        go_wp2_with fail
        refine HL.out.mono ?_
        rintro e w3 ⟨rfl, hb0⟩
        have HREL := Lib.hid (show PA2 w0 g cap a b d i j w3 from ⟨dk, HF.out, HK.out.below hb0, fun _ => HV.out⟩)
        clear hb0 HL HK HF HV hle
        go_wp2
        go_loopw [11] (fun vj wr => ∃ j : Nat, vj = .int .i64 j ∧ a ≤ j ∧ i ≤ j + 1 ∧ j < b ∧ j ≤ J0 ∧ Hid (PA2 w0 g cap a b d i j wr)) (fun vj _ => (intOf vj).toNat)
        case atStart => exact ⟨j, rfl, by omega, by omega, by omega, by omega, HREL⟩
        case round =>
          clear HREL
          obtain ⟨j, rfl, haj, hij, hjb, hjJ, hrel⟩ := hrel
          by_cases hle : i ≤ j
          · obtain ⟨dk, hf, hk, hst⟩ := hrel.out
            have hsk := hf.1.1.trans HS.out
            have hL := sless hk hsk (i := j) (j := a) (I := (j : Int)) (J := (a : Int)) (by omega) (by omega) rfl rfl
            have HF := Lib.hid hf; have HK := Lib.hid hk; have HST := Lib.hid (hst hle); have HSK := Lib.hid hsk
            clear hf hk hst hsk hrel
            cases hlv : ltE dk[j]! dk[a]! with
            | false =>
              rw [hlv] at hL
              have HL := Lib.hid hL; have HV := Lib.hid hlv; clear hL hlv
              go_wp2_with fail
              refine HL.out.mono ?_
              rintro e w3 ⟨rfl, hb0⟩
              have HN := Lib.hid (show PA2 w0 g cap a b d i (j - 1) w3 from ⟨dk, HF.out.down HV.out, HK.out.below hb0, fun _ => HST.out⟩)
              clear hb0
              go_wp2
              go_roundw
              case rel => exact ⟨j - 1, by congr 1; omega, by omega, by omega, by omega, by omega, HN⟩
              case measure => simp [intOf]; omega
            | true =>
              rw [hlv] at hL
              have HL := Lib.hid hL; have HV := Lib.hid hlv; clear hL hlv
              go_wp2_with fail
              refine HL.out.mono ?_
              rintro e w3 ⟨rfl, hb0⟩
              have hlt : i < j := by
                rcases Nat.lt_or_ge i j with h | h
                · exact h
                · exfalso
                  have e : i = j := by omega
                  subst e
                  have h1 := HST.out; rw [HV.out] at h1; cases h1
              have HK3 := Lib.hid (HK.out.below hb0)
              clear hb0
              have HSW := Lib.hid (sswap HK3.out HSK.out (i := i) (j := j) (I := (i : Int)) (J := (j : Int)) (by omega) (by omega) rfl rfl)
              go_wp2_with fail
              refine HSW.out.mono ?_
              rintro e w4 ⟨rfl, hsa⟩
              have HREL0 := Lib.hid (show PA w0 g cap a b d (i + 1) (j - 1) w4 from ⟨_, HF.out.swap hai hlt hjb (by rw [HS.out]; omega) HST.out HV.out, hsa⟩)
              clear hsa HSW HF HST HV HSK HK3 HK HL
              go_wp2
              go_loopw [10, 11] (fun vi vj wr => ∃ i j : Nat, vi = .int .i64 i ∧ vj = .int .i64 j ∧ a < i ∧ a ≤ j ∧ i ≤ j + 1 ∧ j < b ∧ Hid (PA w0 g cap a b d i j wr)) (fun vi vj _ => (intOf vj + 1 - intOf vi).toNat)
              case atStart => exact ⟨i + 1, j - 1, by go_num, by congr 1; omega, by omega, by omega, by omega, by omega, HREL0⟩
              case round =>
                clear HREL0 hlt hle hij hai haj hjb hjJ hiI hI0 hJ0
                obtain ⟨i, j, rfl, rfl, hai, haj, hij, hjb, HREL⟩ := hrel
                go_wp2
                obtain ⟨I0, hI0⟩ : ∃ I0 : Nat, I0 ≤ i ∧ i ≤ I0 := ⟨i, Nat.le_refl _, Nat.le_refl _⟩
                obtain ⟨J0, hJ0⟩ : ∃ J0 : Nat, J0 ≤ j ∧ j ≤ J0 := ⟨j, Nat.le_refl _, Nat.le_refl _⟩
                go_loopw [10] (fun vi wr => ∃ i : Nat, vi = .int .i64 i ∧ a < i ∧ i ≤ j + 1 ∧ I0 ≤ i ∧ Hid (PA w0 g cap a b d i j wr)) (fun vi _ => (b + 1 - (intOf vi).toNat))
                case atStart => exact ⟨i, by first | rfl | go_num, by omega, by omega, by omega, HREL⟩
                case round =>
                  clear HREL
                  obtain ⟨i, rfl, hai, hij, hiI, hrel⟩ := hrel
                  by_cases hle : i ≤ j
                  · obtain ⟨dk, hf, hk⟩ := hrel.out
                    have hsk := hf.1.1.trans HS.out
                    have hL := sless hk hsk (i := i) (j := a) (I := (i : Int)) (J := (a : Int)) (by omega) (by omega) rfl rfl
                    have HF := Lib.hid hf; have HK := Lib.hid hk
                    clear hf hk hrel hsk
                    cases hlv : ltE dk[i]! dk[a]! with
                    | true =>
                      rw [hlv] at hL
                      have HL := Lib.hid hL; have HV := Lib.hid hlv; clear hL hlv
                      go_wp2_with fail
                      refine HL.out.mono ?_
                      rintro e w3 ⟨rfl, hb0⟩
                      have HN := Lib.hid (show PA w0 g cap a b d (i + 1) j w3 from ⟨dk, HF.out.up HV.out, HK.out.below hb0⟩)
                      clear hb0
                      go_wp2
                      go_roundw
                      case rel => exact ⟨i + 1, by go_num, by omega, by omega, by omega, HN⟩
                      case measure => simp [intOf]; omega
                    | false =>
                      rw [hlv] at hL
                      have HL := Lib.hid hL; have HV := Lib.hid hlv; clear hL hlv
                      go_wp2_with fail
                      refine HL.out.mono ?_
                      rintro e w3 ⟨rfl, hb0⟩
                      have HREL := Lib.hid (show PA2 w0 g cap a b d i j w3 from ⟨dk, HF.out, HK.out.below hb0, fun _ => HV.out⟩)
                      clear hb0 HL HK HF HV hle
                      go_wp2
                      go_loopw [11] (fun vj wr => ∃ j : Nat, vj = .int .i64 j ∧ a ≤ j ∧ i ≤ j + 1 ∧ j < b ∧ j ≤ J0 ∧ Hid (PA2 w0 g cap a b d i j wr)) (fun vj _ => (intOf vj).toNat)
                      case atStart => exact ⟨j, rfl, by omega, by omega, by omega, by omega, HREL⟩
                      case round =>
                        clear HREL
                        obtain ⟨j, rfl, haj, hij, hjb, hjJ, hrel⟩ := hrel
                        by_cases hle : i ≤ j
                        · obtain ⟨dk, hf, hk, hst⟩ := hrel.out
                          have hsk := hf.1.1.trans HS.out
                          have hL := sless hk hsk (i := j) (j := a) (I := (j : Int)) (J := (a : Int)) (by omega) (by omega) rfl rfl
                          have HF := Lib.hid hf; have HK := Lib.hid hk; have HST := Lib.hid (hst hle); have HSK := Lib.hid hsk
                          clear hf hk hst hsk hrel
                          cases hlv : ltE dk[j]! dk[a]! with
                          | false =>
                            rw [hlv] at hL
                            have HL := Lib.hid hL; have HV := Lib.hid hlv; clear hL hlv
                            go_wp2_with fail
                            refine HL.out.mono ?_
                            rintro e w3 ⟨rfl, hb0⟩
                            have HN := Lib.hid (show PA2 w0 g cap a b d i (j - 1) w3 from ⟨dk, HF.out.down HV.out, HK.out.below hb0, fun _ => HST.out⟩)
                            clear hb0
                            go_wp2
                            go_roundw
                            case rel => exact ⟨j - 1, by congr 1; omega, by omega, by omega, by omega, by omega, HN⟩
                            case measure => simp [intOf]; omega
                          | true =>
                            rw [hlv] at hL
                            have HL := Lib.hid hL; have HV := Lib.hid hlv; clear hL hlv
                            go_wp2_with fail
                            refine HL.out.mono ?_
                            rintro e w3 ⟨rfl, hb0⟩
                            have hlt : i < j := by
                              rcases Nat.lt_or_ge i j with h | h
                              · exact h
                              · exfalso
                                have e : i = j := by omega
                                subst e
                                have h1 := HST.out; rw [HV.out] at h1; cases h1
                            have HK3 := Lib.hid (HK.out.below hb0)
                            clear hb0
                            have HSW := Lib.hid (sswap HK3.out HSK.out (i := i) (j := j) (I := (i : Int)) (J := (j : Int)) (by omega) (by omega) rfl rfl)
                            go_wp2_with fail
                            refine HSW.out.mono ?_
                            rintro e w4 ⟨rfl, hsa⟩
                            have HN := Lib.hid (show PA w0 g cap a b d (i + 1) (j - 1) w4 from ⟨_, HF.out.swap hai hlt hjb (by rw [HS.out]; omega) HST.out HV.out, hsa⟩)
                            clear hsa
                            go_wp2
                            go_roundw
                            case rel => exact ⟨i + 1, j - 1, by go_num, by congr 1; omega, by omega, by omega, by omega, by omega, HN⟩
                            case measure => simp [intOf]; omega
                        · have HE := Lib.hid hrel.out
                          clear hrel
                          have HIJ := Lib.hid (show i = j + 1 by omega)
                          have HSW := Lib.hid ((fun ⟨dk, hf, hk, _⟩ => ⟨dk, hf, sswap hk (hf.1.1.trans HS.out) (i := j) (j := a) (I := (j : Int)) (J := (a : Int)) (by omega) (by omega) rfl rfl⟩ : PA2 w0 g cap a b d i j _ → ∃ dk, PF a b d i j dk ∧ Calls Try.prog 66 #[.slice (some ⟨g, 0, none⟩) n cap, .int .i64 (j : Int), .int .i64 (a : Int)] _ fun e w' => e = .returned (.tuple #[]) ∧ SA w0 g cap (Sort.swp dk j a) w') HE.out)
                          obtain ⟨dk, hf, hsw⟩ := HSW.out
                          have HF := Lib.hid (hf.done HIJ.out (by omega) hjb (by rw [HS.out]; exact hbn)); have HSW2 := Lib.hid hsw
                          clear HE HSW hf hsw
                          go_wp2_with fail
                          refine HSW2.out.mono ?_
                          rintro e w4 ⟨rfl, hsa⟩
                          have HP := Lib.hid (show PartP w0 g cap a b d (.returned (.tuple #[.int .i64 (j : Int), .bool false])) w4 from ⟨j, false, _, rfl, by omega, hjb, HF.out, hsa⟩)
                          clear hsa
                          go_wp2
                          go_ret2
                          exact HP.out
                  · have HREL := Lib.hid (PA2.stop hrel.out hle)
                    clear hrel
                    go_wp2
                    clear hle
                    go_loopw [11] (fun vj wr => ∃ j : Nat, vj = .int .i64 j ∧ a ≤ j ∧ i ≤ j + 1 ∧ j < b ∧ j ≤ J0 ∧ Hid (PA2 w0 g cap a b d i j wr)) (fun vj _ => (intOf vj).toNat)
                    case atStart => exact ⟨j, rfl, by omega, by omega, by omega, by omega, HREL⟩
                    case round =>
                      clear HREL
                      obtain ⟨j, rfl, haj, hij, hjb, hjJ, hrel⟩ := hrel
                      by_cases hle : i ≤ j
                      · obtain ⟨dk, hf, hk, hst⟩ := hrel.out
                        have hsk := hf.1.1.trans HS.out
                        have hL := sless hk hsk (i := j) (j := a) (I := (j : Int)) (J := (a : Int)) (by omega) (by omega) rfl rfl
                        have HF := Lib.hid hf; have HK := Lib.hid hk; have HST := Lib.hid (hst hle); have HSK := Lib.hid hsk
                        clear hf hk hst hsk hrel
                        cases hlv : ltE dk[j]! dk[a]! with
                        | false =>
                          rw [hlv] at hL
                          have HL := Lib.hid hL; have HV := Lib.hid hlv; clear hL hlv
                          go_wp2_with fail
                          refine HL.out.mono ?_
                          rintro e w3 ⟨rfl, hb0⟩
                          have HN := Lib.hid (show PA2 w0 g cap a b d i (j - 1) w3 from ⟨dk, HF.out.down HV.out, HK.out.below hb0, fun _ => HST.out⟩)
                          clear hb0
                          go_wp2
                          go_roundw
                          case rel => exact ⟨j - 1, by congr 1; omega, by omega, by omega, by omega, by omega, HN⟩
                          case measure => simp [intOf]; omega
                        | true =>
                          rw [hlv] at hL
                          have HL := Lib.hid hL; have HV := Lib.hid hlv; clear hL hlv
                          go_wp2_with fail
                          refine HL.out.mono ?_
                          rintro e w3 ⟨rfl, hb0⟩
                          have hlt : i < j := by
                            rcases Nat.lt_or_ge i j with h | h
                            · exact h
                            · exfalso
                              have e : i = j := by omega
                              subst e
                              have h1 := HST.out; rw [HV.out] at h1; cases h1
                          have HK3 := Lib.hid (HK.out.below hb0)
                          clear hb0
                          have HSW := Lib.hid (sswap HK3.out HSK.out (i := i) (j := j) (I := (i : Int)) (J := (j : Int)) (by omega) (by omega) rfl rfl)
                          go_wp2_with fail
                          refine HSW.out.mono ?_
                          rintro e w4 ⟨rfl, hsa⟩
                          have HN := Lib.hid (show PA w0 g cap a b d (i + 1) (j - 1) w4 from ⟨_, HF.out.swap hai hlt hjb (by rw [HS.out]; omega) HST.out HV.out, hsa⟩)
                          clear hsa
                          go_wp2
                          go_roundw
                          case rel => exact ⟨i + 1, j - 1, by go_num, by congr 1; omega, by omega, by omega, by omega, by omega, HN⟩
                          case measure => simp [intOf]; omega
                      · have HE := Lib.hid hrel.out
                        clear hrel
                        have HIJ := Lib.hid (show i = j + 1 by omega)
                        have HSW := Lib.hid ((fun ⟨dk, hf, hk, _⟩ => ⟨dk, hf, sswap hk (hf.1.1.trans HS.out) (i := j) (j := a) (I := (j : Int)) (J := (a : Int)) (by omega) (by omega) rfl rfl⟩ : PA2 w0 g cap a b d i j _ → ∃ dk, PF a b d i j dk ∧ Calls Try.prog 66 #[.slice (some ⟨g, 0, none⟩) n cap, .int .i64 (j : Int), .int .i64 (a : Int)] _ fun e w' => e = .returned (.tuple #[]) ∧ SA w0 g cap (Sort.swp dk j a) w') HE.out)
                        obtain ⟨dk, hf, hsw⟩ := HSW.out
                        have HF := Lib.hid (hf.done HIJ.out (by omega) hjb (by rw [HS.out]; exact hbn)); have HSW2 := Lib.hid hsw
                        clear HE HSW hf hsw
                        go_wp2_with fail
                        refine HSW2.out.mono ?_
                        rintro e w4 ⟨rfl, hsa⟩
                        have HP := Lib.hid (show PartP w0 g cap a b d (.returned (.tuple #[.int .i64 (j : Int), .bool false])) w4 from ⟨j, false, _, rfl, by omega, hjb, HF.out, hsa⟩)
                        clear hsa
                        go_wp2
                        go_ret2
                        exact HP.out
          · have HE := Lib.hid hrel.out
            clear hrel
            have HIJ := Lib.hid (show i = j + 1 by omega)
            have HSW := Lib.hid ((fun ⟨dk, hf, hk, _⟩ => ⟨dk, hf, sswap hk (hf.1.1.trans HS.out) (i := j) (j := a) (I := (j : Int)) (J := (a : Int)) (by omega) (by omega) rfl rfl⟩ : PA2 w0 g cap a b d i j _ → ∃ dk, PF a b d i j dk ∧ Calls Try.prog 66 #[.slice (some ⟨g, 0, none⟩) n cap, .int .i64 (j : Int), .int .i64 (a : Int)] _ fun e w' => e = .returned (.tuple #[]) ∧ SA w0 g cap (Sort.swp dk j a) w') HE.out)
            obtain ⟨dk, hf, hsw⟩ := HSW.out
            have HF := Lib.hid (hf.done HIJ.out (by omega) hjb (by rw [HS.out]; exact hbn)); have HSW2 := Lib.hid hsw
            clear HE HSW hf hsw
            go_wp2_with fail
            refine HSW2.out.mono ?_
            rintro e w4 ⟨rfl, hsa⟩
            have HP := Lib.hid (show PartP w0 g cap a b d (.returned (.tuple #[.int .i64 (j : Int), .bool true])) w4 from ⟨j, true, _, rfl, by omega, hjb, HF.out, hsa⟩)
            clear hsa
            go_wp2
            go_ret2
            exact HP.out
    · have HREL := Lib.hid (PA2.stop hrel.out hle)
      clear hrel
      go_wp2
      clear hle
      go_loopw [11] (fun vj wr => ∃ j : Nat, vj = .int .i64 j ∧ a ≤ j ∧ i ≤ j + 1 ∧ j < b ∧ j ≤ J0 ∧ Hid (PA2 w0 g cap a b d i j wr)) (fun vj _ => (intOf vj).toNat)
      case atStart => exact ⟨j, rfl, by omega, by omega, by omega, by omega, HREL⟩
      case round =>
        clear HREL
        obtain ⟨j, rfl, haj, hij, hjb, hjJ, hrel⟩ := hrel
        by_cases hle : i ≤ j
        · obtain ⟨dk, hf, hk, hst⟩ := hrel.out
          have hsk := hf.1.1.trans HS.out
          have hL := sless hk hsk (i := j) (j := a) (I := (j : Int)) (J := (a : Int)) (by omega) (by omega) rfl rfl
          have HF := Lib.hid hf; have HK := Lib.hid hk; have HST := Lib.hid (hst hle); have HSK := Lib.hid hsk
          clear hf hk hst hsk hrel
          cases hlv : ltE dk[j]! dk[a]! with
          | false =>
            rw [hlv] at hL
            have HL := Lib.hid hL; have HV := Lib.hid hlv; clear hL hlv
            go_wp2_with fail
            refine HL.out.mono ?_
            rintro e w3 ⟨rfl, hb0⟩
            have HN := Lib.hid (show PA2 w0 g cap a b d i (j - 1) w3 from ⟨dk, HF.out.down HV.out, HK.out.below hb0, fun _ => HST.out⟩)
            clear hb0
            go_wp2
            go_roundw
            case rel => exact ⟨j - 1, by congr 1; omega, by omega, by omega, by omega, by omega, HN⟩
            case measure => simp [intOf]; omega
          | true =>
            rw [hlv] at hL
            have HL := Lib.hid hL; have HV := Lib.hid hlv; clear hL hlv
            go_wp2_with fail
            refine HL.out.mono ?_
            rintro e w3 ⟨rfl, hb0⟩
            have hlt : i < j := by
              rcases Nat.lt_or_ge i j with h | h
              · exact h
              · exfalso
                have e : i = j := by omega
                subst e
                have h1 := HST.out; rw [HV.out] at h1; cases h1
            have HK3 := Lib.hid (HK.out.below hb0)
            clear hb0
            have HSW := Lib.hid (sswap HK3.out HSK.out (i := i) (j := j) (I := (i : Int)) (J := (j : Int)) (by omega) (by omega) rfl rfl)
            go_wp2_with fail
            refine HSW.out.mono ?_
            rintro e w4 ⟨rfl, hsa⟩
            have HREL0 := Lib.hid (show PA w0 g cap a b d (i + 1) (j - 1) w4 from ⟨_, HF.out.swap hai hlt hjb (by rw [HS.out]; omega) HST.out HV.out, hsa⟩)
            clear hsa HSW HF HST HV HSK HK3 HK HL
            go_wp2
            go_loopw [10, 11] (fun vi vj wr => ∃ i j : Nat, vi = .int .i64 i ∧ vj = .int .i64 j ∧ a < i ∧ a ≤ j ∧ i ≤ j + 1 ∧ j < b ∧ Hid (PA w0 g cap a b d i j wr)) (fun vi vj _ => (intOf vj + 1 - intOf vi).toNat)
            case atStart => exact ⟨i + 1, j - 1, by go_num, by congr 1; omega, by omega, by omega, by omega, by omega, HREL0⟩
            case round =>
              clear HREL0 hlt hle hij hai haj hjb hjJ hiI hI0 hJ0
              obtain ⟨i, j, rfl, rfl, hai, haj, hij, hjb, HREL⟩ := hrel
              go_wp2
              obtain ⟨I0, hI0⟩ : ∃ I0 : Nat, I0 ≤ i ∧ i ≤ I0 := ⟨i, Nat.le_refl _, Nat.le_refl _⟩
              obtain ⟨J0, hJ0⟩ : ∃ J0 : Nat, J0 ≤ j ∧ j ≤ J0 := ⟨j, Nat.le_refl _, Nat.le_refl _⟩
              go_loopw [10] (fun vi wr => ∃ i : Nat, vi = .int .i64 i ∧ a < i ∧ i ≤ j + 1 ∧ I0 ≤ i ∧ Hid (PA w0 g cap a b d i j wr)) (fun vi _ => (b + 1 - (intOf vi).toNat))
              case atStart => exact ⟨i, by first | rfl | go_num, by omega, by omega, by omega, HREL⟩
              case round =>
                clear HREL
                obtain ⟨i, rfl, hai, hij, hiI, hrel⟩ := hrel
                by_cases hle : i ≤ j
                · obtain ⟨dk, hf, hk⟩ := hrel.out
                  have hsk := hf.1.1.trans HS.out
                  have hL := sless hk hsk (i := i) (j := a) (I := (i : Int)) (J := (a : Int)) (by omega) (by omega) rfl rfl
                  have HF := Lib.hid hf; have HK := Lib.hid hk
                  clear hf hk hrel hsk
                  cases hlv : ltE dk[i]! dk[a]! with
                  | true =>
                    rw [hlv] at hL
                    have HL := Lib.hid hL; have HV := Lib.hid hlv; clear hL hlv
                    go_wp2_with fail
                    refine HL.out.mono ?_
                    rintro e w3 ⟨rfl, hb0⟩
                    have HN := Lib.hid (show PA w0 g cap a b d (i + 1) j w3 from ⟨dk, HF.out.up HV.out, HK.out.below hb0⟩)
                    clear hb0
                    go_wp2
                    go_roundw
                    case rel => exact ⟨i + 1, by go_num, by omega, by omega, by omega, HN⟩
                    case measure => simp [intOf]; omega
                  | false =>
                    rw [hlv] at hL
                    have HL := Lib.hid hL; have HV := Lib.hid hlv; clear hL hlv
                    go_wp2_with fail
                    refine HL.out.mono ?_
                    rintro e w3 ⟨rfl, hb0⟩
                    have HREL := Lib.hid (show PA2 w0 g cap a b d i j w3 from ⟨dk, HF.out, HK.out.below hb0, fun _ => HV.out⟩)
                    clear hb0 HL HK HF HV hle
                    go_wp2
                    go_loopw [11] (fun vj wr => ∃ j : Nat, vj = .int .i64 j ∧ a ≤ j ∧ i ≤ j + 1 ∧ j < b ∧ j ≤ J0 ∧ Hid (PA2 w0 g cap a b d i j wr)) (fun vj _ => (intOf vj).toNat)
                    case atStart => exact ⟨j, rfl, by omega, by omega, by omega, by omega, HREL⟩
                    case round =>
                      clear HREL
                      obtain ⟨j, rfl, haj, hij, hjb, hjJ, hrel⟩ := hrel
                      by_cases hle : i ≤ j
                      · obtain ⟨dk, hf, hk, hst⟩ := hrel.out
                        have hsk := hf.1.1.trans HS.out
                        have hL := sless hk hsk (i := j) (j := a) (I := (j : Int)) (J := (a : Int)) (by omega) (by omega) rfl rfl
                        have HF := Lib.hid hf; have HK := Lib.hid hk; have HST := Lib.hid (hst hle); have HSK := Lib.hid hsk
                        clear hf hk hst hsk hrel
                        cases hlv : ltE dk[j]! dk[a]! with
                        | false =>
                          rw [hlv] at hL
                          have HL := Lib.hid hL; have HV := Lib.hid hlv; clear hL hlv
                          go_wp2_with fail
                          refine HL.out.mono ?_
                          rintro e w3 ⟨rfl, hb0⟩
                          have HN := Lib.hid (show PA2 w0 g cap a b d i (j - 1) w3 from ⟨dk, HF.out.down HV.out, HK.out.below hb0, fun _ => HST.out⟩)
                          clear hb0
                          go_wp2
                          go_roundw
                          case rel => exact ⟨j - 1, by congr 1; omega, by omega, by omega, by omega, by omega, HN⟩
                          case measure => simp [intOf]; omega
                        | true =>
                          rw [hlv] at hL
                          have HL := Lib.hid hL; have HV := Lib.hid hlv; clear hL hlv
                          go_wp2_with fail
                          refine HL.out.mono ?_
                          rintro e w3 ⟨rfl, hb0⟩
                          have hlt : i < j := by
                            rcases Nat.lt_or_ge i j with h | h
                            · exact h
                            · exfalso
                              have e : i = j := by omega
                              subst e
                              have h1 := HST.out; rw [HV.out] at h1; cases h1
                          have HK3 := Lib.hid (HK.out.below hb0)
                          clear hb0
                          have HSW := Lib.hid (sswap HK3.out HSK.out (i := i) (j := j) (I := (i : Int)) (J := (j : Int)) (by omega) (by omega) rfl rfl)
                          go_wp2_with fail
                          refine HSW.out.mono ?_
                          rintro e w4 ⟨rfl, hsa⟩
                          have HN := Lib.hid (show PA w0 g cap a b d (i + 1) (j - 1) w4 from ⟨_, HF.out.swap hai hlt hjb (by rw [HS.out]; omega) HST.out HV.out, hsa⟩)
                          clear hsa
                          go_wp2
                          go_roundw
                          case rel => exact ⟨i + 1, j - 1, by go_num, by congr 1; omega, by omega, by omega, by omega, by omega, HN⟩
                          case measure => simp [intOf]; omega
                      · have HE := Lib.hid hrel.out
                        clear hrel
                        have HIJ := Lib.hid (show i = j + 1 by omega)
                        have HSW := Lib.hid ((fun ⟨dk, hf, hk, _⟩ => ⟨dk, hf, sswap hk (hf.1.1.trans HS.out) (i := j) (j := a) (I := (j : Int)) (J := (a : Int)) (by omega) (by omega) rfl rfl⟩ : PA2 w0 g cap a b d i j _ → ∃ dk, PF a b d i j dk ∧ Calls Try.prog 66 #[.slice (some ⟨g, 0, none⟩) n cap, .int .i64 (j : Int), .int .i64 (a : Int)] _ fun e w' => e = .returned (.tuple #[]) ∧ SA w0 g cap (Sort.swp dk j a) w') HE.out)
                        obtain ⟨dk, hf, hsw⟩ := HSW.out
                        have HF := Lib.hid (hf.done HIJ.out (by omega) hjb (by rw [HS.out]; exact hbn)); have HSW2 := Lib.hid hsw
                        clear HE HSW hf hsw
                        go_wp2_with fail
                        refine HSW2.out.mono ?_
                        rintro e w4 ⟨rfl, hsa⟩
                        have HP := Lib.hid (show PartP w0 g cap a b d (.returned (.tuple #[.int .i64 (j : Int), .bool false])) w4 from ⟨j, false, _, rfl, by omega, hjb, HF.out, hsa⟩)
                        clear hsa
                        go_wp2
                        go_ret2
                        exact HP.out
                · have HREL := Lib.hid (PA2.stop hrel.out hle)
                  clear hrel
                  go_wp2
                  clear hle
                  go_loopw [11] (fun vj wr => ∃ j : Nat, vj = .int .i64 j ∧ a ≤ j ∧ i ≤ j + 1 ∧ j < b ∧ j ≤ J0 ∧ Hid (PA2 w0 g cap a b d i j wr)) (fun vj _ => (intOf vj).toNat)
                  case atStart => exact ⟨j, rfl, by omega, by omega, by omega, by omega, HREL⟩
                  case round =>
                    clear HREL
                    obtain ⟨j, rfl, haj, hij, hjb, hjJ, hrel⟩ := hrel
                    by_cases hle : i ≤ j
                    · obtain ⟨dk, hf, hk, hst⟩ := hrel.out
                      have hsk := hf.1.1.trans HS.out
                      have hL := sless hk hsk (i := j) (j := a) (I := (j : Int)) (J := (a : Int)) (by omega) (by omega) rfl rfl
                      have HF := Lib.hid hf; have HK := Lib.hid hk; have HST := Lib.hid (hst hle); have HSK := Lib.hid hsk
                      clear hf hk hst hsk hrel
                      cases hlv : ltE dk[j]! dk[a]! with
                      | false =>
                        rw [hlv] at hL
                        have HL := Lib.hid hL; have HV := Lib.hid hlv; clear hL hlv
                        go_wp2_with fail
                        refine HL.out.mono ?_
                        rintro e w3 ⟨rfl, hb0⟩
                        have HN := Lib.hid (show PA2 w0 g cap a b d i (j - 1) w3 from ⟨dk, HF.out.down HV.out, HK.out.below hb0, fun _ => HST.out⟩)
                        clear hb0
                        go_wp2
                        go_roundw
                        case rel => exact ⟨j - 1, by congr 1; omega, by omega, by omega, by omega, by omega, HN⟩
                        case measure => simp [intOf]; omega
                      | true =>
                        rw [hlv] at hL
                        have HL := Lib.hid hL; have HV := Lib.hid hlv; clear hL hlv
                        go_wp2_with fail
                        refine HL.out.mono ?_
                        rintro e w3 ⟨rfl, hb0⟩
                        have hlt : i < j := by
                          rcases Nat.lt_or_ge i j with h | h
                          · exact h
                          · exfalso
                            have e : i = j := by omega
                            subst e
                            have h1 := HST.out; rw [HV.out] at h1; cases h1
                        have HK3 := Lib.hid (HK.out.below hb0)
                        clear hb0
                        have HSW := Lib.hid (sswap HK3.out HSK.out (i := i) (j := j) (I := (i : Int)) (J := (j : Int)) (by omega) (by omega) rfl rfl)
                        go_wp2_with fail
                        refine HSW.out.mono ?_
                        rintro e w4 ⟨rfl, hsa⟩
                        have HN := Lib.hid (show PA w0 g cap a b d (i + 1) (j - 1) w4 from ⟨_, HF.out.swap hai hlt hjb (by rw [HS.out]; omega) HST.out HV.out, hsa⟩)
                        clear hsa
                        go_wp2
                        go_roundw
                        case rel => exact ⟨i + 1, j - 1, by go_num, by congr 1; omega, by omega, by omega, by omega, by omega, HN⟩
                        case measure => simp [intOf]; omega
                    · have HE := Lib.hid hrel.out
                      clear hrel
                      have HIJ := Lib.hid (show i = j + 1 by omega)
                      have HSW := Lib.hid ((fun ⟨dk, hf, hk, _⟩ => ⟨dk, hf, sswap hk (hf.1.1.trans HS.out) (i := j) (j := a) (I := (j : Int)) (J := (a : Int)) (by omega) (by omega) rfl rfl⟩ : PA2 w0 g cap a b d i j _ → ∃ dk, PF a b d i j dk ∧ Calls Try.prog 66 #[.slice (some ⟨g, 0, none⟩) n cap, .int .i64 (j : Int), .int .i64 (a : Int)] _ fun e w' => e = .returned (.tuple #[]) ∧ SA w0 g cap (Sort.swp dk j a) w') HE.out)
                      obtain ⟨dk, hf, hsw⟩ := HSW.out
                      have HF := Lib.hid (hf.done HIJ.out (by omega) hjb (by rw [HS.out]; exact hbn)); have HSW2 := Lib.hid hsw
                      clear HE HSW hf hsw
                      go_wp2_with fail
                      refine HSW2.out.mono ?_
                      rintro e w4 ⟨rfl, hsa⟩
                      have HP := Lib.hid (show PartP w0 g cap a b d (.returned (.tuple #[.int .i64 (j : Int), .bool false])) w4 from ⟨j, false, _, rfl, by omega, hjb, HF.out, hsa⟩)
                      clear hsa
                      go_wp2
                      go_ret2
                      exact HP.out
        · have HE := Lib.hid hrel.out
          clear hrel
          have HIJ := Lib.hid (show i = j + 1 by omega)
          have HSW := Lib.hid ((fun ⟨dk, hf, hk, _⟩ => ⟨dk, hf, sswap hk (hf.1.1.trans HS.out) (i := j) (j := a) (I := (j : Int)) (J := (a : Int)) (by omega) (by omega) rfl rfl⟩ : PA2 w0 g cap a b d i j _ → ∃ dk, PF a b d i j dk ∧ Calls Try.prog 66 #[.slice (some ⟨g, 0, none⟩) n cap, .int .i64 (j : Int), .int .i64 (a : Int)] _ fun e w' => e = .returned (.tuple #[]) ∧ SA w0 g cap (Sort.swp dk j a) w') HE.out)
          obtain ⟨dk, hf, hsw⟩ := HSW.out
          have HF := Lib.hid (hf.done HIJ.out (by omega) hjb (by rw [HS.out]; exact hbn)); have HSW2 := Lib.hid hsw
          clear HE HSW hf hsw
          go_wp2_with fail
          refine HSW2.out.mono ?_
          rintro e w4 ⟨rfl, hsa⟩
          have HP := Lib.hid (show PartP w0 g cap a b d (.returned (.tuple #[.int .i64 (j : Int), .bool true])) w4 from ⟨j, true, _, rfl, by omega, hjb, HF.out, hsa⟩)
          clear hsa
          go_wp2
          go_ret2
          exact HP.out
end Go.Proofs.Ytdmmglnpeoeicaa
