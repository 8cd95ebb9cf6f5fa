/- slices.Sort at uint64: partition, partitionEqual, partialInsertionSort, pdqsort, Sort. -/
import Derived.Test.YtdbiaijpbkmfhaaUsA
namespace Go.Proofs.Ytdbiaijpbkmfhaa.U6
section
set_option linter.unusedVariables false
set_option linter.unusedSimpArgs false
open Go.RowKit
/-- What partition keeps: below i all are less than the pivot, above j none is. -/
def PF (a b : Nat) (d : Array En) (i j : Nat) (dk : Array En) : Prop :=
  Sort.PermIn a b d dk ∧ (∀ k, a < k → k < i → ltE dk[k]! dk[a]! = true) ∧ (∀ k, j < k → k < b → ltE dk[k]! dk[a]! = false)
theorem PF.up {a b i j : Nat} {d dk : Array En} (h : PF a b d i j dk) (hl : ltE dk[i]! dk[a]! = true) : PF a b d (i + 1) j dk :=
  ⟨h.1, fun k h1 h2 => by by_cases e : k = i; (subst e; exact hl); exact h.2.1 k h1 (by omega), h.2.2⟩
theorem PF.down {a b i j : Nat} {d dk : Array En} (h : PF a b d i j dk) (hl : ltE dk[j]! dk[a]! = false) : PF a b d i (j - 1) dk :=
  ⟨h.1, h.2.1, fun k h1 h2 => by by_cases e : k = j; (subst e; exact hl); exact h.2.2 k (by omega) h2⟩
theorem PF.swap {a b i j : Nat} {d dk : Array En} (h : PF a b d i j dk) (hai : a < i) (hij : i < j) (hjb : j < b) (hb : b ≤ d.size) (hi : ltE dk[i]! dk[a]! = false) (hj : ltE dk[j]! dk[a]! = true) : PF a b d (i + 1) (j - 1) (Sort.swp dk i j) := by
  have hs := h.1.1
  have ha : (Sort.swp dk i j)[a]! = dk[a]! := Sort.swp_other dk i j a (by omega) (by omega)
  refine ⟨Sort.permIn_trans d dk _ a b h.1 (Sort.swp_permIn dk a b i j (by omega) (by omega) (by omega) (by omega) (by omega)), fun k h1 h2 => ?_, fun k h1 h2 => ?_⟩
  · rw [ha]
    by_cases e : k = i
    · subst e; rw [Sort.swp_left dk k j (by omega) (by omega)]; exact hj
    · rw [Sort.swp_other dk i j k e (by omega)]; exact h.2.1 k h1 (by omega)
  · rw [ha]
    by_cases e : k = j
    · subst e; rw [Sort.swp_right dk i k (by omega)]; exact hi
    · rw [Sort.swp_other dk i j k (by omega) e]; exact h.2.2 k (by omega) h2
theorem PF.start {a b p : Nat} {d : Array En} (hap : a ≤ p) (hpb : p < b) (hb : b ≤ d.size) : PF a b d (a + 1) (b - 1) (Sort.swp d a p) :=
  ⟨Sort.swp_permIn d a b a p (Nat.le_refl _) (by omega) hap hpb hb, fun k h1 h2 => by omega, fun k h1 h2 => by omega⟩
/-- What partition leaves. -/
def PartF (a b : Nat) (d : Array En) (m : Nat) (d' : Array En) : Prop :=
  Sort.PermIn a b d d' ∧ (∀ k, a ≤ k → k < m → ltE d'[k]! d'[m]! = true) ∧ (∀ k, m < k → k < b → ltE d'[k]! d'[m]! = false)
theorem PF.done {a b i j : Nat} {d dk : Array En} (h : PF a b d i j dk) (hij : i = j + 1) (haj : a ≤ j) (hjb : j < b) (hb : b ≤ d.size) : PartF a b d j (Sort.swp dk j a) := by
  have hs := h.1.1
  have hp := Sort.permIn_trans d dk _ a b h.1 (Sort.swp_permIn dk a b j a haj hjb (Nat.le_refl _) (by omega) (by omega))
  by_cases e : j = a
  · subst e
    have hsw : ∀ k, (Sort.swp dk j j)[k]! = dk[k]! := fun k => by
      by_cases ek : k = j
      · subst ek; rw [Sort.swp_right dk k k (by omega)]
      · exact Sort.swp_other dk j j k ek ek
    refine ⟨hp, fun k h1 h2 => by omega, fun k h1 h2 => ?_⟩
    rw [hsw, hsw]; exact h.2.2 k h1 h2
  · have hj' : (Sort.swp dk j a)[j]! = dk[a]! := Sort.swp_left dk j a (by omega) e
    have ha' : (Sort.swp dk j a)[a]! = dk[j]! := Sort.swp_right dk j a (by omega)
    refine ⟨hp, fun k h1 h2 => ?_, fun k h1 h2 => ?_⟩
    · rw [hj']
      by_cases ek : k = a
      · subst ek; rw [ha']; exact h.2.1 j (by omega) (by omega)
      · rw [Sort.swp_other dk j a k (by omega) ek]; exact h.2.1 k (by omega) (by omega)
    · rw [hj', Sort.swp_other dk j a k (by omega) (by omega)]; exact h.2.2 k h1 h2
/-- What partitionEqual keeps. -/
def EF (a b : Nat) (d : Array En) (P : En) (i j : Nat) (dk : Array En) : Prop :=
  Sort.PermIn a b d dk ∧ (∀ k, a < k → k < i → ltE dk[a]! dk[k]! = false) ∧ (∀ k, j < k → k < b → ltE dk[a]! dk[k]! = true) ∧ dk[a]! = P
theorem EF.up {a b i j : Nat} {d dk : Array En} {P : En} (h : EF a b d P i j dk) (hl : ltE dk[a]! dk[i]! = false) : EF a b d P (i + 1) j dk :=
  ⟨h.1, fun k h1 h2 => by by_cases e : k = i; (subst e; exact hl); exact h.2.1 k h1 (by omega), h.2.2⟩
theorem EF.down {a b i j : Nat} {d dk : Array En} {P : En} (h : EF a b d P i j dk) (hl : ltE dk[a]! dk[j]! = true) : EF a b d P i (j - 1) dk :=
  ⟨h.1, h.2.1, fun k h1 h2 => by by_cases e : k = j; (subst e; exact hl); exact h.2.2.1 k (by omega) h2, h.2.2.2⟩
theorem EF.swap {a b i j : Nat} {d dk : Array En} {P : En} (h : EF a b d P i j dk) (hai : a < i) (hij : i < j) (hjb : j < b) (hb : b ≤ d.size) (hi : ltE dk[a]! dk[i]! = true) (hj : ltE dk[a]! dk[j]! = false) : EF a b d P (i + 1) (j - 1) (Sort.swp dk i j) := by
  have hs := h.1.1
  have ha : (Sort.swp dk i j)[a]! = dk[a]! := Sort.swp_other dk i j a (by omega) (by omega)
  refine ⟨Sort.permIn_trans d dk _ a b h.1 (Sort.swp_permIn dk a b i j (by omega) (by omega) (by omega) (by omega) (by omega)), fun k h1 h2 => ?_, fun k h1 h2 => ?_, ha.trans h.2.2.2⟩
  · rw [ha]
    by_cases e : k = i
    · subst e; rw [Sort.swp_left dk k j (by omega) (by omega)]; exact hj
    · rw [Sort.swp_other dk i j k e (by omega)]; exact h.2.1 k h1 (by omega)
  · rw [ha]
    by_cases e : k = j
    · subst e; rw [Sort.swp_right dk i k (by omega)]; exact hi
    · rw [Sort.swp_other dk i j k (by omega) e]; exact h.2.2.1 k (by omega) h2
theorem EF.start {a b p : Nat} {d : Array En} (hap : a ≤ p) (hpb : p < b) (hb : b ≤ d.size) : EF a b d d[p]! (a + 1) (b - 1) (Sort.swp d a p) :=
  ⟨Sort.swp_permIn d a b a p (Nat.le_refl _) (by omega) hap hpb hb, fun k h1 h2 => by omega, fun k h1 h2 => by omega, by
    by_cases e : a = p
    · subst e; exact Sort.swp_right d a a (by omega)
    · exact Sort.swp_left d a p (by omega) e⟩
/-- What partitionEqual leaves: the first entry, P, is not ahead of those below m, and ahead of those from m on. -/
def EqF (a b : Nat) (d : Array En) (P : En) (m : Nat) (d' : Array En) : Prop :=
  Sort.PermIn a b d d' ∧ a < m ∧ m ≤ b ∧ (∀ k, a ≤ k → k < m → ltE P d'[k]! = false) ∧ (∀ k, m ≤ k → k < b → ltE P d'[k]! = true)
theorem EF.done {a b i j : Nat} {d dk : Array En} {P : En} (h : EF a b d P i j dk) (hij : i = j + 1) (haj : a ≤ j) (hjb : j < b) : EqF a b d P i dk := by
  obtain ⟨h1, h2, h3, h4⟩ := h
  subst h4
  exact ⟨h1, by omega, by omega, fun k k1 k2 => by by_cases e : k = a; (subst e; exact swo_ltE.irrefl _); exact h2 k (by omega) k2, fun k k1 k2 => h3 k (by omega) k2⟩
def PA (w0 : World) (g cap a b : Nat) (d : Array En) (i j : Nat) (w : World) : Prop := ∃ dk, PF a b d i j dk ∧ SA w0 g cap dk w
def PA2 (w0 : World) (g cap a b : Nat) (d : Array En) (i j : Nat) (w : World) : Prop := ∃ dk, PF a b d i j dk ∧ SA w0 g cap dk w ∧ (i ≤ j → ltE dk[i]! dk[a]! = false)
def QA (w0 : World) (g cap a b : Nat) (d : Array En) (P : En) (i j : Nat) (w : World) : Prop := ∃ dk, EF a b d P i j dk ∧ SA w0 g cap dk w
def QA2 (w0 : World) (g cap a b : Nat) (d : Array En) (P : En) (i j : Nat) (w : World) : Prop := ∃ dk, EF a b d P i j dk ∧ SA w0 g cap dk w ∧ (i ≤ j → ltE dk[a]! dk[i]! = true)
def PartP (w0 : World) (g cap a b : Nat) (d : Array En) (e : Ending) (w' : World) : Prop :=
  ∃ (m : Nat) (r : Bool) (d' : Array En), e = .returned (.tuple #[.int .i64 (m : Int), .bool r]) ∧ a ≤ m ∧ m < b ∧ PartF a b d m d' ∧ SA w0 g cap d' w'
def EqP (w0 : World) (g cap a b : Nat) (d : Array En) (P : En) (e : Ending) (w' : World) : Prop :=
  ∃ (m : Nat) (d' : Array En), e = .returned (.int .i64 (m : Int)) ∧ EqF a b d P m d' ∧ SA w0 g cap d' w'
theorem PA.name9 {w0 w : World} {g cap a b i j : Nat} {d : Array En} (h : PA w0 g cap a b d i j w) (q : Nat) : ∃ w', w.drewN q = w' ∧ PA w0 g cap a b d i j w' := by
  obtain ⟨dk, h1, h2⟩ := h
  exact ⟨_, rfl, dk, h1, h2.drewN q⟩
theorem PA2.name9 {w0 w : World} {g cap a b i j : Nat} {d : Array En} (h : PA2 w0 g cap a b d i j w) (q : Nat) : ∃ w', w.drewN q = w' ∧ PA2 w0 g cap a b d i j w' := by
  obtain ⟨dk, h1, h2, h3⟩ := h
  exact ⟨_, rfl, dk, h1, h2.drewN q, h3⟩
theorem QA.name9 {w0 w : World} {g cap a b i j : Nat} {d : Array En} {P : En} (h : QA w0 g cap a b d P i j w) (q : Nat) : ∃ w', w.drewN q = w' ∧ QA w0 g cap a b d P i j w' := by
  obtain ⟨dk, h1, h2⟩ := h
  exact ⟨_, rfl, dk, h1, h2.drewN q⟩
theorem QA2.name9 {w0 w : World} {g cap a b i j : Nat} {d : Array En} {P : En} (h : QA2 w0 g cap a b d P i j w) (q : Nat) : ∃ w', w.drewN q = w' ∧ QA2 w0 g cap a b d P i j w' := by
  obtain ⟨dk, h1, h2, h3⟩ := h
  exact ⟨_, rfl, dk, h1, h2.drewN q, h3⟩
theorem PA2.stop {w0 w : World} {g cap a b i j : Nat} {d : Array En} (h : PA w0 g cap a b d i j w) (hij : ¬ i ≤ j) : PA2 w0 g cap a b d i j w := by
  obtain ⟨dk, h1, h2⟩ := h; exact ⟨dk, h1, h2, fun h => absurd h hij⟩
theorem QA2.stop {w0 w : World} {g cap a b i j : Nat} {d : Array En} {P : En} (h : QA w0 g cap a b d P i j w) (hij : ¬ i ≤ j) : QA2 w0 g cap a b d P i j w := by
  obtain ⟨dk, h1, h2⟩ := h; exact ⟨dk, h1, h2, fun h => absurd h hij⟩
set_option maxHeartbeats 8000000 in
theorem speq_any (w0 : World) (g cap n a b p : Nat) (d : Array En) (w : World) (h : SA w0 g cap d w) (hs : d.size = n) (hap : a ≤ p) (hpb : p < b) (hbn : b ≤ n) (hn : n ≤ 2305843009213693951) :
    Calls Try.prog 66 #[.slice (some ⟨g, 0, none⟩) n cap, .int .i64 (a : Int), .int .i64 (b : Int), .int .i64 (p : Int)] w fun e w' => EqP w0 g cap a b d d[p]! e w' := by
  obtain ⟨-, -, b1, p1, t1, q1⟩ := (SA.at_ h hs (i := a) (I := (a : Int)) (by omega) rfl)
  obtain ⟨-, -, b2, p2, t2, q2⟩ := (SA.at_ h hs (i := p) (I := (p : Int)) (by omega) rfl)
  obtain ⟨xv, yv, c1, c2, f1, f2, hsw9⟩ := SA.swp9 h hs (i := a) (j := p) (by omega) (by omega)
  have HSW := Lib.hid hsw9; clear hsw9
  have c3 := SA.mid h hs (i := a) (j := p) (by omega) (by omega) c1 c2
  have HS := Lib.hid hs
  have HST := Lib.hid (EF.start (a := a) (b := b) (p := p) (d := d) hap hpb (by omega))
  generalize d[p]! = P at *
  clear h hs
  go_enter Try.func66, Try.ntmps66
  go_wp2_with fail
  go_region
  obtain ⟨w2, hw9, hsa⟩ := SA.word HSW.out
  rw [hw9]; clear hw9 c3 c1 c2 f1 f2 b1 b2 p1 p2 t1 t2 q1 q2 HSW
  have HREL0 := Lib.hid (show QA w0 g cap a b d P (a + 1) (b - 1) w2 from ⟨_, HST.out, hsa⟩)
  clear hsa HST
  go_wp2
  go_loopw [9, 10] (fun vi vj wr => ∃ i j : Nat, vi = .int .i64 i ∧ vj = .int .i64 j ∧ a < i ∧ a ≤ j ∧ i ≤ j + 1 ∧ j < b ∧ Hid (QA w0 g cap a b d P i j wr)) (fun vi vj _ => (intOf vj + 1 - intOf vi).toNat)
  case atStart => exact ⟨a + 1, b - 1, by go_num, by congr 1; omega, by omega, by omega, by omega, by omega, HREL0⟩
  case round =>
    clear HREL0
    obtain ⟨i, j, rfl, rfl, hai, haj, hij, hjb, HREL⟩ := hrel
    go_wp2
    obtain ⟨I0, hI0⟩ : ∃ I0 : Nat, I0 ≤ i ∧ i ≤ I0 := ⟨i, Nat.le_refl _, Nat.le_refl _⟩
    obtain ⟨J0, hJ0⟩ : ∃ J0 : Nat, J0 ≤ j ∧ j ≤ J0 := ⟨j, Nat.le_refl _, Nat.le_refl _⟩
    go_loopw [9] (fun vi wr => ∃ i : Nat, vi = .int .i64 i ∧ a < i ∧ i ≤ j + 1 ∧ I0 ≤ i ∧ Hid (QA w0 g cap a b d P i j wr)) (fun vi _ => (b + 1 - (intOf vi).toNat))
    case atStart => exact ⟨i, by first | rfl | go_num, by omega, by omega, by omega, HREL⟩
    case round =>
      clear HREL
      obtain ⟨i, rfl, hai, hij, hiI, hrel⟩ := hrel
      by_cases hle : i ≤ j
      · obtain ⟨dk, hf, hk⟩ := hrel.out
        have hsk := hf.1.1.trans HS.out
        have HF := Lib.hid hf; have HK := Lib.hid hk; have HSK := Lib.hid hsk
        clear hf hk hrel hsk
        obtain ⟨-, -, b1, p1, t1, q1⟩ := (SA.at_ HK.out HSK.out (i := a) (I := (a : Int)) (by omega) rfl)
        obtain ⟨-, -, b2, p2, t2, q2⟩ := (SA.at_ HK.out HSK.out (i := i) (I := (i : Int)) (by omega) rfl)
        cases hlv : ltE dk[a]! dk[i]! with
        | false =>
          obtain ⟨xv, yv, c1, c2, hl9⟩ := SA.lss HK.out HSK.out (i := a) (j := i) (by omega) (by omega) hlv
          have HL := Lib.hid hl9; clear hl9
          have HV := Lib.hid hlv; clear hlv
          go_wp2_with fail
          go_quiet (first | (go_at_call 65; exact Calls.quiet_of_same (HL.out _)))
          obtain ⟨w3, hw9, hb0⟩ := SA.name HK.out nq
          rw [hw9]; clear hw9 c1 c2 b1 b2 p1 p2 t1 t2 q1 q2 HL
          have HN := Lib.hid (show QA w0 g cap a b d P (i + 1) j w3 from ⟨dk, HF.out.up HV.out, HK.out.below hb0⟩)
          clear hb0
          go_wp2
          go_roundw
          case rel => exact ⟨i + 1, by go_num, by omega, by omega, by omega, HN⟩
          case measure => simp [intOf]; omega
        | true =>
          obtain ⟨xv, yv, c1, c2, hl9⟩ := SA.lss HK.out HSK.out (i := a) (j := i) (by omega) (by omega) hlv
          have HL := Lib.hid hl9; clear hl9
          have HV := Lib.hid hlv; clear hlv
          go_wp2_with fail
          go_quiet (first | (go_at_call 65; exact Calls.quiet_of_same (HL.out _)))
          obtain ⟨w3, hw9, hb0⟩ := SA.name HK.out nq
          rw [hw9]; clear hw9 c1 c2 b1 b2 p1 p2 t1 t2 q1 q2 HL
          have HREL := Lib.hid (show QA2 w0 g cap a b d P i j w3 from ⟨dk, HF.out, HK.out.below hb0, fun _ => HV.out⟩)
          clear hb0 HK HF HV hle
          go_wp2
          go_loopw [10] (fun vj wr => ∃ j : Nat, vj = .int .i64 j ∧ a ≤ j ∧ i ≤ j + 1 ∧ j < b ∧ j ≤ J0 ∧ Hid (QA2 w0 g cap a b d P i j wr)) (fun vj _ => (intOf vj).toNat)
          case atStart => exact ⟨j, rfl, by omega, by omega, by omega, by omega, HREL⟩
          case round =>
            clear HREL
            obtain ⟨j, rfl, haj, hij, hjb, hjJ, hrel⟩ := hrel
            by_cases hle : i ≤ j
            · obtain ⟨dk, hf, hk, hst⟩ := hrel.out
              have hsk := hf.1.1.trans HS.out
              have HF := Lib.hid hf; have HK := Lib.hid hk; have HST := Lib.hid (hst hle); have HSK := Lib.hid hsk
              clear hf hk hst hsk hrel
              obtain ⟨-, -, b1, p1, t1, q1⟩ := (SA.at_ HK.out HSK.out (i := a) (I := (a : Int)) (by omega) rfl)
              obtain ⟨-, -, b2, p2, t2, q2⟩ := (SA.at_ HK.out HSK.out (i := j) (I := (j : Int)) (by omega) rfl)
              cases hlv : ltE dk[a]! dk[j]! with
              | true =>
                obtain ⟨xv, yv, c1, c2, hl9⟩ := SA.lss HK.out HSK.out (i := a) (j := j) (by omega) (by omega) hlv
                have HL := Lib.hid hl9; clear hl9
                have HV := Lib.hid hlv; clear hlv
                go_wp2_with fail
                go_quiet (first | (go_at_call 65; exact Calls.quiet_of_same (HL.out _)))
                obtain ⟨w3, hw9, hb0⟩ := SA.name HK.out nq
                rw [hw9]; clear hw9 c1 c2 b1 b2 p1 p2 t1 t2 q1 q2 HL
                have HN := Lib.hid (show QA2 w0 g cap a b d P i (j - 1) w3 from ⟨dk, HF.out.down HV.out, HK.out.below hb0, fun _ => HST.out⟩)
                clear hb0
                go_wp2
                go_roundw
                case rel => exact ⟨j - 1, by congr 1; omega, by omega, by omega, by omega, by omega, HN⟩
                case measure => simp [intOf]; omega
              | false =>
                obtain ⟨xv, yv, c1, c2, hl9⟩ := SA.lss HK.out HSK.out (i := a) (j := j) (by omega) (by omega) hlv
                have HL := Lib.hid hl9; clear hl9
                have HV := Lib.hid hlv; clear hlv
                go_wp2_with fail
                go_quiet (first | (go_at_call 65; exact Calls.quiet_of_same (HL.out _)))
                obtain ⟨w3, hw9, hb0⟩ := SA.name HK.out nq
                rw [hw9]; clear hw9 c1 c2 b1 b2 p1 p2 t1 t2 q1 q2 HL
                have hlt : i < j := by
                  rcases Nat.lt_or_ge i j with h | h
                  · exact h
                  · exfalso
                    have e : i = j := by omega
                    subst e
                    have h1 := HST.out; rw [HV.out] at h1; cases h1
                have HK3 := Lib.hid (HK.out.below hb0)
                clear hb0
                obtain ⟨-, -, b1, p1, t1, q1⟩ := (SA.at_ HK3.out HSK.out (i := i) (I := (i : Int)) (by omega) rfl)
                obtain ⟨-, -, b2, p2, t2, q2⟩ := (SA.at_ HK3.out HSK.out (i := j) (I := (j : Int)) (by omega) rfl)
                obtain ⟨xv, yv, c1, c2, f1, f2, hsw9⟩ := SA.swp9 HK3.out HSK.out (i := i) (j := j) (by omega) (by omega)
                have HSW := Lib.hid hsw9; clear hsw9
                go_wp2_with fail
                go_region
                obtain ⟨w4, hw9, hsa⟩ := SA.word HSW.out
                rw [hw9]; clear hw9 c1 c2 f1 f2 b1 b2 p1 p2 t1 t2 q1 q2 HSW
                have HN := Lib.hid (show QA w0 g cap a b d P (i + 1) (j - 1) w4 from ⟨_, HF.out.swap hai hlt hjb (by rw [HS.out]; omega) HST.out HV.out, hsa⟩)
                clear hsa
                go_wp2
                go_roundw
                case rel => exact ⟨i + 1, j - 1, by go_num, by congr 1; omega, by omega, by omega, by omega, by omega, HN⟩
                case measure => simp [intOf]; omega
            · have hgf : decide ((i : Int) ≤ (j : Int)) = false := decide_eq_false (by omega)
              go_wp2_with fail
              go_quiet (fail)
              obtain ⟨w8, hw9, hrel8⟩ := QA2.name9 hrel.out nq
              rw [hw9]; clear hw9 hrel hgf
              have HE := Lib.hid hrel8
              clear hrel8
              have HIJ := Lib.hid (show i = j + 1 by omega)
              have HP := Lib.hid (show EqP w0 g cap a b d P (.returned (.int .i64 (i : Int))) _ from (fun ⟨dk, hf, hk, _⟩ => ⟨i, dk, rfl, hf.done HIJ.out (by omega) hjb, hk⟩) HE.out)
              clear HE
              go_wp2
              go_ret
              exact HP.out
      · have hgf : decide ((i : Int) ≤ (j : Int)) = false := decide_eq_false (by omega)
        go_wp2_with fail
        go_quiet (fail)
        obtain ⟨w8, hw9, hrel8⟩ := QA.name9 hrel.out nq
        rw [hw9]; clear hw9 hrel hgf
        have HREL := Lib.hid (QA2.stop hrel8 hle)
        clear hrel8
        go_wp2
        clear hle
        go_loopw [10] (fun vj wr => ∃ j : Nat, vj = .int .i64 j ∧ a ≤ j ∧ i ≤ j + 1 ∧ j < b ∧ j ≤ J0 ∧ Hid (QA2 w0 g cap a b d P i j wr)) (fun vj _ => (intOf vj).toNat)
        case atStart => exact ⟨j, rfl, by omega, by omega, by omega, by omega, HREL⟩
        case round =>
          clear HREL
          obtain ⟨j, rfl, haj, hij, hjb, hjJ, hrel⟩ := hrel
          by_cases hle : i ≤ j
          · obtain ⟨dk, hf, hk, hst⟩ := hrel.out
            have hsk := hf.1.1.trans HS.out
            have HF := Lib.hid hf; have HK := Lib.hid hk; have HST := Lib.hid (hst hle); have HSK := Lib.hid hsk
            clear hf hk hst hsk hrel
            obtain ⟨-, -, b1, p1, t1, q1⟩ := (SA.at_ HK.out HSK.out (i := a) (I := (a : Int)) (by omega) rfl)
            obtain ⟨-, -, b2, p2, t2, q2⟩ := (SA.at_ HK.out HSK.out (i := j) (I := (j : Int)) (by omega) rfl)
            cases hlv : ltE dk[a]! dk[j]! with
            | true =>
              obtain ⟨xv, yv, c1, c2, hl9⟩ := SA.lss HK.out HSK.out (i := a) (j := j) (by omega) (by omega) hlv
              have HL := Lib.hid hl9; clear hl9
              have HV := Lib.hid hlv; clear hlv
              go_wp2_with fail
              go_quiet (first | (go_at_call 65; exact Calls.quiet_of_same (HL.out _)))
              obtain ⟨w3, hw9, hb0⟩ := SA.name HK.out nq
              rw [hw9]; clear hw9 c1 c2 b1 b2 p1 p2 t1 t2 q1 q2 HL
              have HN := Lib.hid (show QA2 w0 g cap a b d P i (j - 1) w3 from ⟨dk, HF.out.down HV.out, HK.out.below hb0, fun _ => HST.out⟩)
              clear hb0
              go_wp2
              go_roundw
              case rel => exact ⟨j - 1, by congr 1; omega, by omega, by omega, by omega, by omega, HN⟩
              case measure => simp [intOf]; omega
            | false =>
              obtain ⟨xv, yv, c1, c2, hl9⟩ := SA.lss HK.out HSK.out (i := a) (j := j) (by omega) (by omega) hlv
              have HL := Lib.hid hl9; clear hl9
              have HV := Lib.hid hlv; clear hlv
              go_wp2_with fail
              go_quiet (first | (go_at_call 65; exact Calls.quiet_of_same (HL.out _)))
              obtain ⟨w3, hw9, hb0⟩ := SA.name HK.out nq
              rw [hw9]; clear hw9 c1 c2 b1 b2 p1 p2 t1 t2 q1 q2 HL
              have hlt : i < j := by
                rcases Nat.lt_or_ge i j with h | h
                · exact h
                · exfalso
                  have e : i = j := by omega
                  subst e
                  have h1 := HST.out; rw [HV.out] at h1; cases h1
              have HK3 := Lib.hid (HK.out.below hb0)
              clear hb0
              obtain ⟨-, -, b1, p1, t1, q1⟩ := (SA.at_ HK3.out HSK.out (i := i) (I := (i : Int)) (by omega) rfl)
              obtain ⟨-, -, b2, p2, t2, q2⟩ := (SA.at_ HK3.out HSK.out (i := j) (I := (j : Int)) (by omega) rfl)
              obtain ⟨xv, yv, c1, c2, f1, f2, hsw9⟩ := SA.swp9 HK3.out HSK.out (i := i) (j := j) (by omega) (by omega)
              have HSW := Lib.hid hsw9; clear hsw9
              go_wp2_with fail
              go_region
              obtain ⟨w4, hw9, hsa⟩ := SA.word HSW.out
              rw [hw9]; clear hw9 c1 c2 f1 f2 b1 b2 p1 p2 t1 t2 q1 q2 HSW
              have HN := Lib.hid (show QA w0 g cap a b d P (i + 1) (j - 1) w4 from ⟨_, HF.out.swap hai hlt hjb (by rw [HS.out]; omega) HST.out HV.out, hsa⟩)
              clear hsa
              go_wp2
              go_roundw
              case rel => exact ⟨i + 1, j - 1, by go_num, by congr 1; omega, by omega, by omega, by omega, by omega, HN⟩
              case measure => simp [intOf]; omega
          · have hgf : decide ((i : Int) ≤ (j : Int)) = false := decide_eq_false (by omega)
            go_wp2_with fail
            go_quiet (fail)
            obtain ⟨w8, hw9, hrel8⟩ := QA2.name9 hrel.out nq
            rw [hw9]; clear hw9 hrel hgf
            have HE := Lib.hid hrel8
            clear hrel8
            have HIJ := Lib.hid (show i = j + 1 by omega)
            have HP := Lib.hid (show EqP w0 g cap a b d P (.returned (.int .i64 (i : Int))) _ from (fun ⟨dk, hf, hk, _⟩ => ⟨i, dk, rfl, hf.done HIJ.out (by omega) hjb, hk⟩) HE.out)
            clear HE
            go_wp2
            go_ret
            exact HP.out
set_option maxRecDepth 100000 in
set_option maxHeartbeats 32000000 in
theorem spart_any (w0 : World) (g cap n a b p : Nat) (d : Array En) (w : World) (h : SA w0 g cap d w) (hs : d.size = n) (hap : a ≤ p) (hpb : p < b) (hbn : b ≤ n) (hn : n ≤ 2305843009213693951) :
    Calls Try.prog 67 #[.slice (some ⟨g, 0, none⟩) n cap, .int .i64 (a : Int), .int .i64 (b : Int), .int .i64 (p : Int)] w fun e w' => PartP w0 g cap a b d e w' := by
  obtain ⟨-, -, b1, p1, t1, q1⟩ := (SA.at_ h hs (i := a) (I := (a : Int)) (by omega) rfl)
  obtain ⟨-, -, b2, p2, t2, q2⟩ := (SA.at_ h hs (i := p) (I := (p : Int)) (by omega) rfl)
  obtain ⟨xv, yv, c1, c2, f1, f2, hsw9⟩ := SA.swp9 h hs (i := a) (j := p) (by omega) (by omega)
  have HSW := Lib.hid hsw9; clear hsw9
  have c3 := SA.mid h hs (i := a) (j := p) (by omega) (by omega) c1 c2
  have HS := Lib.hid hs
  have HST := Lib.hid (PF.start (a := a) (b := b) (p := p) (d := d) hap hpb (by omega))
  clear h hs
  go_enter Try.func67, Try.ntmps67
  go_wp2_with fail
  go_region
  obtain ⟨w2, hw9, hsa⟩ := SA.word HSW.out
  rw [hw9]; clear hw9 c3 c1 c2 f1 f2 b1 b2 p1 p2 t1 t2 q1 q2 HSW
  have HREL := Lib.hid (show PA w0 g cap a b d (a + 1) (b - 1) w2 from ⟨_, HST.out, hsa⟩)
  clear hsa HST
  have ei : (a : Int) + 1 = ((a + 1 : Nat) : Int) := by omega
  have ej : (b : Int) - 1 = ((b - 1 : Nat) : Int) := by omega
  have hai : a < a + 1 := by omega
  have haj : a ≤ b - 1 := by omega
  have hij : a + 1 ≤ b - 1 + 1 := by omega
  have hjb : b - 1 < b := by omega
  generalize a + 1 = i at *
  generalize b - 1 = j at *
  go_wp2
  clear ei ej
  obtain ⟨I0, hI0⟩ : ∃ I0 : Nat, I0 ≤ i ∧ i ≤ I0 := ⟨i, Nat.le_refl _, Nat.le_refl _⟩
  obtain ⟨J0, hJ0⟩ : ∃ J0 : Nat, J0 ≤ j ∧ j ≤ J0 := ⟨j, Nat.le_refl _, Nat.le_refl _⟩
  go_loopw [10] (fun vi wr => ∃ i : Nat, vi = .int .i64 i ∧ a < i ∧ i ≤ j + 1 ∧ I0 ≤ i ∧ Hid (PA w0 g cap a b d i j wr)) (fun vi _ => (b + 1 - (intOf vi).toNat))
  case atStart => exact ⟨i, by first | rfl | go_num, by omega, by omega, by omega, HREL⟩
  case round =>
    clear HREL
    obtain ⟨i, rfl, hai, hij, hiI, hrel⟩ := hrel
    by_cases hle : i ≤ j
    · obtain ⟨dk, hf, hk⟩ := hrel.out
      have hsk := hf.1.1.trans HS.out
      have HF := Lib.hid hf; have HK := Lib.hid hk; have HSK := Lib.hid hsk
      clear hf hk hrel hsk
      obtain ⟨-, -, b1, p1, t1, q1⟩ := (SA.at_ HK.out HSK.out (i := i) (I := (i : Int)) (by omega) rfl)
      obtain ⟨-, -, b2, p2, t2, q2⟩ := (SA.at_ HK.out HSK.out (i := a) (I := (a : Int)) (by omega) rfl)
      cases hlv : ltE dk[i]! dk[a]! with
      | true =>
        obtain ⟨xv, yv, c1, c2, hl9⟩ := SA.lss HK.out HSK.out (i := i) (j := a) (by omega) (by omega) hlv
        have HL := Lib.hid hl9; clear hl9
        have HV := Lib.hid hlv; clear hlv
        go_wp2_with fail
        go_quiet (first | (go_at_call 65; exact Calls.quiet_of_same (HL.out _)))
        obtain ⟨w3, hw9, hb0⟩ := SA.name HK.out nq
        rw [hw9]; clear hw9 c1 c2 b1 b2 p1 p2 t1 t2 q1 q2 HL
        have HN := Lib.hid (show PA w0 g cap a b d (i + 1) j w3 from ⟨dk, HF.out.up HV.out, HK.out.below hb0⟩)
        clear hb0
        go_wp2
        go_roundw
        case rel => exact ⟨i + 1, by go_num, by omega, by omega, by omega, HN⟩
        case measure => simp [intOf]; omega
      | false =>
        obtain ⟨xv, yv, c1, c2, hl9⟩ := SA.lss HK.out HSK.out (i := i) (j := a) (by omega) (by omega) hlv
        have HL := Lib.hid hl9; clear hl9
        have HV := Lib.hid hlv; clear hlv
        go_wp2_with fail
        go_quiet (first | (go_at_call 65; exact Calls.quiet_of_same (HL.out _)))
        obtain ⟨w3, hw9, hb0⟩ := SA.name HK.out nq
        rw [hw9]; clear hw9 c1 c2 b1 b2 p1 p2 t1 t2 q1 q2 HL
        have HREL := Lib.hid (show PA2 w0 g cap a b d i j w3 from ⟨dk, HF.out, HK.out.below hb0, fun _ => HV.out⟩)
        clear hb0 HK HF HV hle
        go_wp2
        go_loopw [11] (fun vj wr => ∃ j : Nat, vj = .int .i64 j ∧ a ≤ j ∧ i ≤ j + 1 ∧ j < b ∧ j ≤ J0 ∧ Hid (PA2 w0 g cap a b d i j wr)) (fun vj _ => (intOf vj).toNat)
        case atStart => exact ⟨j, rfl, by omega, by omega, by omega, by omega, HREL⟩
        case round =>
          clear HREL
          obtain ⟨j, rfl, haj, hij, hjb, hjJ, hrel⟩ := hrel
          by_cases hle : i ≤ j
          · obtain ⟨dk, hf, hk, hst⟩ := hrel.out
            have hsk := hf.1.1.trans HS.out
            have HF := Lib.hid hf; have HK := Lib.hid hk; have HST := Lib.hid (hst hle); have HSK := Lib.hid hsk
            clear hf hk hst hsk hrel
            obtain ⟨-, -, b1, p1, t1, q1⟩ := (SA.at_ HK.out HSK.out (i := j) (I := (j : Int)) (by omega) rfl)
            obtain ⟨-, -, b2, p2, t2, q2⟩ := (SA.at_ HK.out HSK.out (i := a) (I := (a : Int)) (by omega) rfl)
            cases hlv : ltE dk[j]! dk[a]! with
            | false =>
              obtain ⟨xv, yv, c1, c2, hl9⟩ := SA.lss HK.out HSK.out (i := j) (j := a) (by omega) (by omega) hlv
              have HL := Lib.hid hl9; clear hl9
              have HV := Lib.hid hlv; clear hlv
              go_wp2_with fail
              go_quiet (first | (go_at_call 65; exact Calls.quiet_of_same (HL.out _)))
              obtain ⟨w3, hw9, hb0⟩ := SA.name HK.out nq
              rw [hw9]; clear hw9 c1 c2 b1 b2 p1 p2 t1 t2 q1 q2 HL
              have HN := Lib.hid (show PA2 w0 g cap a b d i (j - 1) w3 from ⟨dk, HF.out.down HV.out, HK.out.below hb0, fun _ => HST.out⟩)
              clear hb0
              go_wp2
              go_roundw
              case rel => exact ⟨j - 1, by congr 1; omega, by omega, by omega, by omega, by omega, HN⟩
              case measure => simp [intOf]; omega
            | true =>
              obtain ⟨xv, yv, c1, c2, hl9⟩ := SA.lss HK.out HSK.out (i := j) (j := a) (by omega) (by omega) hlv
              have HL := Lib.hid hl9; clear hl9
              have HV := Lib.hid hlv; clear hlv
              go_wp2_with fail
              go_quiet (first | (go_at_call 65; exact Calls.quiet_of_same (HL.out _)))
              obtain ⟨w3, hw9, hb0⟩ := SA.name HK.out nq
              rw [hw9]; clear hw9 c1 c2 b1 b2 p1 p2 t1 t2 q1 q2 HL
              have hlt : i < j := by
                rcases Nat.lt_or_ge i j with h | h
                · exact h
                · exfalso
                  have e : i = j := by omega
                  subst e
                  have h1 := HST.out; rw [HV.out] at h1; cases h1
              have HK3 := Lib.hid (HK.out.below hb0)
              clear hb0
              obtain ⟨-, -, b1, p1, t1, q1⟩ := (SA.at_ HK3.out HSK.out (i := i) (I := (i : Int)) (by omega) rfl)
              obtain ⟨-, -, b2, p2, t2, q2⟩ := (SA.at_ HK3.out HSK.out (i := j) (I := (j : Int)) (by omega) rfl)
              obtain ⟨xv, yv, c1, c2, f1, f2, hsw9⟩ := SA.swp9 HK3.out HSK.out (i := i) (j := j) (by omega) (by omega)
              have HSW := Lib.hid hsw9; clear hsw9
              go_wp2_with fail
              go_region
              obtain ⟨w4, hw9, hsa⟩ := SA.word HSW.out
              rw [hw9]; clear hw9 c1 c2 f1 f2 b1 b2 p1 p2 t1 t2 q1 q2 HSW
              have HREL0 := Lib.hid (show PA w0 g cap a b d (i + 1) (j - 1) w4 from ⟨_, HF.out.swap hai hlt hjb (by rw [HS.out]; omega) HST.out HV.out, hsa⟩)
              clear hsa HF HST HV HSK HK3 HK
              go_wp2
              go_loopw [10, 11] (fun vi vj wr => ∃ i j : Nat, vi = .int .i64 i ∧ vj = .int .i64 j ∧ a < i ∧ a ≤ j ∧ i ≤ j + 1 ∧ j < b ∧ Hid (PA w0 g cap a b d i j wr)) (fun vi vj _ => (intOf vj + 1 - intOf vi).toNat)
              case atStart => exact ⟨i + 1, j - 1, by go_num, by congr 1; omega, by omega, by omega, by omega, by omega, HREL0⟩
              case round =>
                clear HREL0 hlt hle hij hai haj hjb hjJ hiI hI0 hJ0
                obtain ⟨i, j, rfl, rfl, hai, haj, hij, hjb, HREL⟩ := hrel
                go_wp2
                obtain ⟨I0, hI0⟩ : ∃ I0 : Nat, I0 ≤ i ∧ i ≤ I0 := ⟨i, Nat.le_refl _, Nat.le_refl _⟩
                obtain ⟨J0, hJ0⟩ : ∃ J0 : Nat, J0 ≤ j ∧ j ≤ J0 := ⟨j, Nat.le_refl _, Nat.le_refl _⟩
                go_loopw [10] (fun vi wr => ∃ i : Nat, vi = .int .i64 i ∧ a < i ∧ i ≤ j + 1 ∧ I0 ≤ i ∧ Hid (PA w0 g cap a b d i j wr)) (fun vi _ => (b + 1 - (intOf vi).toNat))
                case atStart => exact ⟨i, by first | rfl | go_num, by omega, by omega, by omega, HREL⟩
                case round =>
                  clear HREL
                  obtain ⟨i, rfl, hai, hij, hiI, hrel⟩ := hrel
                  by_cases hle : i ≤ j
                  · obtain ⟨dk, hf, hk⟩ := hrel.out
                    have hsk := hf.1.1.trans HS.out
                    have HF := Lib.hid hf; have HK := Lib.hid hk; have HSK := Lib.hid hsk
                    clear hf hk hrel hsk
                    obtain ⟨-, -, b1, p1, t1, q1⟩ := (SA.at_ HK.out HSK.out (i := i) (I := (i : Int)) (by omega) rfl)
                    obtain ⟨-, -, b2, p2, t2, q2⟩ := (SA.at_ HK.out HSK.out (i := a) (I := (a : Int)) (by omega) rfl)
                    cases hlv : ltE dk[i]! dk[a]! with
                    | true =>
                      obtain ⟨xv, yv, c1, c2, hl9⟩ := SA.lss HK.out HSK.out (i := i) (j := a) (by omega) (by omega) hlv
                      have HL := Lib.hid hl9; clear hl9
                      have HV := Lib.hid hlv; clear hlv
                      go_wp2_with fail
                      go_quiet (first | (go_at_call 65; exact Calls.quiet_of_same (HL.out _)))
                      obtain ⟨w3, hw9, hb0⟩ := SA.name HK.out nq
                      rw [hw9]; clear hw9 c1 c2 b1 b2 p1 p2 t1 t2 q1 q2 HL
                      have HN := Lib.hid (show PA w0 g cap a b d (i + 1) j w3 from ⟨dk, HF.out.up HV.out, HK.out.below hb0⟩)
                      clear hb0
                      go_wp2
                      go_roundw
                      case rel => exact ⟨i + 1, by go_num, by omega, by omega, by omega, HN⟩
                      case measure => simp [intOf]; omega
                    | false =>
                      obtain ⟨xv, yv, c1, c2, hl9⟩ := SA.lss HK.out HSK.out (i := i) (j := a) (by omega) (by omega) hlv
                      have HL := Lib.hid hl9; clear hl9
                      have HV := Lib.hid hlv; clear hlv
                      go_wp2_with fail
                      go_quiet (first | (go_at_call 65; exact Calls.quiet_of_same (HL.out _)))
                      obtain ⟨w3, hw9, hb0⟩ := SA.name HK.out nq
                      rw [hw9]; clear hw9 c1 c2 b1 b2 p1 p2 t1 t2 q1 q2 HL
                      have HREL := Lib.hid (show PA2 w0 g cap a b d i j w3 from ⟨dk, HF.out, HK.out.below hb0, fun _ => HV.out⟩)
                      clear hb0 HK HF HV hle
                      go_wp2
                      go_loopw [11] (fun vj wr => ∃ j : Nat, vj = .int .i64 j ∧ a ≤ j ∧ i ≤ j + 1 ∧ j < b ∧ j ≤ J0 ∧ Hid (PA2 w0 g cap a b d i j wr)) (fun vj _ => (intOf vj).toNat)
                      case atStart => exact ⟨j, rfl, by omega, by omega, by omega, by omega, HREL⟩
                      case round =>
                        clear HREL
                        obtain ⟨j, rfl, haj, hij, hjb, hjJ, hrel⟩ := hrel
                        by_cases hle : i ≤ j
                        · obtain ⟨dk, hf, hk, hst⟩ := hrel.out
                          have hsk := hf.1.1.trans HS.out
                          have HF := Lib.hid hf; have HK := Lib.hid hk; have HST := Lib.hid (hst hle); have HSK := Lib.hid hsk
                          clear hf hk hst hsk hrel
                          obtain ⟨-, -, b1, p1, t1, q1⟩ := (SA.at_ HK.out HSK.out (i := j) (I := (j : Int)) (by omega) rfl)
                          obtain ⟨-, -, b2, p2, t2, q2⟩ := (SA.at_ HK.out HSK.out (i := a) (I := (a : Int)) (by omega) rfl)
                          cases hlv : ltE dk[j]! dk[a]! with
                          | false =>
                            obtain ⟨xv, yv, c1, c2, hl9⟩ := SA.lss HK.out HSK.out (i := j) (j := a) (by omega) (by omega) hlv
                            have HL := Lib.hid hl9; clear hl9
                            have HV := Lib.hid hlv; clear hlv
                            go_wp2_with fail
                            go_quiet (first | (go_at_call 65; exact Calls.quiet_of_same (HL.out _)))
                            obtain ⟨w3, hw9, hb0⟩ := SA.name HK.out nq
                            rw [hw9]; clear hw9 c1 c2 b1 b2 p1 p2 t1 t2 q1 q2 HL
                            have HN := Lib.hid (show PA2 w0 g cap a b d i (j - 1) w3 from ⟨dk, HF.out.down HV.out, HK.out.below hb0, fun _ => HST.out⟩)
                            clear hb0
                            go_wp2
                            go_roundw
                            case rel => exact ⟨j - 1, by congr 1; omega, by omega, by omega, by omega, by omega, HN⟩
                            case measure => simp [intOf]; omega
                          | true =>
                            obtain ⟨xv, yv, c1, c2, hl9⟩ := SA.lss HK.out HSK.out (i := j) (j := a) (by omega) (by omega) hlv
                            have HL := Lib.hid hl9; clear hl9
                            have HV := Lib.hid hlv; clear hlv
                            go_wp2_with fail
                            go_quiet (first | (go_at_call 65; exact Calls.quiet_of_same (HL.out _)))
                            obtain ⟨w3, hw9, hb0⟩ := SA.name HK.out nq
                            rw [hw9]; clear hw9 c1 c2 b1 b2 p1 p2 t1 t2 q1 q2 HL
                            have hlt : i < j := by
                              rcases Nat.lt_or_ge i j with h | h
                              · exact h
                              · exfalso
                                have e : i = j := by omega
                                subst e
                                have h1 := HST.out; rw [HV.out] at h1; cases h1
                            have HK3 := Lib.hid (HK.out.below hb0)
                            clear hb0
                            obtain ⟨-, -, b1, p1, t1, q1⟩ := (SA.at_ HK3.out HSK.out (i := i) (I := (i : Int)) (by omega) rfl)
                            obtain ⟨-, -, b2, p2, t2, q2⟩ := (SA.at_ HK3.out HSK.out (i := j) (I := (j : Int)) (by omega) rfl)
                            obtain ⟨xv, yv, c1, c2, f1, f2, hsw9⟩ := SA.swp9 HK3.out HSK.out (i := i) (j := j) (by omega) (by omega)
                            have HSW := Lib.hid hsw9; clear hsw9
                            go_wp2_with fail
                            go_region
                            obtain ⟨w4, hw9, hsa⟩ := SA.word HSW.out
                            rw [hw9]; clear hw9 c1 c2 f1 f2 b1 b2 p1 p2 t1 t2 q1 q2 HSW
                            have HN := Lib.hid (show PA w0 g cap a b d (i + 1) (j - 1) w4 from ⟨_, HF.out.swap hai hlt hjb (by rw [HS.out]; omega) HST.out HV.out, hsa⟩)
                            clear hsa
                            go_wp2
                            go_roundw
                            case rel => exact ⟨i + 1, j - 1, by go_num, by congr 1; omega, by omega, by omega, by omega, by omega, HN⟩
                            case measure => simp [intOf]; omega
                        · have hgf : decide ((i : Int) ≤ (j : Int)) = false := decide_eq_false (by omega)
                          go_wp2_with fail
                          go_quiet (fail)
                          obtain ⟨w8, hw9, hrel8⟩ := PA2.name9 hrel.out nq
                          rw [hw9]; clear hw9 hrel hgf
                          have HE := Lib.hid hrel8
                          clear hrel8
                          have HIJ := Lib.hid (show i = j + 1 by omega)
                          obtain ⟨dk, hf, hk, _⟩ := HE.out
                          have HF := Lib.hid (hf.done HIJ.out (by omega) hjb (by rw [HS.out]; exact hbn)); have HK := Lib.hid hk; have HSK := Lib.hid (hf.1.1.trans HS.out)
                          clear HE hf hk
                          obtain ⟨-, -, b1, p1, t1, q1⟩ := (SA.at_ HK.out HSK.out (i := j) (I := (j : Int)) (by omega) rfl)
                          obtain ⟨-, -, b2, p2, t2, q2⟩ := (SA.at_ HK.out HSK.out (i := a) (I := (a : Int)) (by omega) rfl)
                          obtain ⟨xv, yv, c1, c2, f1, f2, hsw9⟩ := SA.swp9 HK.out HSK.out (i := j) (j := a) (by omega) (by omega)
                          have HSW := Lib.hid hsw9; clear hsw9
                          have c3 := SA.mid HK.out HSK.out (i := j) (j := a) (by omega) (by omega) c1 c2
                          go_wp2_with fail
                          go_region
                          obtain ⟨w4, hw9, hsa⟩ := SA.word HSW.out
                          rw [hw9]; clear hw9 c3 c1 c2 f1 f2 b1 b2 p1 p2 t1 t2 q1 q2 HSW
                          have HP := Lib.hid (show PartP w0 g cap a b d (.returned (.tuple #[.int .i64 (j : Int), .bool false])) w4 from ⟨j, false, _, rfl, by omega, hjb, HF.out, hsa⟩)
                          clear hsa
                          go_wp2
                          go_ret2
                          exact HP.out
                  · have hgf : decide ((i : Int) ≤ (j : Int)) = false := decide_eq_false (by omega)
                    go_wp2_with fail
                    go_quiet (fail)
                    obtain ⟨w8, hw9, hrel8⟩ := PA.name9 hrel.out nq
                    rw [hw9]; clear hw9 hrel hgf
                    have HREL := Lib.hid (PA2.stop hrel8 hle)
                    clear hrel8
                    go_wp2
                    clear hle
                    go_loopw [11] (fun vj wr => ∃ j : Nat, vj = .int .i64 j ∧ a ≤ j ∧ i ≤ j + 1 ∧ j < b ∧ j ≤ J0 ∧ Hid (PA2 w0 g cap a b d i j wr)) (fun vj _ => (intOf vj).toNat)
                    case atStart => exact ⟨j, rfl, by omega, by omega, by omega, by omega, HREL⟩
                    case round =>
                      clear HREL
                      obtain ⟨j, rfl, haj, hij, hjb, hjJ, hrel⟩ := hrel
                      by_cases hle : i ≤ j
                      · obtain ⟨dk, hf, hk, hst⟩ := hrel.out
                        have hsk := hf.1.1.trans HS.out
                        have HF := Lib.hid hf; have HK := Lib.hid hk; have HST := Lib.hid (hst hle); have HSK := Lib.hid hsk
                        clear hf hk hst hsk hrel
                        obtain ⟨-, -, b1, p1, t1, q1⟩ := (SA.at_ HK.out HSK.out (i := j) (I := (j : Int)) (by omega) rfl)
                        obtain ⟨-, -, b2, p2, t2, q2⟩ := (SA.at_ HK.out HSK.out (i := a) (I := (a : Int)) (by omega) rfl)
                        cases hlv : ltE dk[j]! dk[a]! with
                        | false =>
                          obtain ⟨xv, yv, c1, c2, hl9⟩ := SA.lss HK.out HSK.out (i := j) (j := a) (by omega) (by omega) hlv
                          have HL := Lib.hid hl9; clear hl9
                          have HV := Lib.hid hlv; clear hlv
                          go_wp2_with fail
                          go_quiet (first | (go_at_call 65; exact Calls.quiet_of_same (HL.out _)))
                          obtain ⟨w3, hw9, hb0⟩ := SA.name HK.out nq
                          rw [hw9]; clear hw9 c1 c2 b1 b2 p1 p2 t1 t2 q1 q2 HL
                          have HN := Lib.hid (show PA2 w0 g cap a b d i (j - 1) w3 from ⟨dk, HF.out.down HV.out, HK.out.below hb0, fun _ => HST.out⟩)
                          clear hb0
                          go_wp2
                          go_roundw
                          case rel => exact ⟨j - 1, by congr 1; omega, by omega, by omega, by omega, by omega, HN⟩
                          case measure => simp [intOf]; omega
                        | true =>
                          obtain ⟨xv, yv, c1, c2, hl9⟩ := SA.lss HK.out HSK.out (i := j) (j := a) (by omega) (by omega) hlv
                          have HL := Lib.hid hl9; clear hl9
                          have HV := Lib.hid hlv; clear hlv
                          go_wp2_with fail
                          go_quiet (first | (go_at_call 65; exact Calls.quiet_of_same (HL.out _)))
                          obtain ⟨w3, hw9, hb0⟩ := SA.name HK.out nq
                          rw [hw9]; clear hw9 c1 c2 b1 b2 p1 p2 t1 t2 q1 q2 HL
                          have hlt : i < j := by
                            rcases Nat.lt_or_ge i j with h | h
                            · exact h
                            · exfalso
                              have e : i = j := by omega
                              subst e
                              have h1 := HST.out; rw [HV.out] at h1; cases h1
                          have HK3 := Lib.hid (HK.out.below hb0)
                          clear hb0
                          obtain ⟨-, -, b1, p1, t1, q1⟩ := (SA.at_ HK3.out HSK.out (i := i) (I := (i : Int)) (by omega) rfl)
                          obtain ⟨-, -, b2, p2, t2, q2⟩ := (SA.at_ HK3.out HSK.out (i := j) (I := (j : Int)) (by omega) rfl)
                          obtain ⟨xv, yv, c1, c2, f1, f2, hsw9⟩ := SA.swp9 HK3.out HSK.out (i := i) (j := j) (by omega) (by omega)
                          have HSW := Lib.hid hsw9; clear hsw9
                          go_wp2_with fail
                          go_region
                          obtain ⟨w4, hw9, hsa⟩ := SA.word HSW.out
                          rw [hw9]; clear hw9 c1 c2 f1 f2 b1 b2 p1 p2 t1 t2 q1 q2 HSW
                          have HN := Lib.hid (show PA w0 g cap a b d (i + 1) (j - 1) w4 from ⟨_, HF.out.swap hai hlt hjb (by rw [HS.out]; omega) HST.out HV.out, hsa⟩)
                          clear hsa
                          go_wp2
                          go_roundw
                          case rel => exact ⟨i + 1, j - 1, by go_num, by congr 1; omega, by omega, by omega, by omega, by omega, HN⟩
                          case measure => simp [intOf]; omega
                      · have hgf : decide ((i : Int) ≤ (j : Int)) = false := decide_eq_false (by omega)
                        go_wp2_with fail
                        go_quiet (fail)
                        obtain ⟨w8, hw9, hrel8⟩ := PA2.name9 hrel.out nq
                        rw [hw9]; clear hw9 hrel hgf
                        have HE := Lib.hid hrel8
                        clear hrel8
                        have HIJ := Lib.hid (show i = j + 1 by omega)
                        obtain ⟨dk, hf, hk, _⟩ := HE.out
                        have HF := Lib.hid (hf.done HIJ.out (by omega) hjb (by rw [HS.out]; exact hbn)); have HK := Lib.hid hk; have HSK := Lib.hid (hf.1.1.trans HS.out)
                        clear HE hf hk
                        obtain ⟨-, -, b1, p1, t1, q1⟩ := (SA.at_ HK.out HSK.out (i := j) (I := (j : Int)) (by omega) rfl)
                        obtain ⟨-, -, b2, p2, t2, q2⟩ := (SA.at_ HK.out HSK.out (i := a) (I := (a : Int)) (by omega) rfl)
                        obtain ⟨xv, yv, c1, c2, f1, f2, hsw9⟩ := SA.swp9 HK.out HSK.out (i := j) (j := a) (by omega) (by omega)
                        have HSW := Lib.hid hsw9; clear hsw9
                        have c3 := SA.mid HK.out HSK.out (i := j) (j := a) (by omega) (by omega) c1 c2
                        go_wp2_with fail
                        go_region
                        obtain ⟨w4, hw9, hsa⟩ := SA.word HSW.out
                        rw [hw9]; clear hw9 c3 c1 c2 f1 f2 b1 b2 p1 p2 t1 t2 q1 q2 HSW
                        have HP := Lib.hid (show PartP w0 g cap a b d (.returned (.tuple #[.int .i64 (j : Int), .bool false])) w4 from ⟨j, false, _, rfl, by omega, hjb, HF.out, hsa⟩)
                        clear hsa
                        go_wp2
                        go_ret2
                        exact HP.out
          · have hgf : decide ((i : Int) ≤ (j : Int)) = false := decide_eq_false (by omega)
            go_wp2_with fail
            go_quiet (fail)
            obtain ⟨w8, hw9, hrel8⟩ := PA2.name9 hrel.out nq
            rw [hw9]; clear hw9 hrel hgf
            have HE := Lib.hid hrel8
            clear hrel8
            have HIJ := Lib.hid (show i = j + 1 by omega)
            obtain ⟨dk, hf, hk, _⟩ := HE.out
            have HF := Lib.hid (hf.done HIJ.out (by omega) hjb (by rw [HS.out]; exact hbn)); have HK := Lib.hid hk; have HSK := Lib.hid (hf.1.1.trans HS.out)
            clear HE hf hk
            obtain ⟨-, -, b1, p1, t1, q1⟩ := (SA.at_ HK.out HSK.out (i := j) (I := (j : Int)) (by omega) rfl)
            obtain ⟨-, -, b2, p2, t2, q2⟩ := (SA.at_ HK.out HSK.out (i := a) (I := (a : Int)) (by omega) rfl)
            obtain ⟨xv, yv, c1, c2, f1, f2, hsw9⟩ := SA.swp9 HK.out HSK.out (i := j) (j := a) (by omega) (by omega)
            have HSW := Lib.hid hsw9; clear hsw9
            have c3 := SA.mid HK.out HSK.out (i := j) (j := a) (by omega) (by omega) c1 c2
            go_wp2_with fail
            go_region
            obtain ⟨w4, hw9, hsa⟩ := SA.word HSW.out
            rw [hw9]; clear hw9 c3 c1 c2 f1 f2 b1 b2 p1 p2 t1 t2 q1 q2 HSW
            have HP := Lib.hid (show PartP w0 g cap a b d (.returned (.tuple #[.int .i64 (j : Int), .bool true])) w4 from ⟨j, true, _, rfl, by omega, hjb, HF.out, hsa⟩)
            clear hsa
            go_wp2
            go_ret2
            exact HP.out
    · have hgf : decide ((i : Int) ≤ (j : Int)) = false := decide_eq_false (by omega)
      go_wp2_with fail
      go_quiet (fail)
      obtain ⟨w8, hw9, hrel8⟩ := PA.name9 hrel.out nq
      rw [hw9]; clear hw9 hrel hgf
      have HREL := Lib.hid (PA2.stop hrel8 hle)
      clear hrel8
      go_wp2
      clear hle
      go_loopw [11] (fun vj wr => ∃ j : Nat, vj = .int .i64 j ∧ a ≤ j ∧ i ≤ j + 1 ∧ j < b ∧ j ≤ J0 ∧ Hid (PA2 w0 g cap a b d i j wr)) (fun vj _ => (intOf vj).toNat)
      case atStart => exact ⟨j, rfl, by omega, by omega, by omega, by omega, HREL⟩
      case round =>
        clear HREL
        obtain ⟨j, rfl, haj, hij, hjb, hjJ, hrel⟩ := hrel
        by_cases hle : i ≤ j
        · obtain ⟨dk, hf, hk, hst⟩ := hrel.out
          have hsk := hf.1.1.trans HS.out
          have HF := Lib.hid hf; have HK := Lib.hid hk; have HST := Lib.hid (hst hle); have HSK := Lib.hid hsk
          clear hf hk hst hsk hrel
          obtain ⟨-, -, b1, p1, t1, q1⟩ := (SA.at_ HK.out HSK.out (i := j) (I := (j : Int)) (by omega) rfl)
          obtain ⟨-, -, b2, p2, t2, q2⟩ := (SA.at_ HK.out HSK.out (i := a) (I := (a : Int)) (by omega) rfl)
          cases hlv : ltE dk[j]! dk[a]! with
          | false =>
            obtain ⟨xv, yv, c1, c2, hl9⟩ := SA.lss HK.out HSK.out (i := j) (j := a) (by omega) (by omega) hlv
            have HL := Lib.hid hl9; clear hl9
            have HV := Lib.hid hlv; clear hlv
            go_wp2_with fail
            go_quiet (first | (go_at_call 65; exact Calls.quiet_of_same (HL.out _)))
            obtain ⟨w3, hw9, hb0⟩ := SA.name HK.out nq
            rw [hw9]; clear hw9 c1 c2 b1 b2 p1 p2 t1 t2 q1 q2 HL
            have HN := Lib.hid (show PA2 w0 g cap a b d i (j - 1) w3 from ⟨dk, HF.out.down HV.out, HK.out.below hb0, fun _ => HST.out⟩)
            clear hb0
            go_wp2
            go_roundw
            case rel => exact ⟨j - 1, by congr 1; omega, by omega, by omega, by omega, by omega, HN⟩
            case measure => simp [intOf]; omega
          | true =>
            obtain ⟨xv, yv, c1, c2, hl9⟩ := SA.lss HK.out HSK.out (i := j) (j := a) (by omega) (by omega) hlv
            have HL := Lib.hid hl9; clear hl9
            have HV := Lib.hid hlv; clear hlv
            go_wp2_with fail
            go_quiet (first | (go_at_call 65; exact Calls.quiet_of_same (HL.out _)))
            obtain ⟨w3, hw9, hb0⟩ := SA.name HK.out nq
            rw [hw9]; clear hw9 c1 c2 b1 b2 p1 p2 t1 t2 q1 q2 HL
            have hlt : i < j := by
              rcases Nat.lt_or_ge i j with h | h
              · exact h
              · exfalso
                have e : i = j := by omega
                subst e
                have h1 := HST.out; rw [HV.out] at h1; cases h1
            have HK3 := Lib.hid (HK.out.below hb0)
            clear hb0
            obtain ⟨-, -, b1, p1, t1, q1⟩ := (SA.at_ HK3.out HSK.out (i := i) (I := (i : Int)) (by omega) rfl)
            obtain ⟨-, -, b2, p2, t2, q2⟩ := (SA.at_ HK3.out HSK.out (i := j) (I := (j : Int)) (by omega) rfl)
            obtain ⟨xv, yv, c1, c2, f1, f2, hsw9⟩ := SA.swp9 HK3.out HSK.out (i := i) (j := j) (by omega) (by omega)
            have HSW := Lib.hid hsw9; clear hsw9
            go_wp2_with fail
            go_region
            obtain ⟨w4, hw9, hsa⟩ := SA.word HSW.out
            rw [hw9]; clear hw9 c1 c2 f1 f2 b1 b2 p1 p2 t1 t2 q1 q2 HSW
            have HREL0 := Lib.hid (show PA w0 g cap a b d (i + 1) (j - 1) w4 from ⟨_, HF.out.swap hai hlt hjb (by rw [HS.out]; omega) HST.out HV.out, hsa⟩)
            clear hsa HF HST HV HSK HK3 HK
            go_wp2
            go_loopw [10, 11] (fun vi vj wr => ∃ i j : Nat, vi = .int .i64 i ∧ vj = .int .i64 j ∧ a < i ∧ a ≤ j ∧ i ≤ j + 1 ∧ j < b ∧ Hid (PA w0 g cap a b d i j wr)) (fun vi vj _ => (intOf vj + 1 - intOf vi).toNat)
            case atStart => exact ⟨i + 1, j - 1, by go_num, by congr 1; omega, by omega, by omega, by omega, by omega, HREL0⟩
            case round =>
              clear HREL0 hlt hle hij hai haj hjb hjJ hiI hI0 hJ0
              obtain ⟨i, j, rfl, rfl, hai, haj, hij, hjb, HREL⟩ := hrel
              go_wp2
              obtain ⟨I0, hI0⟩ : ∃ I0 : Nat, I0 ≤ i ∧ i ≤ I0 := ⟨i, Nat.le_refl _, Nat.le_refl _⟩
              obtain ⟨J0, hJ0⟩ : ∃ J0 : Nat, J0 ≤ j ∧ j ≤ J0 := ⟨j, Nat.le_refl _, Nat.le_refl _⟩
              go_loopw [10] (fun vi wr => ∃ i : Nat, vi = .int .i64 i ∧ a < i ∧ i ≤ j + 1 ∧ I0 ≤ i ∧ Hid (PA w0 g cap a b d i j wr)) (fun vi _ => (b + 1 - (intOf vi).toNat))
              case atStart => exact ⟨i, by first | rfl | go_num, by omega, by omega, by omega, HREL⟩
              case round =>
                clear HREL
                obtain ⟨i, rfl, hai, hij, hiI, hrel⟩ := hrel
                by_cases hle : i ≤ j
                · obtain ⟨dk, hf, hk⟩ := hrel.out
                  have hsk := hf.1.1.trans HS.out
                  have HF := Lib.hid hf; have HK := Lib.hid hk; have HSK := Lib.hid hsk
                  clear hf hk hrel hsk
                  obtain ⟨-, -, b1, p1, t1, q1⟩ := (SA.at_ HK.out HSK.out (i := i) (I := (i : Int)) (by omega) rfl)
                  obtain ⟨-, -, b2, p2, t2, q2⟩ := (SA.at_ HK.out HSK.out (i := a) (I := (a : Int)) (by omega) rfl)
                  cases hlv : ltE dk[i]! dk[a]! with
                  | true =>
                    obtain ⟨xv, yv, c1, c2, hl9⟩ := SA.lss HK.out HSK.out (i := i) (j := a) (by omega) (by omega) hlv
                    have HL := Lib.hid hl9; clear hl9
                    have HV := Lib.hid hlv; clear hlv
                    go_wp2_with fail
                    go_quiet (first | (go_at_call 65; exact Calls.quiet_of_same (HL.out _)))
                    obtain ⟨w3, hw9, hb0⟩ := SA.name HK.out nq
                    rw [hw9]; clear hw9 c1 c2 b1 b2 p1 p2 t1 t2 q1 q2 HL
                    have HN := Lib.hid (show PA w0 g cap a b d (i + 1) j w3 from ⟨dk, HF.out.up HV.out, HK.out.below hb0⟩)
                    clear hb0
                    go_wp2
                    go_roundw
                    case rel => exact ⟨i + 1, by go_num, by omega, by omega, by omega, HN⟩
                    case measure => simp [intOf]; omega
                  | false =>
                    obtain ⟨xv, yv, c1, c2, hl9⟩ := SA.lss HK.out HSK.out (i := i) (j := a) (by omega) (by omega) hlv
                    have HL := Lib.hid hl9; clear hl9
                    have HV := Lib.hid hlv; clear hlv
                    go_wp2_with fail
                    go_quiet (first | (go_at_call 65; exact Calls.quiet_of_same (HL.out _)))
                    obtain ⟨w3, hw9, hb0⟩ := SA.name HK.out nq
                    rw [hw9]; clear hw9 c1 c2 b1 b2 p1 p2 t1 t2 q1 q2 HL
                    have HREL := Lib.hid (show PA2 w0 g cap a b d i j w3 from ⟨dk, HF.out, HK.out.below hb0, fun _ => HV.out⟩)
                    clear hb0 HK HF HV hle
                    go_wp2
                    go_loopw [11] (fun vj wr => ∃ j : Nat, vj = .int .i64 j ∧ a ≤ j ∧ i ≤ j + 1 ∧ j < b ∧ j ≤ J0 ∧ Hid (PA2 w0 g cap a b d i j wr)) (fun vj _ => (intOf vj).toNat)
                    case atStart => exact ⟨j, rfl, by omega, by omega, by omega, by omega, HREL⟩
                    case round =>
                      clear HREL
                      obtain ⟨j, rfl, haj, hij, hjb, hjJ, hrel⟩ := hrel
                      by_cases hle : i ≤ j
                      · obtain ⟨dk, hf, hk, hst⟩ := hrel.out
                        have hsk := hf.1.1.trans HS.out
                        have HF := Lib.hid hf; have HK := Lib.hid hk; have HST := Lib.hid (hst hle); have HSK := Lib.hid hsk
                        clear hf hk hst hsk hrel
                        obtain ⟨-, -, b1, p1, t1, q1⟩ := (SA.at_ HK.out HSK.out (i := j) (I := (j : Int)) (by omega) rfl)
                        obtain ⟨-, -, b2, p2, t2, q2⟩ := (SA.at_ HK.out HSK.out (i := a) (I := (a : Int)) (by omega) rfl)
                        cases hlv : ltE dk[j]! dk[a]! with
                        | false =>
                          obtain ⟨xv, yv, c1, c2, hl9⟩ := SA.lss HK.out HSK.out (i := j) (j := a) (by omega) (by omega) hlv
                          have HL := Lib.hid hl9; clear hl9
                          have HV := Lib.hid hlv; clear hlv
                          go_wp2_with fail
                          go_quiet (first | (go_at_call 65; exact Calls.quiet_of_same (HL.out _)))
                          obtain ⟨w3, hw9, hb0⟩ := SA.name HK.out nq
                          rw [hw9]; clear hw9 c1 c2 b1 b2 p1 p2 t1 t2 q1 q2 HL
                          have HN := Lib.hid (show PA2 w0 g cap a b d i (j - 1) w3 from ⟨dk, HF.out.down HV.out, HK.out.below hb0, fun _ => HST.out⟩)
                          clear hb0
                          go_wp2
                          go_roundw
                          case rel => exact ⟨j - 1, by congr 1; omega, by omega, by omega, by omega, by omega, HN⟩
                          case measure => simp [intOf]; omega
                        | true =>
                          obtain ⟨xv, yv, c1, c2, hl9⟩ := SA.lss HK.out HSK.out (i := j) (j := a) (by omega) (by omega) hlv
                          have HL := Lib.hid hl9; clear hl9
                          have HV := Lib.hid hlv; clear hlv
                          go_wp2_with fail
                          go_quiet (first | (go_at_call 65; exact Calls.quiet_of_same (HL.out _)))
                          obtain ⟨w3, hw9, hb0⟩ := SA.name HK.out nq
                          rw [hw9]; clear hw9 c1 c2 b1 b2 p1 p2 t1 t2 q1 q2 HL
                          have hlt : i < j := by
                            rcases Nat.lt_or_ge i j with h | h
                            · exact h
                            · exfalso
                              have e : i = j := by omega
                              subst e
                              have h1 := HST.out; rw [HV.out] at h1; cases h1
                          have HK3 := Lib.hid (HK.out.below hb0)
                          clear hb0
                          obtain ⟨-, -, b1, p1, t1, q1⟩ := (SA.at_ HK3.out HSK.out (i := i) (I := (i : Int)) (by omega) rfl)
                          obtain ⟨-, -, b2, p2, t2, q2⟩ := (SA.at_ HK3.out HSK.out (i := j) (I := (j : Int)) (by omega) rfl)
                          obtain ⟨xv, yv, c1, c2, f1, f2, hsw9⟩ := SA.swp9 HK3.out HSK.out (i := i) (j := j) (by omega) (by omega)
                          have HSW := Lib.hid hsw9; clear hsw9
                          go_wp2_with fail
                          go_region
                          obtain ⟨w4, hw9, hsa⟩ := SA.word HSW.out
                          rw [hw9]; clear hw9 c1 c2 f1 f2 b1 b2 p1 p2 t1 t2 q1 q2 HSW
                          have HN := Lib.hid (show PA w0 g cap a b d (i + 1) (j - 1) w4 from ⟨_, HF.out.swap hai hlt hjb (by rw [HS.out]; omega) HST.out HV.out, hsa⟩)
                          clear hsa
                          go_wp2
                          go_roundw
                          case rel => exact ⟨i + 1, j - 1, by go_num, by congr 1; omega, by omega, by omega, by omega, by omega, HN⟩
                          case measure => simp [intOf]; omega
                      · have hgf : decide ((i : Int) ≤ (j : Int)) = false := decide_eq_false (by omega)
                        go_wp2_with fail
                        go_quiet (fail)
                        obtain ⟨w8, hw9, hrel8⟩ := PA2.name9 hrel.out nq
                        rw [hw9]; clear hw9 hrel hgf
                        have HE := Lib.hid hrel8
                        clear hrel8
                        have HIJ := Lib.hid (show i = j + 1 by omega)
                        obtain ⟨dk, hf, hk, _⟩ := HE.out
                        have HF := Lib.hid (hf.done HIJ.out (by omega) hjb (by rw [HS.out]; exact hbn)); have HK := Lib.hid hk; have HSK := Lib.hid (hf.1.1.trans HS.out)
                        clear HE hf hk
                        obtain ⟨-, -, b1, p1, t1, q1⟩ := (SA.at_ HK.out HSK.out (i := j) (I := (j : Int)) (by omega) rfl)
                        obtain ⟨-, -, b2, p2, t2, q2⟩ := (SA.at_ HK.out HSK.out (i := a) (I := (a : Int)) (by omega) rfl)
                        obtain ⟨xv, yv, c1, c2, f1, f2, hsw9⟩ := SA.swp9 HK.out HSK.out (i := j) (j := a) (by omega) (by omega)
                        have HSW := Lib.hid hsw9; clear hsw9
                        have c3 := SA.mid HK.out HSK.out (i := j) (j := a) (by omega) (by omega) c1 c2
                        go_wp2_with fail
                        go_region
                        obtain ⟨w4, hw9, hsa⟩ := SA.word HSW.out
                        rw [hw9]; clear hw9 c3 c1 c2 f1 f2 b1 b2 p1 p2 t1 t2 q1 q2 HSW
                        have HP := Lib.hid (show PartP w0 g cap a b d (.returned (.tuple #[.int .i64 (j : Int), .bool false])) w4 from ⟨j, false, _, rfl, by omega, hjb, HF.out, hsa⟩)
                        clear hsa
                        go_wp2
                        go_ret2
                        exact HP.out
                · have hgf : decide ((i : Int) ≤ (j : Int)) = false := decide_eq_false (by omega)
                  go_wp2_with fail
                  go_quiet (fail)
                  obtain ⟨w8, hw9, hrel8⟩ := PA.name9 hrel.out nq
                  rw [hw9]; clear hw9 hrel hgf
                  have HREL := Lib.hid (PA2.stop hrel8 hle)
                  clear hrel8
                  go_wp2
                  clear hle
                  go_loopw [11] (fun vj wr => ∃ j : Nat, vj = .int .i64 j ∧ a ≤ j ∧ i ≤ j + 1 ∧ j < b ∧ j ≤ J0 ∧ Hid (PA2 w0 g cap a b d i j wr)) (fun vj _ => (intOf vj).toNat)
                  case atStart => exact ⟨j, rfl, by omega, by omega, by omega, by omega, HREL⟩
                  case round =>
                    clear HREL
                    obtain ⟨j, rfl, haj, hij, hjb, hjJ, hrel⟩ := hrel
                    by_cases hle : i ≤ j
                    · obtain ⟨dk, hf, hk, hst⟩ := hrel.out
                      have hsk := hf.1.1.trans HS.out
                      have HF := Lib.hid hf; have HK := Lib.hid hk; have HST := Lib.hid (hst hle); have HSK := Lib.hid hsk
                      clear hf hk hst hsk hrel
                      obtain ⟨-, -, b1, p1, t1, q1⟩ := (SA.at_ HK.out HSK.out (i := j) (I := (j : Int)) (by omega) rfl)
                      obtain ⟨-, -, b2, p2, t2, q2⟩ := (SA.at_ HK.out HSK.out (i := a) (I := (a : Int)) (by omega) rfl)
                      cases hlv : ltE dk[j]! dk[a]! with
                      | false =>
                        obtain ⟨xv, yv, c1, c2, hl9⟩ := SA.lss HK.out HSK.out (i := j) (j := a) (by omega) (by omega) hlv
                        have HL := Lib.hid hl9; clear hl9
                        have HV := Lib.hid hlv; clear hlv
                        go_wp2_with fail
                        go_quiet (first | (go_at_call 65; exact Calls.quiet_of_same (HL.out _)))
                        obtain ⟨w3, hw9, hb0⟩ := SA.name HK.out nq
                        rw [hw9]; clear hw9 c1 c2 b1 b2 p1 p2 t1 t2 q1 q2 HL
                        have HN := Lib.hid (show PA2 w0 g cap a b d i (j - 1) w3 from ⟨dk, HF.out.down HV.out, HK.out.below hb0, fun _ => HST.out⟩)
                        clear hb0
                        go_wp2
                        go_roundw
                        case rel => exact ⟨j - 1, by congr 1; omega, by omega, by omega, by omega, by omega, HN⟩
                        case measure => simp [intOf]; omega
                      | true =>
                        obtain ⟨xv, yv, c1, c2, hl9⟩ := SA.lss HK.out HSK.out (i := j) (j := a) (by omega) (by omega) hlv
                        have HL := Lib.hid hl9; clear hl9
                        have HV := Lib.hid hlv; clear hlv
                        go_wp2_with fail
                        go_quiet (first | (go_at_call 65; exact Calls.quiet_of_same (HL.out _)))
                        obtain ⟨w3, hw9, hb0⟩ := SA.name HK.out nq
                        rw [hw9]; clear hw9 c1 c2 b1 b2 p1 p2 t1 t2 q1 q2 HL
                        have hlt : i < j := by
                          rcases Nat.lt_or_ge i j with h | h
                          · exact h
                          · exfalso
                            have e : i = j := by omega
                            subst e
                            have h1 := HST.out; rw [HV.out] at h1; cases h1
                        have HK3 := Lib.hid (HK.out.below hb0)
                        clear hb0
                        obtain ⟨-, -, b1, p1, t1, q1⟩ := (SA.at_ HK3.out HSK.out (i := i) (I := (i : Int)) (by omega) rfl)
                        obtain ⟨-, -, b2, p2, t2, q2⟩ := (SA.at_ HK3.out HSK.out (i := j) (I := (j : Int)) (by omega) rfl)
                        obtain ⟨xv, yv, c1, c2, f1, f2, hsw9⟩ := SA.swp9 HK3.out HSK.out (i := i) (j := j) (by omega) (by omega)
                        have HSW := Lib.hid hsw9; clear hsw9
                        go_wp2_with fail
                        go_region
                        obtain ⟨w4, hw9, hsa⟩ := SA.word HSW.out
                        rw [hw9]; clear hw9 c1 c2 f1 f2 b1 b2 p1 p2 t1 t2 q1 q2 HSW
                        have HN := Lib.hid (show PA w0 g cap a b d (i + 1) (j - 1) w4 from ⟨_, HF.out.swap hai hlt hjb (by rw [HS.out]; omega) HST.out HV.out, hsa⟩)
                        clear hsa
                        go_wp2
                        go_roundw
                        case rel => exact ⟨i + 1, j - 1, by go_num, by congr 1; omega, by omega, by omega, by omega, by omega, HN⟩
                        case measure => simp [intOf]; omega
                    · have hgf : decide ((i : Int) ≤ (j : Int)) = false := decide_eq_false (by omega)
                      go_wp2_with fail
                      go_quiet (fail)
                      obtain ⟨w8, hw9, hrel8⟩ := PA2.name9 hrel.out nq
                      rw [hw9]; clear hw9 hrel hgf
                      have HE := Lib.hid hrel8
                      clear hrel8
                      have HIJ := Lib.hid (show i = j + 1 by omega)
                      obtain ⟨dk, hf, hk, _⟩ := HE.out
                      have HF := Lib.hid (hf.done HIJ.out (by omega) hjb (by rw [HS.out]; exact hbn)); have HK := Lib.hid hk; have HSK := Lib.hid (hf.1.1.trans HS.out)
                      clear HE hf hk
                      obtain ⟨-, -, b1, p1, t1, q1⟩ := (SA.at_ HK.out HSK.out (i := j) (I := (j : Int)) (by omega) rfl)
                      obtain ⟨-, -, b2, p2, t2, q2⟩ := (SA.at_ HK.out HSK.out (i := a) (I := (a : Int)) (by omega) rfl)
                      obtain ⟨xv, yv, c1, c2, f1, f2, hsw9⟩ := SA.swp9 HK.out HSK.out (i := j) (j := a) (by omega) (by omega)
                      have HSW := Lib.hid hsw9; clear hsw9
                      have c3 := SA.mid HK.out HSK.out (i := j) (j := a) (by omega) (by omega) c1 c2
                      go_wp2_with fail
                      go_region
                      obtain ⟨w4, hw9, hsa⟩ := SA.word HSW.out
                      rw [hw9]; clear hw9 c3 c1 c2 f1 f2 b1 b2 p1 p2 t1 t2 q1 q2 HSW
                      have HP := Lib.hid (show PartP w0 g cap a b d (.returned (.tuple #[.int .i64 (j : Int), .bool false])) w4 from ⟨j, false, _, rfl, by omega, hjb, HF.out, hsa⟩)
                      clear hsa
                      go_wp2
                      go_ret2
                      exact HP.out
        · have hgf : decide ((i : Int) ≤ (j : Int)) = false := decide_eq_false (by omega)
          go_wp2_with fail
          go_quiet (fail)
          obtain ⟨w8, hw9, hrel8⟩ := PA2.name9 hrel.out nq
          rw [hw9]; clear hw9 hrel hgf
          have HE := Lib.hid hrel8
          clear hrel8
          have HIJ := Lib.hid (show i = j + 1 by omega)
          obtain ⟨dk, hf, hk, _⟩ := HE.out
          have HF := Lib.hid (hf.done HIJ.out (by omega) hjb (by rw [HS.out]; exact hbn)); have HK := Lib.hid hk; have HSK := Lib.hid (hf.1.1.trans HS.out)
          clear HE hf hk
          obtain ⟨-, -, b1, p1, t1, q1⟩ := (SA.at_ HK.out HSK.out (i := j) (I := (j : Int)) (by omega) rfl)
          obtain ⟨-, -, b2, p2, t2, q2⟩ := (SA.at_ HK.out HSK.out (i := a) (I := (a : Int)) (by omega) rfl)
          obtain ⟨xv, yv, c1, c2, f1, f2, hsw9⟩ := SA.swp9 HK.out HSK.out (i := j) (j := a) (by omega) (by omega)
          have HSW := Lib.hid hsw9; clear hsw9
          have c3 := SA.mid HK.out HSK.out (i := j) (j := a) (by omega) (by omega) c1 c2
          go_wp2_with fail
          go_region
          obtain ⟨w4, hw9, hsa⟩ := SA.word HSW.out
          rw [hw9]; clear hw9 c3 c1 c2 f1 f2 b1 b2 p1 p2 t1 t2 q1 q2 HSW
          have HP := Lib.hid (show PartP w0 g cap a b d (.returned (.tuple #[.int .i64 (j : Int), .bool true])) w4 from ⟨j, true, _, rfl, by omega, hjb, HF.out, hsa⟩)
          clear hsa
          go_wp2
          go_ret2
          exact HP.out
end
section
set_option linter.unusedVariables false
set_option linter.unusedSimpArgs false
open Go.RowKit
theorem sd_go {d : Array En} {j : Nat} (h : 1 ≤ j) (hl : ltE d[j]! d[j - 1]! = true) : Sort.shiftDown ltE j d = Sort.shiftDown ltE (j - 1) (Sort.swp d j (j - 1)) := by
  obtain ⟨k, rfl⟩ : ∃ k, j = k + 1 := ⟨j - 1, by omega⟩
  simp only [Nat.add_sub_cancel] at hl ⊢
  rw [Sort.shiftDown, if_neg (by simp [hl])]
theorem sd_stop {d : Array En} {j : Nat} (h : j = 0 ∨ ltE d[j]! d[j - 1]! = false) : Sort.shiftDown ltE j d = d := by
  cases j with
  | zero => rfl
  | succ k => rw [Sort.shiftDown, if_pos (by simpa using h)]
theorem su_go {d : Array En} {b j : Nat} (h : j < b) (hl : ltE d[j]! d[j - 1]! = true) : Sort.shiftUp ltE b j d = Sort.shiftUp ltE b (j + 1) (Sort.swp d j (j - 1)) := by
  rw [Sort.shiftUp, if_pos h, if_neg (by simp [hl])]
theorem su_stop {d : Array En} {b j : Nat} (h : ¬ j < b ∨ ltE d[j]! d[j - 1]! = false) : Sort.shiftUp ltE b j d = d := by
  rw [Sort.shiftUp]
  by_cases hj : j < b
  · rw [if_pos hj, if_pos (by rcases h with h | h; exact absurd hj h; simp [h])]
  · rw [if_neg hj]
theorem sc_go {d : Array En} {b i : Nat} (h : i < b) (hl : ltE d[i]! d[i - 1]! = false) : Sort.scanSorted ltE d b i = Sort.scanSorted ltE d b (i + 1) := by
  rw [Sort.scanSorted, if_pos (by simp [h, hl])]
theorem sc_stop {d : Array En} {b i : Nat} (h : ¬ i < b ∨ ltE d[i]! d[i - 1]! = true) : Sort.scanSorted ltE d b i = i := by
  rw [Sort.scanSorted, if_neg]
  rcases h with h | h
  · simp [h]
  · simp [h]
def PI (w0 : World) (g cap n a b : Nat) (d : Array En) (i s : Nat) (w : World) : Prop := ∃ dk : Array En, dk.size = n ∧ SA w0 g cap dk w ∧ Sort.partialIns ltE a b (5 - s) i dk = Sort.partialIns ltE a b 5 (a + 1) d
def PK (w0 : World) (g cap b : Nat) (dk : Array En) (i k : Nat) (w : World) : Prop := SA w0 g cap dk w ∧ Sort.scanSorted ltE dk b k = Sort.scanSorted ltE dk b i
def PD (w0 : World) (g cap n : Nat) (D : Array En) (j : Nat) (w : World) : Prop := ∃ dj : Array En, dj.size = n ∧ SA w0 g cap dj w ∧ Sort.shiftDown ltE j dj = D
def PU (w0 : World) (g cap n b : Nat) (D : Array En) (j : Nat) (w : World) : Prop := ∃ dj : Array En, dj.size = n ∧ SA w0 g cap dj w ∧ Sort.shiftUp ltE b j dj = D
def PE (w0 : World) (g cap n : Nat) (D : Array En) (w : World) : Prop := D.size = n ∧ SA w0 g cap D w
def PinsP (w0 : World) (g cap n a b : Nat) (d : Array En) (e : Ending) (w' : World) : Prop :=
  ∃ (r : Bool) (d' : Array En), e = .returned (.bool r) ∧ Sort.partialInsertionSort ltE d a b = (d', r) ∧ SA w0 g cap d' w'
theorem pi_step {a b s i k : Nat} {d0 dk : Array En} (hs : s < 5) (hE : Sort.partialIns ltE a b (5 - s) i dk = Sort.partialIns ltE a b 5 (a + 1) d0) (hk : Sort.scanSorted ltE dk b i = k) :
    Sort.partialInsertionSort ltE d0 a b = if k = b then (dk, true) else if b - a < 50 then (dk, false) else
      Sort.partialIns ltE a b (5 - (s + 1)) k (Sort.fixUp ltE b k (Sort.fixDown ltE a k (Sort.swp dk k (k - 1)))) := by
  unfold Sort.partialInsertionSort
  rw [← hE, show 5 - s = (5 - (s + 1)) + 1 by omega, Sort.partialIns_succ, hk]
set_option maxRecDepth 100000 in
set_option maxHeartbeats 16000000 in
theorem spin_any (w0 : World) (g cap n a b : Nat) (d : Array En) (w : World) (h : SA w0 g cap d w) (hs : d.size = n) (hab : a < b) (hbn : b ≤ n) (hn : n ≤ 2305843009213693951) :
    Calls Try.prog 64 #[.slice (some ⟨g, 0, none⟩) n cap, .int .i64 (a : Int), .int .i64 (b : Int)] w fun e w' => PinsP w0 g cap n a b d e w' := by
  have HR := Lib.hid (show PI w0 g cap n a b d (a + 1) 0 w from ⟨d, hs, h, rfl⟩)
  clear h hs
  go_enter Try.func64, Try.ntmps64
  go_wp2
  go_loopw [7, 8] (fun vi vs wr => ∃ i s : Nat, vi = .int .i64 i ∧ vs = .int .i64 s ∧ s ≤ 5 ∧ a < i ∧ i ≤ b ∧ Hid (PI w0 g cap n a b d i s wr)) (fun _ vs _ => (5 - intOf vs).toNat)
  case atStart => exact ⟨a + 1, 0, by go_num, rfl, by omega, by omega, by omega, HR⟩
  case round =>
    clear HR
    obtain ⟨i, s, rfl, rfl, hs5, hai, hib, hrel⟩ := hrel
    by_cases hs : s < 5
    · have hsi : (s : Int) < 5 := by omega
      obtain ⟨dk, hsk, hk, hE⟩ := hrel.out
      have HE := Lib.hid hE; have HSK := Lib.hid hsk
      have HREL := Lib.hid (show PK w0 g cap b dk i i wr from ⟨hk, rfl⟩)
      clear hsk hk hE hrel
      go_wp2
      go_loopw [7] (fun vk wr => ∃ k : Nat, vk = .int .i64 k ∧ i ≤ k ∧ k ≤ b ∧ Hid (PK w0 g cap b dk i k wr)) (fun vk _ => (b - intOf vk).toNat)
      case atStart => exact ⟨i, rfl, by omega, by omega, HREL⟩
      case round =>
        clear HREL
        obtain ⟨k, rfl, hik, hkb, hrel⟩ := hrel
        have HK := Lib.hid hrel.out.1; have HSC := Lib.hid hrel.out.2
        clear hrel
        by_cases hlt : k < b
        · skip
          obtain ⟨-, -, b1, p1, t1, q1⟩ := (SA.at_ HK.out HSK.out (i := k) (I := (k : Int)) (by omega) rfl)
          obtain ⟨-, -, b2, p2, t2, q2⟩ := (SA.at_ HK.out HSK.out (i := k - 1) (I := (k : Int) - 1) (by omega) (by omega))
          cases hlv : ltE dk[k]! dk[k - 1]! with
          | false =>
            obtain ⟨xv, yv, c1, c2, hl9⟩ := SA.lss HK.out HSK.out (i := k) (j := k - 1) (by omega) (by omega) hlv
            have HL := Lib.hid hl9; clear hl9
            have HV := Lib.hid hlv; clear hlv
            go_wp2_with fail
            go_quiet (first | (go_at_call 65; exact Calls.quiet_of_same (HL.out _)))
            obtain ⟨w3, hw9, hb0⟩ := SA.name HK.out nq
            rw [hw9]; clear hw9 c1 c2 b1 b2 p1 p2 t1 t2 q1 q2 HL
            have HN := Lib.hid (show PK w0 g cap b dk i (k + 1) w3 from ⟨HK.out.below hb0, by rw [← HSC.out]; exact (sc_go hlt HV.out).symm⟩)
            clear hb0
            go_wp2
            go_roundw
            case rel => exact ⟨k + 1, by go_num, by omega, by omega, HN⟩
            case measure => simp [intOf]; omega
          | true =>
            obtain ⟨xv, yv, c1, c2, hl9⟩ := SA.lss HK.out HSK.out (i := k) (j := k - 1) (by omega) (by omega) hlv
            have HL := Lib.hid hl9; clear hl9
            have HV := Lib.hid hlv; clear hlv
            go_wp2_with fail
            go_quiet (first | (go_at_call 65; exact Calls.quiet_of_same (HL.out _)))
            obtain ⟨w3, hw9, hb0⟩ := SA.name HK.out nq
            rw [hw9]; clear hw9 c1 c2 b1 b2 p1 p2 t1 t2 q1 q2 HL
            have HK3 := Lib.hid (HK.out.below hb0)
            have HST := Lib.hid (pi_step (k := k) hs HE.out (by rw [← HSC.out]; exact sc_stop (.inr HV.out)))
            clear hb0 HK HV HSC
            have hkb2 : ¬ k = b := by omega
            have hkbi : ((k : Int) == (b : Int)) = false := by simp; omega
            by_cases h50 : b - a < 50
            · have h50i : (b : Int) - (a : Int) < 50 := by omega
              have HP := Lib.hid (show PinsP w0 g cap n a b d (.returned (.bool false)) w3 from ⟨false, dk, rfl, by rw [HST.out, if_neg hkb2, if_pos h50], HK3.out⟩)
              clear HST HK3
              go_wp2
              go_ret
              exact HP.out
            · have h50i : ¬ (b : Int) - (a : Int) < 50 := by omega
              obtain ⟨-, -, b1, p1, t1, q1⟩ := (SA.at_ HK3.out HSK.out (i := k) (I := (k : Int)) (by omega) rfl)
              obtain ⟨-, -, b2, p2, t2, q2⟩ := (SA.at_ HK3.out HSK.out (i := k - 1) (I := (k : Int) - 1) (by omega) (by omega))
              obtain ⟨xv, yv, c1, c2, f1, f2, hsw9⟩ := SA.swp9 HK3.out HSK.out (i := k) (j := k - 1) (by omega) (by omega)
              have HSW := Lib.hid hsw9; clear hsw9
              have HST2 := Lib.hid (HST.out.trans (by rw [if_neg hkb2, if_neg h50]))
              have HSZ := Lib.hid (show (Sort.swp dk k (k - 1)).size = n by rw [Sort.size_swp]; exact HSK.out)
              clear HST
              go_wp2_with fail
              go_region
              obtain ⟨w4, hw9, hsa⟩ := SA.word HSW.out
              rw [hw9]; clear hw9 c1 c2 f1 f2 b1 b2 p1 p2 t1 t2 q1 q2 HSW
              have HA4 := Lib.hid hsa; clear hsa HK3 HSK HE
              generalize Sort.swp dk k (k - 1) = d1 at *
              go_upto_if 61 with fail
              go_cut [] from 13 to 132 (fun wx => Hid (PE w0 g cap n (Sort.fixDown ltE a k d1) wx))
              case first =>
                by_cases h2 : 2 ≤ k - a
                · have h2i : (2 : Int) ≤ (k : Int) - (a : Int) := by omega
                  have HFD := Lib.hid (show Sort.fixDown ltE a k d1 = Sort.shiftDown ltE (k - 1) d1 from if_pos h2)
                  have HREL := Lib.hid (show PD w0 g cap n (Sort.fixDown ltE a k d1) (k - 1) w4 from ⟨d1, HSZ.out, HA4.out, HFD.out.symm⟩)
                  clear HFD
                  have hd2 : decide ((2 : Int) ≤ (k : Int) - (a : Int)) = true := decide_eq_true h2i
                  rw [hd2]
                  clear hd2
                  go_wp2
                  go_loopw [9] (fun vj wr => ∃ j : Nat, vj = .int .i64 j ∧ j ≤ k ∧ Hid (PD w0 g cap n (Sort.fixDown ltE a k d1) j wr)) (fun vj _ => (intOf vj).toNat)
                  case atStart => exact ⟨k - 1, by congr 1; omega, by omega, HREL⟩
                  case round =>
                    clear HREL
                    obtain ⟨j, rfl, hjk, hrel⟩ := hrel
                    obtain ⟨dj, hsj, hj, hD⟩ := hrel.out
                    have HJ := Lib.hid hj; have HSJ := Lib.hid hsj; have HD := Lib.hid hD
                    clear hrel hsj hj hD
                    by_cases h1 : 1 ≤ j
                    · have h1i : (1 : Int) ≤ (j : Int) := by omega
                      obtain ⟨-, -, b1, p1, t1, q1⟩ := (SA.at_ HJ.out HSJ.out (i := j) (I := (j : Int)) (by omega) rfl)
                      obtain ⟨-, -, b2, p2, t2, q2⟩ := (SA.at_ HJ.out HSJ.out (i := j - 1) (I := (j : Int) - 1) (by omega) (by omega))
                      cases hlv : ltE dj[j]! dj[j - 1]! with
                      | true =>
                        obtain ⟨xv, yv, c1, c2, hl9⟩ := SA.lss HJ.out HSJ.out (i := j) (j := j - 1) (by omega) (by omega) hlv
                        have HL := Lib.hid hl9; clear hl9
                        have HV := Lib.hid hlv; clear hlv
                        go_wp2_with fail
                        go_quiet (first | (go_at_call 65; exact Calls.quiet_of_same (HL.out _)))
                        obtain ⟨w5, hw9, hb0⟩ := SA.name HJ.out nq
                        rw [hw9]; clear hw9 c1 c2 b1 b2 p1 p2 t1 t2 q1 q2 HL
                        obtain ⟨-, -, b1, p1, t1, q1⟩ := (SA.at_ (HJ.out.below hb0) HSJ.out (i := j) (I := (j : Int)) (by omega) rfl)
                        obtain ⟨-, -, b2, p2, t2, q2⟩ := (SA.at_ (HJ.out.below hb0) HSJ.out (i := j - 1) (I := (j : Int) - 1) (by omega) (by omega))
                        obtain ⟨xv, yv, c1, c2, f1, f2, hsw9⟩ := SA.swp9 (HJ.out.below hb0) HSJ.out (i := j) (j := j - 1) (by omega) (by omega)
                        have HSW := Lib.hid hsw9; clear hsw9
                        clear hb0
                        go_wp2_with fail
                        go_region
                        obtain ⟨w6, hw9, hsa⟩ := SA.word HSW.out
                        rw [hw9]; clear hw9 c1 c2 f1 f2 b1 b2 p1 p2 t1 t2 q1 q2 HSW
                        have HN := Lib.hid (show PD w0 g cap n (Sort.fixDown ltE a k d1) (j - 1) w6 from ⟨_, by rw [Sort.size_swp]; exact HSJ.out, hsa, by rw [← HD.out]; exact (sd_go h1 HV.out).symm⟩)
                        clear hsa
                        go_wp2
                        go_roundw
                        case rel => exact ⟨j - 1, by congr 1; omega, by omega, HN⟩
                        case measure => simp [intOf]; omega
                      | false =>
                        obtain ⟨xv, yv, c1, c2, hl9⟩ := SA.lss HJ.out HSJ.out (i := j) (j := j - 1) (by omega) (by omega) hlv
                        have HL := Lib.hid hl9; clear hl9
                        have HV := Lib.hid hlv; clear hlv
                        go_wp2_with fail
                        go_quiet (first | (go_at_call 65; exact Calls.quiet_of_same (HL.out _)))
                        obtain ⟨w5, hw9, hb0⟩ := SA.name HJ.out nq
                        rw [hw9]; clear hw9 c1 c2 b1 b2 p1 p2 t1 t2 q1 q2 HL
                        have HN := Lib.hid (show PE w0 g cap n (Sort.fixDown ltE a k d1) w5 from by rw [← HD.out, sd_stop (.inr HV.out)]; exact ⟨HSJ.out, HJ.out.below hb0⟩)
                        clear hb0
                        go_wp2
                        go_meet
                        exact HN
                    · have h1i : ¬ (1 : Int) ≤ (j : Int) := by omega
                      have HN := Lib.hid (show PE w0 g cap n (Sort.fixDown ltE a k d1) _ from by rw [← HD.out, sd_stop (.inl (by omega))]; exact ⟨HSJ.out, HJ.out⟩)
                      go_wp2
                      go_meet
                      exact HN
                · have h2i : ¬ (2 : Int) ≤ (k : Int) - (a : Int) := by omega
                  have HN := Lib.hid (show PE w0 g cap n (Sort.fixDown ltE a k d1) w4 from by rw [Sort.fixDown, if_neg h2]; exact ⟨HSZ.out, HA4.out⟩)
                  go_wp2
                  go_meet
                  exact HN
              case rest =>
                have HA5 := hcut
                clear hcut HA4 HSZ
                generalize Sort.fixDown ltE a k d1 = d2 at *
                by_cases h2 : 2 ≤ b - k
                · have h2i : (2 : Int) ≤ (b : Int) - (k : Int) := by omega
                  have HFD := Lib.hid (show Sort.fixUp ltE b k d2 = Sort.shiftUp ltE b (k + 1) d2 from if_pos h2)
                  have HREL := Lib.hid (show PU w0 g cap n b (Sort.fixUp ltE b k d2) (k + 1) _ from ⟨d2, HA5.out.1, HA5.out.2, HFD.out.symm⟩)
                  clear HFD
                  go_wp2
                  go_loopw [10] (fun vj wr => ∃ j : Nat, vj = .int .i64 j ∧ k < j ∧ j ≤ b ∧ Hid (PU w0 g cap n b (Sort.fixUp ltE b k d2) j wr)) (fun vj _ => (b - intOf vj).toNat)
                  case atStart => exact ⟨k + 1, by go_num, by omega, by omega, HREL⟩
                  case round =>
                    clear HREL
                    obtain ⟨j, rfl, hjk, hjb, hrel⟩ := hrel
                    obtain ⟨dj, hsj, hj, hD⟩ := hrel.out
                    have HJ := Lib.hid hj; have HSJ := Lib.hid hsj; have HD := Lib.hid hD
                    clear hrel hsj hj hD
                    by_cases h1 : j < b
                    · skip
                      obtain ⟨-, -, b1, p1, t1, q1⟩ := (SA.at_ HJ.out HSJ.out (i := j) (I := (j : Int)) (by omega) rfl)
                      obtain ⟨-, -, b2, p2, t2, q2⟩ := (SA.at_ HJ.out HSJ.out (i := j - 1) (I := (j : Int) - 1) (by omega) (by omega))
                      cases hlv : ltE dj[j]! dj[j - 1]! with
                      | true =>
                        obtain ⟨xv, yv, c1, c2, hl9⟩ := SA.lss HJ.out HSJ.out (i := j) (j := j - 1) (by omega) (by omega) hlv
                        have HL := Lib.hid hl9; clear hl9
                        have HV := Lib.hid hlv; clear hlv
                        go_wp2_with fail
                        go_quiet (first | (go_at_call 65; exact Calls.quiet_of_same (HL.out _)))
                        obtain ⟨w5, hw9, hb0⟩ := SA.name HJ.out nq
                        rw [hw9]; clear hw9 c1 c2 b1 b2 p1 p2 t1 t2 q1 q2 HL
                        obtain ⟨-, -, b1, p1, t1, q1⟩ := (SA.at_ (HJ.out.below hb0) HSJ.out (i := j) (I := (j : Int)) (by omega) rfl)
                        obtain ⟨-, -, b2, p2, t2, q2⟩ := (SA.at_ (HJ.out.below hb0) HSJ.out (i := j - 1) (I := (j : Int) - 1) (by omega) (by omega))
                        obtain ⟨xv, yv, c1, c2, f1, f2, hsw9⟩ := SA.swp9 (HJ.out.below hb0) HSJ.out (i := j) (j := j - 1) (by omega) (by omega)
                        have HSW := Lib.hid hsw9; clear hsw9
                        clear hb0
                        go_wp2_with fail
                        go_region
                        obtain ⟨w6, hw9, hsa⟩ := SA.word HSW.out
                        rw [hw9]; clear hw9 c1 c2 f1 f2 b1 b2 p1 p2 t1 t2 q1 q2 HSW
                        have HN := Lib.hid (show PU w0 g cap n b (Sort.fixUp ltE b k d2) (j + 1) w6 from ⟨_, by rw [Sort.size_swp]; exact HSJ.out, hsa, by rw [← HD.out]; exact (su_go h1 HV.out).symm⟩)
                        clear hsa
                        go_wp2
                        go_roundw
                        case rel => exact ⟨j + 1, by go_num, by omega, by omega, HN⟩
                        case measure => simp [intOf]; omega
                      | false =>
                        obtain ⟨xv, yv, c1, c2, hl9⟩ := SA.lss HJ.out HSJ.out (i := j) (j := j - 1) (by omega) (by omega) hlv
                        have HL := Lib.hid hl9; clear hl9
                        have HV := Lib.hid hlv; clear hlv
                        go_wp2_with fail
                        go_quiet (first | (go_at_call 65; exact Calls.quiet_of_same (HL.out _)))
                        obtain ⟨w5, hw9, hb0⟩ := SA.name HJ.out nq
                        rw [hw9]; clear hw9 c1 c2 b1 b2 p1 p2 t1 t2 q1 q2 HL
                        have HM := Lib.hid (show PE w0 g cap n (Sort.fixUp ltE b k d2) w5 from by rw [← HD.out, su_stop (.inr HV.out)]; exact ⟨HSJ.out, HJ.out.below hb0⟩)
                        clear hb0
                        have HN := Lib.hid (show PI w0 g cap n a b d k (s + 1) _ from ⟨_, HM.out.1, HM.out.2, by rw [← HST2.out]; rfl⟩)
                        clear HM HST2
                        go_wp2
                        go_roundw
                        case rel => exact ⟨k, s + 1, rfl, by go_num, by omega, by omega, by omega, HN⟩
                        case measure => simp [intOf]; omega
                    · have HM := Lib.hid (show PE w0 g cap n (Sort.fixUp ltE b k d2) _ from by rw [← HD.out, su_stop (.inl h1)]; exact ⟨HSJ.out, HJ.out⟩)
                      have HN := Lib.hid (show PI w0 g cap n a b d k (s + 1) _ from ⟨_, HM.out.1, HM.out.2, by rw [← HST2.out]; rfl⟩)
                      clear HM HST2
                      go_wp2
                      go_roundw
                      case rel => exact ⟨k, s + 1, rfl, by go_num, by omega, by omega, by omega, HN⟩
                      case measure => simp [intOf]; omega
                · have h2i : ¬ (2 : Int) ≤ (b : Int) - (k : Int) := by omega
                  have HM := Lib.hid (show PE w0 g cap n (Sort.fixUp ltE b k d2) _ from by rw [Sort.fixUp, if_neg h2]; exact HA5.out)
                  have HN := Lib.hid (show PI w0 g cap n a b d k (s + 1) _ from ⟨_, HM.out.1, HM.out.2, by rw [← HST2.out]; rfl⟩)
                  clear HM HST2
                  go_wp2
                  go_roundw
                  case rel => exact ⟨k, s + 1, rfl, by go_num, by omega, by omega, by omega, HN⟩
                  case measure => simp [intOf]; omega
        · have hgf : decide ((k : Int) < (b : Int)) = false := decide_eq_false (by omega)
          go_wp2_with fail
          go_quiet (fail)
          obtain ⟨w8, hw9, hb8⟩ := SA.name HK.out nq
          rw [hw9]; clear hw9 hgf
          have HK8 := Lib.hid (HK.out.below hb8); clear hb8 HK
          have HST := Lib.hid (pi_step (k := k) hs HE.out (by rw [← HSC.out]; exact sc_stop (.inl hlt)))
          have HP := Lib.hid (show PinsP w0 g cap n a b d (.returned (.bool true)) _ from ⟨true, dk, rfl, by rw [HST.out, if_pos (show k = b by omega)], HK8.out⟩)
          have hkbi : ((k : Int) == (b : Int)) = true := by simp; omega
          clear HK8 HST HSC
          go_wp2
          go_ret
          exact HP.out
    · have hsi : ¬ (s : Int) < 5 := by omega
      have HP := Lib.hid (show PinsP w0 g cap n a b d (.returned (.bool false)) _ from (fun ⟨dk, _, hk, hE⟩ => ⟨false, dk, rfl, by unfold Sort.partialInsertionSort; rw [← hE, show 5 - s = 0 by omega]; rfl, hk⟩) hrel.out)
      clear hrel
      go_wp2
      go_ret
      exact HP.out

theorem spin_spec (w0 : World) (g cap n a b : Nat) (d : Array En) (w : World) (h : SA w0 g cap d w) (hs : d.size = n) (hab : a < b) (hbn : b ≤ n) (hn : n ≤ 2305843009213693951) (hB : Sort.Below ltE a b d) :
    Calls Try.prog 64 #[.slice (some ⟨g, 0, none⟩) n cap, .int .i64 (a : Int), .int .i64 (b : Int)] w fun e w' => ∃ r : Bool, e = .returned (.bool r) ∧ ∃ d', Sort.PermIn a b d d' ∧ (r = true → Sort.SortedIn ltE a b d') ∧ SA w0 g cap d' w' :=
  (spin_any w0 g cap n a b d w h hs hab hbn hn).mono fun e w' ⟨r, d', he, hp, hk⟩ => by
    have := Sort.partialInsertionSort_holds (lt := ltE) swo_ltE d a b hab (by rw [hs]; exact hbn) hB
    rw [hp] at this
    exact ⟨r, he, d', this.1, this.2, hk⟩
end
section
set_option linter.unusedVariables false
set_option linter.unusedSimpArgs false
open Go.RowKit
/-- Whatever sorts dk from a' to b' sorts d from a to b. -/
def Cont (a b a' b' : Nat) (d dk : Array En) : Prop := ∀ d', Sort.PermIn a' b' dk d' → Sort.SortedIn ltE a' b' d' → Sort.PermIn a b d d' ∧ Sort.SortedIn ltE a b d'
def KR (w0 : World) (g cap n a b a' b' : Nat) (d : Array En) (w : World) : Prop := ∃ dk : Array En, dk.size = n ∧ SA w0 g cap dk w ∧ Sort.Below ltE a' b' dk ∧ Cont a b a' b' d dk
def SrtP (w0 : World) (g cap a b : Nat) (d : Array En) (e : Ending) (w' : World) : Prop := e = .returned (.tuple #[]) ∧ ∃ d', Sort.PermIn a b d d' ∧ Sort.SortedIn ltE a b d' ∧ SA w0 g cap d' w'
theorem cont_eq {a b a' b' p m : Nat} {d dk d3 d4 : Array En} (hC : Cont a b a' b' d dk) (hp3 : Sort.PermIn a' b' dk d3) (hb : b' ≤ dk.size) (hB : Sort.Below ltE a' b' d3) (h0 : 0 < a') (hl : ltE d3[a' - 1]! d3[p]! = false)
    (hE : EqF a' b' d3 d3[p]! m d4) : Cont a b m b' d d4 ∧ Sort.Below ltE m b' d4 := by
  obtain ⟨h1, h2, h3, h4, h5⟩ := hE
  have hs3 : d3.size = dk.size := hp3.1
  have hs4 : d4.size = dk.size := h1.1.trans hs3
  have hlow : ∀ i, a' ≤ i → i < b' → ltE d4[i]! d3[p]! = false := by
    refine Sort.permIn_all d3 d4 a' b' (fun x => ltE x d3[p]! = false) (by omega) h1 (fun i h6 h7 => ?_)
    rcases hB with hB | hB
    · omega
    · exact swo_ltE.ntrans _ _ _ (hB i h6 h7) hl
  refine ⟨fun d' hp hs => hC d' ?_ ?_, .inr fun i h6 h7 => ?_⟩
  · exact Sort.permIn_trans dk d3 d' a' b' hp3 (Sort.permIn_trans d3 d4 d' a' b' h1 (Sort.permIn_mono d4 d' m b' a' b' (by omega) (Nat.le_refl _) (by omega) hp))
  · have hsame : ∀ i, i < m → d'[i]! = d4[i]! := fun i hi => hp.2.1 i (.inl hi)
    refine Sort.sorted_glue_eq swo_ltE d3[p]! hs (fun i h6 h7 => ?_) (fun i h6 h7 => ?_) ?_
    · rw [hsame i h7]; exact h4 i h6 h7
    · rw [hsame i h7]; exact hlow i h6 (by omega)
    · exact Sort.permIn_all d4 d' m b' (fun x => ltE d3[p]! x = true) (by omega) hp h5
  · -- an entry from m on is not ahead of the one at m - 1
    cases hc : ltE d4[i]! d4[m - 1]! with
    | false => rfl
    | true =>
      have h8 := swo_ltE.trans _ _ _ (h5 i h6 h7) hc
      rw [h4 (m - 1) (by omega) (by omega)] at h8; cases h8
theorem cont_left {a b a' b' m : Nat} {d dk d3 d4 d5 : Array En} (hC : Cont a b a' b' d dk) (hp3 : Sort.PermIn a' b' dk d3) (hb : b' ≤ dk.size) (ham : a' ≤ m) (hmb : m < b') (hP : PartF a' b' d3 m d4)
    (h5 : Sort.PermIn a' m d4 d5) (h6 : Sort.SortedIn ltE a' m d5) : Cont a b (m + 1) b' d d5 ∧ Sort.Below ltE (m + 1) b' d5 := by
  obtain ⟨h1, h2, h3⟩ := hP
  have hs3 : d3.size = dk.size := hp3.1
  have hs4 : d4.size = dk.size := h1.1.trans hs3
  have hs5 : d5.size = dk.size := h5.1.trans hs4
  have hm5 : d5[m]! = d4[m]! := h5.2.1 m (.inr (Nat.le_refl _))
  have hlo : ∀ i, a' ≤ i → i < m → ltE d5[i]! d4[m]! = true := Sort.permIn_all d4 d5 a' m (fun x => ltE x d4[m]! = true) (by omega) h5 h2
  have hhi : ∀ i, m + 1 ≤ i → i < b' → ltE d5[i]! d4[m]! = false := fun i h7 h8 => by rw [h5.2.1 i (.inr (by omega))]; exact h3 i (by omega) h8
  refine ⟨fun d' hp hs => hC d' ?_ ?_, .inr fun i h7 h8 => ?_⟩
  · exact Sort.permIn_trans dk d3 d' a' b' hp3 (Sort.permIn_trans d3 d4 d' a' b' h1 (Sort.permIn_trans d4 d5 d' a' b' (Sort.permIn_mono d4 d5 a' m a' b' (Nat.le_refl _) (by omega) (by omega) h5) (Sort.permIn_mono d5 d' (m + 1) b' a' b' (by omega) (Nat.le_refl _) (by omega) hp)))
  · have hsame : ∀ i, i < m + 1 → d'[i]! = d5[i]! := fun i hi => hp.2.1 i (.inl hi)
    refine Sort.sorted_glue swo_ltE (Sort.SortedIn.congr h6 (fun i _ h8 => hsame i (by omega))) hs (fun i h7 h8 => ?_) (fun i h7 h8 => ?_)
    · rw [hsame i (by omega), hsame m (by omega), hm5]; exact hlo i h7 h8
    · rw [hsame m (by omega), hm5]
      exact Sort.permIn_all d5 d' (m + 1) b' (fun x => ltE x d4[m]! = false) (by omega) hp hhi i (by omega) h8
  · rw [show m + 1 - 1 = m by omega, hm5]; exact hhi i h7 h8
theorem cont_right {a b a' b' m : Nat} {d dk d3 d4 d5 : Array En} (hC : Cont a b a' b' d dk) (hp3 : Sort.PermIn a' b' dk d3) (hb : b' ≤ dk.size) (hB : Sort.Below ltE a' b' d3) (ham : a' ≤ m) (hmb : m < b') (hP : PartF a' b' d3 m d4)
    (h5 : Sort.PermIn (m + 1) b' d4 d5) (h6 : Sort.SortedIn ltE (m + 1) b' d5) : Cont a b a' m d d5 ∧ Sort.Below ltE a' m d5 := by
  obtain ⟨h1, h2, h3⟩ := hP
  have hs3 : d3.size = dk.size := hp3.1
  have hs4 : d4.size = dk.size := h1.1.trans hs3
  have hs5 : d5.size = dk.size := h5.1.trans hs4
  have hlow5 : ∀ i, i < m + 1 → d5[i]! = d4[i]! := fun i hi => h5.2.1 i (.inl hi)
  have hhi : ∀ i, m + 1 ≤ i → i < b' → ltE d5[i]! d4[m]! = false := Sort.permIn_all d4 d5 (m + 1) b' (fun x => ltE x d4[m]! = false) (by omega) h5 (fun i h7 h8 => h3 i (by omega) h8)
  have hp45 : Sort.PermIn a' b' d4 d5 := Sort.permIn_mono d4 d5 (m + 1) b' a' b' (by omega) (Nat.le_refl _) (by omega) h5
  refine ⟨fun d' hp hs => hC d' ?_ ?_, ((hB.perm (by omega) h1).perm (by omega) hp45).mono (by omega)⟩
  · exact Sort.permIn_trans dk d3 d' a' b' hp3 (Sort.permIn_trans d3 d4 d' a' b' h1 (Sort.permIn_trans d4 d5 d' a' b' hp45 (Sort.permIn_mono d5 d' a' m a' b' (Nat.le_refl _) (by omega) (by omega) hp)))
  · have hsame : ∀ i, m ≤ i → d'[i]! = d5[i]! := fun i hi => hp.2.1 i (.inr hi)
    refine Sort.sorted_glue swo_ltE hs (Sort.SortedIn.congr h6 (fun i h7 _ => hsame i (by omega))) (fun i h7 h8 => ?_) (fun i h7 h8 => ?_)
    · rw [hsame m (Nat.le_refl _), hlow5 m (by omega)]
      exact Sort.permIn_all d5 d' a' m (fun x => ltE x d4[m]! = true) (by omega) hp (fun i h9 h10 => by rw [hlow5 i (by omega)]; exact h2 i h9 h10) i h7 h8
    · rw [hsame i (by omega), hsame m (Nat.le_refl _), hlow5 m (by omega)]; exact hhi i (by omega) h8
/-- dk with the places from a to b put among themselves; sized n. -/
def PS (w0 : World) (g cap a b : Nat) (dk : Array En) (w : World) : Prop := ∃ d1, Sort.PermIn a b dk d1 ∧ SA w0 g cap d1 w
def PS2 (w0 : World) (g cap a b p : Nat) (c : Bool) (dk : Array En) (w : World) : Prop := ∃ d1, Sort.PermIn a b dk d1 ∧ SA w0 g cap d1 w ∧ (c = true → 0 < a ∧ ltE d1[a - 1]! d1[p]! = false)
theorem PS.of_pr {w0 w : World} {g cap n a b : Nat} {d dk : Array En} (h : PR w0 g cap n a b d w) (hp : Sort.PermIn a b dk d) : PS w0 g cap a b dk w := by
  obtain ⟨d1, h1, h2⟩ := h
  exact ⟨d1, Sort.permIn_trans dk d d1 a b hp h1, h2⟩
set_option maxRecDepth 100000 in
set_option maxHeartbeats 32000000 in
theorem spdq_any (w0 : World) (g cap n : Nat) (hn : n ≤ 2305843009213693951) : ∀ (m a b lim : Nat) (d : Array En) (w : World), b - a = m → SA w0 g cap d w → d.size = n → a ≤ b → b ≤ n → lim ≤ 100 → Sort.Below ltE a b d →
    Calls Try.prog 55 #[.slice (some ⟨g, 0, none⟩) n cap, .int .i64 (a : Int), .int .i64 (b : Int), .int .i64 (lim : Int)] w fun e w' => SrtP w0 g cap a b d e w' := by
  intro m
  induction m using Nat.strongRecOn with
  | ind m IH =>
  intro a b lim d w hm h hs hab hbn hlim hB
  have HREC := Lib.hid (fun (a' b' lim' : Nat) (d' : Array En) (w' : World) (h1 : b' - a' < m) => IH (b' - a') h1 a' b' lim' d' w' rfl)
  clear IH
  have HR := Lib.hid (show KR w0 g cap n a b a b d w from ⟨d, hs, h, hB, fun d' h1 h2 => ⟨h1, h2⟩⟩)
  have HM := Lib.hid hm
  clear h hs hB hm
  go_enter Try.func55, Try.ntmps55
  go_wp2
  go_loopw [1, 2, 3, 8, 9] (fun s1 s2 s3 s8 s9 wr => ∃ (a' b' lim : Nat) (wb wp : Bool), s1 = .int .i64 a' ∧ s2 = .int .i64 b' ∧ s3 = .int .i64 lim ∧ s8 = .bool wb ∧ s9 = .bool wp ∧ a ≤ a' ∧ a' ≤ b' ∧ b' ≤ b ∧ lim ≤ 100 ∧ Hid (KR w0 g cap n a b a' b' d wr)) (fun s1 s2 _ _ _ _ => (intOf s2 - intOf s1).toNat)
  case atStart => exact ⟨a, b, lim, true, true, rfl, rfl, rfl, rfl, rfl, by omega, hab, by omega, hlim, HR⟩
  case round =>
    clear HR hlim
    obtain ⟨a', b', l, wb, wp, rfl, rfl, rfl, rfl, rfl, haa, hab', hbb, hl, hrel⟩ := hrel
    obtain ⟨dk, hsk, hk, hB, hC⟩ := hrel.out
    have HSK := Lib.hid hsk; have HK := Lib.hid hk; have HB := Lib.hid hB; have HC := Lib.hid hC
    clear hsk hk hB hC hrel
    by_cases h12 : b' - a' ≤ 12
    · have h12i : (b' : Int) - (a' : Int) ≤ 12 := by omega
      have HI := Lib.hid (sins_any w0 g cap n a' b' dk _ HK.out HSK.out hab' (by omega) (by omega))
      go_wp2_with fail
      refine HI.out.mono ?_
      rintro e w2 ⟨rfl, hsa⟩
      have hin := Sort.insertionSort_holds (lt := ltE) swo_ltE dk a' b' hab' (by rw [HSK.out]; omega)
      have HP := Lib.hid (show SrtP w0 g cap a b d (.returned (.tuple #[])) w2 from ⟨rfl, _, (HC.out _ hin.1 hin.2).1, (HC.out _ hin.1 hin.2).2, hsa⟩)
      clear hin hsa
      go_wp2
      go_end0
      exact HP.out
    · have h12i : ¬ (b' : Int) - (a' : Int) ≤ 12 := by omega
      by_cases hl0 : l = 0
      · subst hl0
        have HI := Lib.hid (sheap_any w0 g cap n a' b' dk _ HK.out HSK.out (by omega) (by omega) (by omega))
        go_wp2_with fail
        refine HI.out.mono ?_
        rintro e w2 ⟨rfl, hsa⟩
        have hin := Sort.heapSort_holds (lt := ltE) swo_ltE dk a' b' hab' (by rw [HSK.out]; omega)
        have HP := Lib.hid (show SrtP w0 g cap a b d (.returned (.tuple #[])) w2 from ⟨rfl, _, (HC.out _ hin.1 hin.2).1, (HC.out _ hin.1 hin.2).2, hsa⟩)
        clear hin hsa
        go_wp2
        go_end0
        exact HP.out
      · have hl0i : ((l : Int) == 0) = false := by simp; omega
        have HPS := Lib.hid (show PS w0 g cap a' b' dk _ from ⟨dk, Sort.permIn_refl dk a' b', HK.out⟩)
        go_upto_if 35 with fail
        go_cut [3] from 19 to 133 (fun s3 wx => ∃ l' : Nat, s3 = .int .i64 l' ∧ l' ≤ 100 ∧ Hid (PS w0 g cap a' b' dk wx))
        case first =>
          cases wb with
          | true =>
            go_wp2_with fail
            go_meet
            exact ⟨l, rfl, hl, HPS⟩
          | false =>
            have HI := Lib.hid (sbrk_any w0 g cap n a' b' dk _ HK.out HSK.out (by omega) (by omega) (by omega))
            go_wp2_with fail
            refine HI.out.mono ?_
            rintro e w2 ⟨rfl, hpr⟩
            have HN := Lib.hid (show PS w0 g cap a' b' dk w2 from PS.of_pr hpr (Sort.permIn_refl dk a' b'))
            clear hpr
            go_wp2
            go_meet
            exact ⟨l - 1, by congr 1; omega, by omega, HN⟩
        case rest =>
          clear hl0i hl0 hl HPS HK
          obtain ⟨l, rfl, hl, HPS⟩ := hcut
          obtain ⟨d1, hp1, hk1⟩ := HPS.out
          have HI := Lib.hid (spiv_any w0 g cap n a' b' d1 _ hk1 (hp1.1.trans HSK.out) (by omega) (by omega) (by omega))
          have HP1 := Lib.hid hp1
          clear hp1 hk1 HPS
          go_upto_if 50 with (go_at_call 62; refine HI.out.mono ?_; rintro e w2 ⟨p, t, rfl, hpa, hpb, ht, hk2⟩)
          have HK2 := Lib.hid hk2; clear hk2 HI
          go_cut [11, 12] from 19 to 133 (fun s11 s12 wx => ∃ p t : Nat, s11 = .int .i64 p ∧ s12 = .int .i64 t ∧ a' ≤ p ∧ p < b' ∧ Hid (PS w0 g cap a' b' dk wx))
          case first =>
            by_cases t2 : t = 2
            · subst t2
              have HI := Lib.hid (srev_any w0 g cap n a' b' d1 _ HK2.out (HP1.out.1.trans HSK.out) hab' (by omega) (by omega))
              go_wp2_with fail
              refine HI.out.mono ?_
              rintro e w3 ⟨rfl, hpr⟩
              have HN := Lib.hid (show PS w0 g cap a' b' dk w3 from PS.of_pr hpr HP1.out)
              clear hpr
              go_wp2
              go_meet
              exact ⟨b' - 1 - (p - a'), 1, by congr 1; omega, rfl, by omega, by omega, HN⟩
            · have t2i : ((t : Int) == 2) = false := by simp; omega
              have HN := Lib.hid (show PS w0 g cap a' b' dk w2 from ⟨d1, HP1.out, HK2.out⟩)
              go_wp2_with fail
              go_meet
              exact ⟨p, t, rfl, rfl, hpa, hpb, HN⟩
          case rest =>
            clear hpa hpb ht HK2 HP1
            obtain ⟨p, t, rfl, rfl, hpa, hpb, HPS⟩ := hcut
            go_upto_region 15 with fail
            go_cut [68] from 19 to 133 (fun s68 wx => ∃ c : Bool, s68 = .bool c ∧ Hid (PS w0 g cap a' b' dk wx))
            case first =>
              cases wb <;> cases wp
              all_goals
                by_cases t1 : t = 1
                · subst t1
                  go_wp2_with fail
                  go_meet
                  exact ⟨_, rfl, HPS⟩
                · have t1i : ((t : Int) == 1) = false := by simp; omega
                  go_wp2_with fail
                  go_meet
                  exact ⟨_, rfl, HPS⟩
            case rest =>
              clear HPS
              obtain ⟨c, rfl, HPS⟩ := hcut
              go_upto_if 68 with fail
              go_cut [] from 19 to 133 (fun wx => Hid (PS w0 g cap a' b' dk wx))
              case first =>
                cases c with
                | false =>
                  go_wp2_with fail
                  go_meet
                  exact HPS
                | true =>
                  obtain ⟨d2, hp2, hk2⟩ := HPS.out
                  have HI := Lib.hid (spin_spec w0 g cap n a' b' d2 _ hk2 (hp2.1.trans HSK.out) (by omega) (by omega) (by omega) (HB.out.perm (by rw [HSK.out]; omega) hp2))
                  have HP2 := Lib.hid hp2
                  clear hp2 hk2 HPS
                  go_wp2_with fail
                  refine HI.out.mono ?_
                  rintro e w3 ⟨r, rfl, d3, hp3, hsr, hk3⟩
                  cases r with
                  | true =>
                    have hin := HC.out d3 (Sort.permIn_trans dk d2 d3 a' b' HP2.out hp3) (hsr rfl)
                    have HP := Lib.hid (show SrtP w0 g cap a b d (.returned (.tuple #[])) w3 from ⟨rfl, _, hin.1, hin.2, hk3⟩)
                    clear hin hp3 hsr hk3
                    go_wp2
                    go_end0
                    exact HP.out
                  | false =>
                    have HN := Lib.hid (show PS w0 g cap a' b' dk w3 from ⟨d3, Sort.permIn_trans dk d2 d3 a' b' HP2.out hp3, hk3⟩)
                    clear hp3 hsr hk3
                    go_wp2
                    go_meet
                    exact HN
              case rest =>
                clear HPS
                have HPS := hcut
                clear hcut
                go_upto_region 17 with fail
                go_cut [87] from 19 to 133 (fun s87 wx => ∃ c : Bool, s87 = .bool c ∧ Hid (PS2 w0 g cap a' b' p c dk wx))
                case first =>
                  by_cases ha0 : 0 < a'
                  · have ha0i : (0 : Int) < (a' : Int) := by omega
                    obtain ⟨d2, hp2, hk2⟩ := HPS.out
                    have hs2 := hp2.1.trans HSK.out
                    obtain ⟨-, -, b1, p1, t1, q1⟩ := (SA.at_ hk2 hs2 (i := a' - 1) (I := (a' : Int) - 1) (by omega) (by omega))
                    obtain ⟨-, -, b2, p2, t2, q2⟩ := (SA.at_ hk2 hs2 (i := p) (I := (p : Int)) (by omega) rfl)
                    obtain ⟨xv, yv, c1, c2, hl9⟩ := SA.lss hk2 hs2 (i := a' - 1) (j := p) (by omega) (by omega) rfl
                    have HL := Lib.hid hl9; clear hl9 hs2
                    have HK2 := Lib.hid hk2; have HP2 := Lib.hid hp2; clear hk2 hp2 HPS
                    go_wp2_with fail
                    go_quiet (first | (go_at_call 65; exact Calls.quiet_of_same (HL.out _)))
                    obtain ⟨w3, hw9, hb0⟩ := SA.name HK2.out nq
                    rw [hw9]; clear hw9 c1 c2 b1 b2 p1 p2 t1 t2 q1 q2
                    have HN := Lib.hid (show PS2 w0 g cap a' b' p (!ltE d2[a' - 1]! d2[p]!) dk w3 from ⟨d2, HP2.out, HK2.out.below hb0, fun h => ⟨ha0, by simpa using h⟩⟩)
                    clear hb0
                    go_wp2_with fail
                    go_meet
                    exact ⟨_, rfl, HN⟩
                  · have ha0i : ¬ (0 : Int) < (a' : Int) := by omega
                    have hgf : decide ((0 : Int) < (a' : Int)) = false := decide_eq_false ha0i
                    go_wp2_with fail
                    go_quiet (fail)
                    have HN := Lib.hid (show PS2 w0 g cap a' b' p false dk _ from (fun ⟨d2, h1, h2⟩ => ⟨d2, h1, h2.drewN nq, fun h => by cases h⟩) HPS.out)
                    go_wp2_with fail
                    go_meet
                    exact ⟨_, rfl, HN⟩
                case rest =>
                  clear HPS
                  obtain ⟨c, rfl, HPS⟩ := hcut
                  obtain ⟨d3, hp3, hk3, hc3⟩ := HPS.out
                  have HP3 := Lib.hid hp3; have HK3 := Lib.hid hk3; have HC3 := Lib.hid hc3
                  have HB3 := Lib.hid (HB.out.perm (by rw [HSK.out]; omega) hp3)
                  have HS3 := Lib.hid (hp3.1.trans HSK.out)
                  clear hp3 hk3 hc3 HPS
                  cases c with
                  | true =>
                    have HI := Lib.hid (speq_any w0 g cap n a' b' p d3 _ HK3.out HS3.out hpa hpb (by omega) (by omega))
                    go_wp2_with fail
                    refine HI.out.mono ?_
                    rintro e w4 ⟨mid, d4, rfl, hE, hk4⟩
                    have hce := cont_eq HC.out HP3.out (by rw [HSK.out]; omega) HB3.out (HC3.out (by trivial)).1 (HC3.out (by trivial)).2 hE
                    have hm1 := hE.2.1; have hm2 := hE.2.2.1
                    have HN := Lib.hid (show KR w0 g cap n a b mid b' d w4 from ⟨d4, hE.1.1.trans HS3.out, hk4, hce.2, hce.1⟩)
                    clear hce hE hk4
                    go_wp2
                    go_roundw
                    case rel => exact ⟨mid, b', l, wb, wp, rfl, rfl, rfl, rfl, rfl, by omega, by omega, by omega, hl, HN⟩
                    case measure => simp [intOf]; omega
                  | false =>
                    have HI := Lib.hid (spart_any w0 g cap n a' b' p d3 _ HK3.out HS3.out hpa hpb (by omega) (by omega))
                    go_wp2_with fail
                    refine HI.out.mono ?_
                    rintro e w4 ⟨mid, r, d4, rfl, hm1, hm2, hF, hk4⟩
                    have HF := Lib.hid hF; have HK4 := Lib.hid hk4
                    have HB4 := Lib.hid (HB3.out.perm (by rw [HS3.out]; omega) hF.1)
                    have HS4 := Lib.hid (hF.1.1.trans HS3.out)
                    clear hF hk4 HI
                    have hlen8 : (0 : Int) ≤ (b' : Int) - (a' : Int) := by omega
                    by_cases hlr : mid - a' < b' - mid
                    · have hlri : (mid : Int) - (a' : Int) < (b' : Int) - (mid : Int) := by omega
                      have HI := Lib.hid (HREC.out a' mid l d4 w4 (by have := HM.out; omega) HK4.out HS4.out hm1 (by omega) hl (HB4.out.mono (by omega)))
                      go_wp2_with fail
                      refine HI.out.mono ?_
                      rintro e w5 ⟨rfl, d5, hp5, hs5, hk5⟩
                      have hcl := cont_left HC.out HP3.out (by rw [HSK.out]; omega) hm1 hm2 HF.out hp5 hs5
                      have HN := Lib.hid (show KR w0 g cap n a b (mid + 1) b' d w5 from ⟨d5, hp5.1.trans HS4.out, hk5, hcl.2, hcl.1⟩)
                      clear hcl hp5 hs5 hk5 HI
                      go_wp2
                      go_roundw
                      case rel => exact ⟨mid + 1, b', l, _, _, by go_num, rfl, rfl, rfl, rfl, by omega, by omega, by omega, hl, HN⟩
                      case measure => simp [intOf]; omega
                    · have hlri : ¬ (mid : Int) - (a' : Int) < (b' : Int) - (mid : Int) := by omega
                      have HI := Lib.hid (HREC.out (mid + 1) b' l d4 w4 (by have := HM.out; omega) HK4.out HS4.out (by omega) (by omega) hl (.inr fun i h1 h2 => by rw [show mid + 1 - 1 = mid by omega]; exact HF.out.2.2 i (by omega) h2))
                      go_wp2_with fail
                      refine HI.out.mono ?_
                      rintro e w5 ⟨rfl, d5, hp5, hs5, hk5⟩
                      have hcr := cont_right HC.out HP3.out (by rw [HSK.out]; omega) HB3.out hm1 hm2 HF.out hp5 hs5
                      have HN := Lib.hid (show KR w0 g cap n a b a' mid d w5 from ⟨d5, hp5.1.trans HS4.out, hk5, hcr.2, hcr.1⟩)
                      clear hcr hp5 hs5 hk5 HI
                      go_wp2
                      go_roundw
                      case rel => exact ⟨a', mid, l, _, _, rfl, rfl, rfl, rfl, rfl, by omega, by omega, by omega, hl, HN⟩
                      case measure => simp [intOf]; omega
end
section
set_option linter.unusedVariables false
set_option linter.unusedSimpArgs false
open Go.RowKit
theorem permIn_full {d d' : Array En} (h : Sort.PermIn 0 d.size d d') : d'.toList.Perm d.toList := by
  have h3 := h.2.2
  have h1 := h.1
  rw [show d'.extract 0 d.size = d' by rw [← h1]; simp, show d.extract 0 d.size = d by simp] at h3
  exact h3
theorem srt_full {d : Array En} (h : Sort.SortedIn ltE 0 d.size d) : d.toList.Pairwise (· ≤ ·) := by
  rw [List.pairwise_iff_getElem]
  intro i j hi hj hij
  have hi' : i < d.size := by simpa using hi
  have hj' : j < d.size := by simpa using hj
  have h1 := h i j (Nat.zero_le _) hij hj'
  rw [getElem!_pos d i hi', getElem!_pos d j hj'] at h1
  simp only [ltE, decide_eq_false_iff_not] at h1
  simpa using h1
set_option maxHeartbeats 4000000 in
theorem usort_any (w0 : World) (g cap n : Nat) (d : Array En) (w : World) (h : SA w0 g cap d w) (hs : d.size = n) (hn : n ≤ 1000000) :
    Calls Try.prog 50 #[.slice (some ⟨g, 0, none⟩) n cap] w fun e w' => SrtP w0 g cap 0 n d e w' := by
  have hn9 : (n : Int) ≤ 1000000 := by omega
  have hB := Lib.hid (fun w => Try.bits_Len (n : Int) w (by omega) (by omega))
  have hb62 : Lib.bitLen n ≤ 62 := Lib.bitLen_le n 62 (by omega) (by omega)
  have HP := Lib.hid (spdq_any w0 g cap n (by omega) n 0 n (Lib.bitLen n) d w rfl h hs (Nat.zero_le _) (Nat.le_refl _) (by omega) (.inl rfl))
  have wr : IntKind.u64.wrap (n : Int) = n := by simp [IntKind.wrap, IntKind.bits, IntKind.signed]; omega
  clear h hs
  generalize hl : Lib.bitLen n = l at *
  go_enter Try.func50, Try.ntmps50
  go_wp2_with fail
  refine (hB.out _).mono ?_
  rintro e w3 ⟨rfl, hw3⟩
  subst hw3
  rw [Int.toNat_natCast, hl]
  clear hl
  go_wp2_with fail
  refine HP.out.mono ?_
  rintro e w4 ⟨rfl, hp⟩
  have HE := Lib.hid hp; clear hp
  go_wp2
  go_end0
  exact ⟨rfl, HE.out⟩
theorem uins_nil (w : World) : Calls Try.prog 59 #[.slice none 0 0, .int .i64 0, .int .i64 0] w fun e w' => e = .returned (.tuple #[]) ∧ w = w' := by
  go_enter Try.func59, Try.ntmps59
  go_wp2
  refine wp_loop_rounds 1 ?_
  rw [rounds_succ]
  go_wp2
  exact ⟨rfl, _, results_none rfl _ _ _, rfl, rfl⟩
theorem updq_nil (w : World) : Calls Try.prog 55 #[.slice none 0 0, .int .i64 0, .int .i64 0, .int .i64 0] w fun e w' => e = .returned (.tuple #[]) ∧ w = w' := by
  have HI := Lib.hid uins_nil
  go_enter Try.func55, Try.ntmps55
  go_wp2
  refine wp_loop_rounds 1 ?_
  rw [rounds_succ]
  go_wp2_with fail
  refine (HI.out _).mono ?_
  rintro e w2 ⟨rfl, rfl⟩
  go_wp2
  (try simp only [Exit.inBlock, Exit.then])
  first
    | exact ⟨rfl, _, results_none rfl _ _ _, rfl, rfl⟩
    | (trace_state; sorry)
theorem usort_nil (w : World) : Calls Try.prog 50 #[.slice none 0 0] w fun e w' => e = .returned (.tuple #[]) ∧ w = w' := by
  have HI := Lib.hid updq_nil
  have hB := Lib.hid (fun w => Try.bits_Len 0 w (by omega) (by omega))
  have hl : Lib.bitLen (Int.toNat 0) = 0 := by decide
  go_enter Try.func50, Try.ntmps50
  go_wp2_with fail
  refine (hB.out _).mono ?_
  rintro e w2 ⟨rfl, hw2⟩
  subst hw2
  rw [hl]
  go_wp2_with fail
  refine (HI.out _).mono ?_
  rintro e w2 ⟨rfl, rfl⟩
  go_wp2
  go_end0
  exact ⟨rfl, rfl⟩
end
end Go.Proofs.Ytdbiaijpbkmfhaa.U6
