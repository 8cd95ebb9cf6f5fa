/- sort.Sort over the entries of a row: pdqsort. -/
import Derived.Test.YtdmmglnpeoeicaaSrt4
import Derived.Test.YtdmmglnpeoeicaaSrt5
import Derived.Test.YtdmmglnpeoeicaaSrt6
namespace Go.Proofs.Ytdmmglnpeoeicaa
set_option linter.unusedVariables false
set_option linter.unusedSimpArgs false
open Go.RowKit
/-- Whatever sorts dk from a' to b' sorts d from a to b. -/
def Cont (a b a' b' : Nat) (d dk : Array En) : Prop := ∀ d', Sort.PermIn a' b' dk d' → Sort.SortedIn ltE a' b' d' → Sort.PermIn a b d d' ∧ Sort.SortedIn ltE a b d'
def KR (w0 : World) (g cap n a b a' b' : Nat) (d : Array En) (w : World) : Prop := ∃ dk : Array En, dk.size = n ∧ SA w0 g cap dk w ∧ Sort.Below ltE a' b' dk ∧ Cont a b a' b' d dk
def SrtP (w0 : World) (g cap a b : Nat) (d : Array En) (e : Ending) (w' : World) : Prop := e = .returned (.tuple #[]) ∧ ∃ d', Sort.PermIn a b d d' ∧ Sort.SortedIn ltE a b d' ∧ SA w0 g cap d' w'
theorem cont_eq {a b a' b' p m : Nat} {d dk d3 d4 : Array En} (hC : Cont a b a' b' d dk) (hp3 : Sort.PermIn a' b' dk d3) (hb : b' ≤ dk.size) (hB : Sort.Below ltE a' b' d3) (h0 : 0 < a') (hl : ltE d3[a' - 1]! d3[p]! = false)
    (hE : EqF a' b' d3 d3[p]! m d4) : Cont a b m b' d d4 ∧ Sort.Below ltE m b' d4 := by
  obtain ⟨h1, h2, h3, h4, h5⟩ := hE
  have hs3 : d3.size = dk.size := hp3.1
  have hs4 : d4.size = dk.size := h1.1.trans hs3
  have hlow : ∀ i, a' ≤ i → i < b' → ltE d4[i]! d3[p]! = false := by
    refine Sort.permIn_all d3 d4 a' b' (fun x => ltE x d3[p]! = false) (by omega) h1 (fun i h6 h7 => ?_)
    rcases hB with hB | hB
    · omega
    · exact swo_ltE.ntrans _ _ _ (hB i h6 h7) hl
  refine ⟨fun d' hp hs => hC d' ?_ ?_, .inr fun i h6 h7 => ?_⟩
  · exact Sort.permIn_trans dk d3 d' a' b' hp3 (Sort.permIn_trans d3 d4 d' a' b' h1 (Sort.permIn_mono d4 d' m b' a' b' (by omega) (Nat.le_refl _) (by omega) hp))
  · have hsame : ∀ i, i < m → d'[i]! = d4[i]! := fun i hi => hp.2.1 i (.inl hi)
    refine Sort.sorted_glue_eq swo_ltE d3[p]! hs (fun i h6 h7 => ?_) (fun i h6 h7 => ?_) ?_
    · rw [hsame i h7]; exact h4 i h6 h7
    · rw [hsame i h7]; exact hlow i h6 (by omega)
    · exact Sort.permIn_all d4 d' m b' (fun x => ltE d3[p]! x = true) (by omega) hp h5
  · -- an entry from m on is not ahead of the one at m - 1
    cases hc : ltE d4[i]! d4[m - 1]! with
    | false => rfl
    | true =>
      have h8 := swo_ltE.trans _ _ _ (h5 i h6 h7) hc
      rw [h4 (m - 1) (by omega) (by omega)] at h8; cases h8
theorem cont_left {a b a' b' m : Nat} {d dk d3 d4 d5 : Array En} (hC : Cont a b a' b' d dk) (hp3 : Sort.PermIn a' b' dk d3) (hb : b' ≤ dk.size) (ham : a' ≤ m) (hmb : m < b') (hP : PartF a' b' d3 m d4)
    (h5 : Sort.PermIn a' m d4 d5) (h6 : Sort.SortedIn ltE a' m d5) : Cont a b (m + 1) b' d d5 ∧ Sort.Below ltE (m + 1) b' d5 := by
  obtain ⟨h1, h2, h3⟩ := hP
  have hs3 : d3.size = dk.size := hp3.1
  have hs4 : d4.size = dk.size := h1.1.trans hs3
  have hs5 : d5.size = dk.size := h5.1.trans hs4
  have hm5 : d5[m]! = d4[m]! := h5.2.1 m (.inr (Nat.le_refl _))
  have hlo : ∀ i, a' ≤ i → i < m → ltE d5[i]! d4[m]! = true := Sort.permIn_all d4 d5 a' m (fun x => ltE x d4[m]! = true) (by omega) h5 h2
  have hhi : ∀ i, m + 1 ≤ i → i < b' → ltE d5[i]! d4[m]! = false := fun i h7 h8 => by rw [h5.2.1 i (.inr (by omega))]; exact h3 i (by omega) h8
  refine ⟨fun d' hp hs => hC d' ?_ ?_, .inr fun i h7 h8 => ?_⟩
  · exact Sort.permIn_trans dk d3 d' a' b' hp3 (Sort.permIn_trans d3 d4 d' a' b' h1 (Sort.permIn_trans d4 d5 d' a' b' (Sort.permIn_mono d4 d5 a' m a' b' (Nat.le_refl _) (by omega) (by omega) h5) (Sort.permIn_mono d5 d' (m + 1) b' a' b' (by omega) (Nat.le_refl _) (by omega) hp)))
  · have hsame : ∀ i, i < m + 1 → d'[i]! = d5[i]! := fun i hi => hp.2.1 i (.inl hi)
    refine Sort.sorted_glue swo_ltE (Sort.SortedIn.congr h6 (fun i _ h8 => hsame i (by omega))) hs (fun i h7 h8 => ?_) (fun i h7 h8 => ?_)
    · rw [hsame i (by omega), hsame m (by omega), hm5]; exact hlo i h7 h8
    · rw [hsame m (by omega), hm5]
      exact Sort.permIn_all d5 d' (m + 1) b' (fun x => ltE x d4[m]! = false) (by omega) hp hhi i (by omega) h8
  · rw [show m + 1 - 1 = m by omega, hm5]; exact hhi i h7 h8
theorem cont_right {a b a' b' m : Nat} {d dk d3 d4 d5 : Array En} (hC : Cont a b a' b' d dk) (hp3 : Sort.PermIn a' b' dk d3) (hb : b' ≤ dk.size) (hB : Sort.Below ltE a' b' d3) (ham : a' ≤ m) (hmb : m < b') (hP : PartF a' b' d3 m d4)
    (h5 : Sort.PermIn (m + 1) b' d4 d5) (h6 : Sort.SortedIn ltE (m + 1) b' d5) : Cont a b a' m d d5 ∧ Sort.Below ltE a' m d5 := by
  obtain ⟨h1, h2, h3⟩ := hP
  have hs3 : d3.size = dk.size := hp3.1
  have hs4 : d4.size = dk.size := h1.1.trans hs3
  have hs5 : d5.size = dk.size := h5.1.trans hs4
  have hlow5 : ∀ i, i < m + 1 → d5[i]! = d4[i]! := fun i hi => h5.2.1 i (.inl hi)
  have hhi : ∀ i, m + 1 ≤ i → i < b' → ltE d5[i]! d4[m]! = false := Sort.permIn_all d4 d5 (m + 1) b' (fun x => ltE x d4[m]! = false) (by omega) h5 (fun i h7 h8 => h3 i (by omega) h8)
  have hp45 : Sort.PermIn a' b' d4 d5 := Sort.permIn_mono d4 d5 (m + 1) b' a' b' (by omega) (Nat.le_refl _) (by omega) h5
  refine ⟨fun d' hp hs => hC d' ?_ ?_, ((hB.perm (by omega) h1).perm (by omega) hp45).mono (by omega)⟩
  · exact Sort.permIn_trans dk d3 d' a' b' hp3 (Sort.permIn_trans d3 d4 d' a' b' h1 (Sort.permIn_trans d4 d5 d' a' b' hp45 (Sort.permIn_mono d5 d' a' m a' b' (Nat.le_refl _) (by omega) (by omega) hp)))
  · have hsame : ∀ i, m ≤ i → d'[i]! = d5[i]! := fun i hi => hp.2.1 i (.inr hi)
    refine Sort.sorted_glue swo_ltE hs (Sort.SortedIn.congr h6 (fun i h7 _ => hsame i (by omega))) (fun i h7 h8 => ?_) (fun i h7 h8 => ?_)
    · rw [hsame m (Nat.le_refl _), hlow5 m (by omega)]
      exact Sort.permIn_all d5 d' a' m (fun x => ltE x d4[m]! = true) (by omega) hp (fun i h9 h10 => by rw [hlow5 i (by omega)]; exact h2 i h9 h10) i h7 h8
    · rw [hsame i (by omega), hsame m (Nat.le_refl _), hlow5 m (by omega)]; exact hhi i (by omega) h8
/-- dk with the places from a to b put among themselves; sized n. -/
def PS (w0 : World) (g cap a b : Nat) (dk : Array En) (w : World) : Prop := ∃ d1, Sort.PermIn a b dk d1 ∧ SA w0 g cap d1 w
def PS2 (w0 : World) (g cap a b p : Nat) (c : Bool) (dk : Array En) (w : World) : Prop := ∃ d1, Sort.PermIn a b dk d1 ∧ SA w0 g cap d1 w ∧ (c = true → 0 < a ∧ ltE d1[a - 1]! d1[p]! = false)
theorem PS.of_pr {w0 w : World} {g cap n a b : Nat} {d dk : Array En} (h : PR w0 g cap n a b d w) (hp : Sort.PermIn a b dk d) : PS w0 g cap a b dk w := by
  obtain ⟨d1, h1, h2⟩ := h
  exact ⟨d1, Sort.permIn_trans dk d d1 a b hp h1, h2⟩
set_option maxRecDepth 100000 in
set_option maxHeartbeats 32000000 in
theorem spdq_any (w0 : World) (g cap n : Nat) (hn : n ≤ 2305843009213693951) : ∀ (m a b lim : Nat) (d : Array En) (w : World), b - a = m → SA w0 g cap d w → d.size = n → a ≤ b → b ≤ n → lim ≤ 100 → Sort.Below ltE a b d →
    Calls Try.prog 30 #[.iface 46 (.slice (some ⟨g, 0, none⟩) n cap), .int .i64 (a : Int), .int .i64 (b : Int), .int .i64 (lim : Int)] w fun e w' => SrtP w0 g cap a b d e w' := by
  intro m
  induction m using Nat.strongRecOn with
  | ind m IH =>
  intro a b lim d w hm h hs hab hbn hlim hB
  have HREC := Lib.hid (fun (a' b' lim' : Nat) (d' : Array En) (w' : World) (h1 : b' - a' < m) => IH (b' - a') h1 a' b' lim' d' w' rfl)
  clear IH
  have HR := Lib.hid (show KR w0 g cap n a b a b d w from ⟨d, hs, h, hB, fun d' h1 h2 => ⟨h1, h2⟩⟩)
  have HM := Lib.hid hm
  clear h hs hB hm
  have mL := meth_sless
  go_enter Try.func30, Try.ntmps30
  go_wp2
  go_loopw [1, 2, 3, 8, 9] (fun s1 s2 s3 s8 s9 wr => ∃ (a' b' lim : Nat) (wb wp : Bool), s1 = .int .i64 a' ∧ s2 = .int .i64 b' ∧ s3 = .int .i64 lim ∧ s8 = .bool wb ∧ s9 = .bool wp ∧ a ≤ a' ∧ a' ≤ b' ∧ b' ≤ b ∧ lim ≤ 100 ∧ Hid (KR w0 g cap n a b a' b' d wr)) (fun s1 s2 _ _ _ _ => (intOf s2 - intOf s1).toNat)
  case atStart => exact ⟨a, b, lim, true, true, rfl, rfl, rfl, rfl, rfl, by omega, hab, by omega, hlim, HR⟩
  case round =>
    clear HR hlim
    obtain ⟨a', b', l, wb, wp, rfl, rfl, rfl, rfl, rfl, haa, hab', hbb, hl, hrel⟩ := hrel
    obtain ⟨dk, hsk, hk, hB, hC⟩ := hrel.out
    have HSK := Lib.hid hsk; have HK := Lib.hid hk; have HB := Lib.hid hB; have HC := Lib.hid hC
    clear hsk hk hB hC hrel
    by_cases h12 : b' - a' ≤ 12
    · have h12i : (b' : Int) - (a' : Int) ≤ 12 := by omega
      have HI := Lib.hid (sins_any w0 g cap n a' b' dk _ HK.out HSK.out hab' (by omega) (by omega))
      go_wp2_with fail
      refine HI.out.mono ?_
      rintro e w2 ⟨rfl, hsa⟩
      have hin := Sort.insertionSort_holds (lt := ltE) swo_ltE dk a' b' hab' (by rw [HSK.out]; omega)
      have HP := Lib.hid (show SrtP w0 g cap a b d (.returned (.tuple #[])) w2 from ⟨rfl, _, (HC.out _ hin.1 hin.2).1, (HC.out _ hin.1 hin.2).2, hsa⟩)
      clear hin hsa
      go_wp2
      go_end0
      exact HP.out
    · have h12i : ¬ (b' : Int) - (a' : Int) ≤ 12 := by omega
      by_cases hl0 : l = 0
      · subst hl0
        have HI := Lib.hid (sheap_any w0 g cap n a' b' dk _ HK.out HSK.out (by omega) (by omega) (by omega))
        go_wp2_with fail
        refine HI.out.mono ?_
        rintro e w2 ⟨rfl, hsa⟩
        have hin := Sort.heapSort_holds (lt := ltE) swo_ltE dk a' b' hab' (by rw [HSK.out]; omega)
        have HP := Lib.hid (show SrtP w0 g cap a b d (.returned (.tuple #[])) w2 from ⟨rfl, _, (HC.out _ hin.1 hin.2).1, (HC.out _ hin.1 hin.2).2, hsa⟩)
        clear hin hsa
        go_wp2
        go_end0
        exact HP.out
      · have hl0i : ((l : Int) == 0) = false := by simp; omega
        have HPS := Lib.hid (show PS w0 g cap a' b' dk _ from ⟨dk, Sort.permIn_refl dk a' b', HK.out⟩)
        go_upto_if 35 with fail
        go_cut [3] from 19 to 128 (fun s3 wx => ∃ l' : Nat, s3 = .int .i64 l' ∧ l' ≤ 100 ∧ Hid (PS w0 g cap a' b' dk wx))
        case first =>
          cases wb with
          | true =>
            go_wp2_with fail
            go_meet
            exact ⟨l, rfl, hl, HPS⟩
          | false =>
            have HI := Lib.hid (sbrk_any w0 g cap n a' b' dk _ HK.out HSK.out (by omega) (by omega) (by omega))
            go_wp2_with fail
            refine HI.out.mono ?_
            rintro e w2 ⟨rfl, hpr⟩
            have HN := Lib.hid (show PS w0 g cap a' b' dk w2 from PS.of_pr hpr (Sort.permIn_refl dk a' b'))
            clear hpr
            go_wp2
            go_meet
            exact ⟨l - 1, by congr 1; omega, by omega, HN⟩
        case rest =>
          clear hl0i hl0 hl HPS HK
          obtain ⟨l, rfl, hl, HPS⟩ := hcut
          obtain ⟨d1, hp1, hk1⟩ := HPS.out
          have HI := Lib.hid (spiv_any w0 g cap n a' b' d1 _ hk1 (hp1.1.trans HSK.out) (by omega) (by omega) (by omega))
          have HP1 := Lib.hid hp1
          clear hp1 hk1 HPS
          go_upto_if 50 with (go_at_call 37; refine HI.out.mono ?_; rintro e w2 ⟨p, t, rfl, hpa, hpb, ht, hk2⟩)
          have HK2 := Lib.hid hk2; clear hk2 HI
          go_cut [11, 12] from 19 to 128 (fun s11 s12 wx => ∃ p t : Nat, s11 = .int .i64 p ∧ s12 = .int .i64 t ∧ a' ≤ p ∧ p < b' ∧ Hid (PS w0 g cap a' b' dk wx))
          case first =>
            by_cases t2 : t = 2
            · subst t2
              have HI := Lib.hid (srev_any w0 g cap n a' b' d1 _ HK2.out (HP1.out.1.trans HSK.out) hab' (by omega) (by omega))
              go_wp2_with fail
              refine HI.out.mono ?_
              rintro e w3 ⟨rfl, hpr⟩
              have HN := Lib.hid (show PS w0 g cap a' b' dk w3 from PS.of_pr hpr HP1.out)
              clear hpr
              go_wp2
              go_meet
              exact ⟨b' - 1 - (p - a'), 1, by congr 1; omega, rfl, by omega, by omega, HN⟩
            · have t2i : ((t : Int) == 2) = false := by simp; omega
              have HN := Lib.hid (show PS w0 g cap a' b' dk w2 from ⟨d1, HP1.out, HK2.out⟩)
              go_wp2_with fail
              go_meet
              exact ⟨p, t, rfl, rfl, hpa, hpb, HN⟩
          case rest =>
            clear hpa hpb ht HK2 HP1
            obtain ⟨p, t, rfl, rfl, hpa, hpb, HPS⟩ := hcut
            go_upto_region 15 with fail
            go_cut [68] from 19 to 128 (fun s68 wx => ∃ c : Bool, s68 = .bool c ∧ Hid (PS w0 g cap a' b' dk wx))
            case first =>
              cases wb <;> cases wp
              all_goals
                by_cases t1 : t = 1
                · subst t1
                  go_wp2_with fail
                  go_meet
                  exact ⟨_, rfl, HPS⟩
                · have t1i : ((t : Int) == 1) = false := by simp; omega
                  go_wp2_with fail
                  go_meet
                  exact ⟨_, rfl, HPS⟩
            case rest =>
              clear HPS
              obtain ⟨c, rfl, HPS⟩ := hcut
              go_upto_if 68 with fail
              go_cut [] from 19 to 128 (fun wx => Hid (PS w0 g cap a' b' dk wx))
              case first =>
                cases c with
                | false =>
                  go_wp2_with fail
                  go_meet
                  exact HPS
                | true =>
                  obtain ⟨d2, hp2, hk2⟩ := HPS.out
                  have HI := Lib.hid (spin_spec w0 g cap n a' b' d2 _ hk2 (hp2.1.trans HSK.out) (by omega) (by omega) (by omega) (HB.out.perm (by rw [HSK.out]; omega) hp2))
                  have HP2 := Lib.hid hp2
                  clear hp2 hk2 HPS
                  go_wp2_with fail
                  refine HI.out.mono ?_
                  rintro e w3 ⟨r, rfl, d3, hp3, hsr, hk3⟩
                  cases r with
                  | true =>
                    have hin := HC.out d3 (Sort.permIn_trans dk d2 d3 a' b' HP2.out hp3) (hsr rfl)
                    have HP := Lib.hid (show SrtP w0 g cap a b d (.returned (.tuple #[])) w3 from ⟨rfl, _, hin.1, hin.2, hk3⟩)
                    clear hin hp3 hsr hk3
                    go_wp2
                    go_end0
                    exact HP.out
                  | false =>
                    have HN := Lib.hid (show PS w0 g cap a' b' dk w3 from ⟨d3, Sort.permIn_trans dk d2 d3 a' b' HP2.out hp3, hk3⟩)
                    clear hp3 hsr hk3
                    go_wp2
                    go_meet
                    exact HN
              case rest =>
                clear HPS
                have HPS := hcut
                clear hcut
                go_upto_region 17 with fail
                go_cut [82] from 19 to 128 (fun s82 wx => ∃ c : Bool, s82 = .bool c ∧ Hid (PS2 w0 g cap a' b' p c dk wx))
                case first =>
                  by_cases ha0 : 0 < a'
                  · have ha0i : (0 : Int) < (a' : Int) := by omega
                    obtain ⟨d2, hp2, hk2⟩ := HPS.out
                    have HL := Lib.hid (sless hk2 (hp2.1.trans HSK.out) (i := a' - 1) (j := p) (I := (a' : Int) - 1) (J := (p : Int)) (by omega) (by omega) (by omega) rfl)
                    have HK2 := Lib.hid hk2; have HP2 := Lib.hid hp2; clear hk2 hp2 HPS
                    go_wp2_with fail
                    refine HL.out.mono ?_
                    rintro e w3 ⟨rfl, hb0⟩
                    have HN := Lib.hid (show PS2 w0 g cap a' b' p (!ltE d2[a' - 1]! d2[p]!) dk w3 from ⟨d2, HP2.out, HK2.out.below hb0, fun h => ⟨ha0, by simpa using h⟩⟩)
                    clear hb0
                    go_wp2_with fail
                    go_meet
                    exact ⟨_, rfl, HN⟩
                  · have ha0i : ¬ (0 : Int) < (a' : Int) := by omega
                    have HN := Lib.hid (show PS2 w0 g cap a' b' p false dk _ from (fun ⟨d2, h1, h2⟩ => ⟨d2, h1, h2, fun h => by cases h⟩) HPS.out)
                    go_wp2_with fail
                    go_meet
                    exact ⟨_, rfl, HN⟩
                case rest =>
                  clear HPS
                  obtain ⟨c, rfl, HPS⟩ := hcut
                  obtain ⟨d3, hp3, hk3, hc3⟩ := HPS.out
                  have HP3 := Lib.hid hp3; have HK3 := Lib.hid hk3; have HC3 := Lib.hid hc3
                  have HB3 := Lib.hid (HB.out.perm (by rw [HSK.out]; omega) hp3)
                  have HS3 := Lib.hid (hp3.1.trans HSK.out)
                  clear hp3 hk3 hc3 HPS
                  cases c with
                  | true =>
                    have HI := Lib.hid (speq_any w0 g cap n a' b' p d3 _ HK3.out HS3.out hpa hpb (by omega) (by omega))
                    go_wp2_with fail
                    refine HI.out.mono ?_
                    rintro e w4 ⟨mid, d4, rfl, hE, hk4⟩
                    have hce := cont_eq HC.out HP3.out (by rw [HSK.out]; omega) HB3.out (HC3.out (by trivial)).1 (HC3.out (by trivial)).2 hE
                    have hm1 := hE.2.1; have hm2 := hE.2.2.1
                    have HN := Lib.hid (show KR w0 g cap n a b mid b' d w4 from ⟨d4, hE.1.1.trans HS3.out, hk4, hce.2, hce.1⟩)
                    clear hce hE hk4
                    go_wp2
                    go_roundw
                    case rel => exact ⟨mid, b', l, wb, wp, rfl, rfl, rfl, rfl, rfl, by omega, by omega, by omega, hl, HN⟩
                    case measure => simp [intOf]; omega
                  | false =>
                    have HI := Lib.hid (spart_any w0 g cap n a' b' p d3 _ HK3.out HS3.out hpa hpb (by omega) (by omega))
                    go_wp2_with fail
                    refine HI.out.mono ?_
                    rintro e w4 ⟨mid, r, d4, rfl, hm1, hm2, hF, hk4⟩
                    have HF := Lib.hid hF; have HK4 := Lib.hid hk4
                    have HB4 := Lib.hid (HB3.out.perm (by rw [HS3.out]; omega) hF.1)
                    have HS4 := Lib.hid (hF.1.1.trans HS3.out)
                    clear hF hk4 HI
                    have hlen8 : (0 : Int) ≤ (b' : Int) - (a' : Int) := by omega
                    by_cases hlr : mid - a' < b' - mid
                    · have hlri : (mid : Int) - (a' : Int) < (b' : Int) - (mid : Int) := by omega
                      have HI := Lib.hid (HREC.out a' mid l d4 w4 (by have := HM.out; omega) HK4.out HS4.out hm1 (by omega) hl (HB4.out.mono (by omega)))
                      go_wp2_with fail
                      refine HI.out.mono ?_
                      rintro e w5 ⟨rfl, d5, hp5, hs5, hk5⟩
                      have hcl := cont_left HC.out HP3.out (by rw [HSK.out]; omega) hm1 hm2 HF.out hp5 hs5
                      have HN := Lib.hid (show KR w0 g cap n a b (mid + 1) b' d w5 from ⟨d5, hp5.1.trans HS4.out, hk5, hcl.2, hcl.1⟩)
                      clear hcl hp5 hs5 hk5 HI
                      go_wp2
                      go_roundw
                      case rel => exact ⟨mid + 1, b', l, _, _, by go_num, rfl, rfl, rfl, rfl, by omega, by omega, by omega, hl, HN⟩
                      case measure => simp [intOf]; omega
                    · have hlri : ¬ (mid : Int) - (a' : Int) < (b' : Int) - (mid : Int) := by omega
                      have HI := Lib.hid (HREC.out (mid + 1) b' l d4 w4 (by have := HM.out; omega) HK4.out HS4.out (by omega) (by omega) hl (.inr fun i h1 h2 => by rw [show mid + 1 - 1 = mid by omega]; exact HF.out.2.2 i (by omega) h2))
                      go_wp2_with fail
                      refine HI.out.mono ?_
                      rintro e w5 ⟨rfl, d5, hp5, hs5, hk5⟩
                      have hcr := cont_right HC.out HP3.out (by rw [HSK.out]; omega) HB3.out hm1 hm2 HF.out hp5 hs5
                      have HN := Lib.hid (show KR w0 g cap n a b a' mid d w5 from ⟨d5, hp5.1.trans HS4.out, hk5, hcr.2, hcr.1⟩)
                      clear hcr hp5 hs5 hk5 HI
                      go_wp2
                      go_roundw
                      case rel => exact ⟨a', mid, l, _, _, rfl, rfl, rfl, rfl, rfl, by omega, by omega, by omega, hl, HN⟩
                      case measure => simp [intOf]; omega
end Go.Proofs.Ytdmmglnpeoeicaa
