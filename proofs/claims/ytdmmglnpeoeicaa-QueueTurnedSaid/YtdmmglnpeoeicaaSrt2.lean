/- sort.Sort over the entries of a row: siftDown, heapSort, reverseRange. -/
import Derived.Test.YtdmmglnpeoeicaaSrt1
namespace Go.Proofs.Ytdmmglnpeoeicaa
set_option linter.unusedVariables false
set_option linter.unusedSimpArgs false
open Go.RowKit
/-- The greater child. -/
def kidS (hi f r : Nat) (d : Array En) : Nat := if 2 * r + 2 < hi ∧ ltE d[f + (2 * r + 1)]! d[f + (2 * r + 2)]! = true then 2 * r + 2 else 2 * r + 1
theorem sift_over (hi f r : Nat) (d : Array En) (h : hi ≤ 2 * r + 1) : Sort.siftDown ltE hi f r d = d := by
  rw [Sort.siftDown, dif_pos h]
theorem sift_step (hi f r : Nat) (d : Array En) (h : ¬ hi ≤ 2 * r + 1) : Sort.siftDown ltE hi f r d = if ltE d[f + r]! d[f + kidS hi f r d]! = true then Sort.siftDown ltE hi f (kidS hi f r d) (Sort.swp d (f + r) (f + kidS hi f r d)) else d := by
  rw [Sort.siftDown, dif_neg h]
  unfold kidS
  by_cases h2 : 2 * r + 2 < hi ∧ ltE d[f + (2 * r + 1)]! d[f + (2 * r + 2)]! = true
  · rw [if_pos (by simpa [Nat.add_assoc] using h2), if_pos h2, dif_pos h2.1]
    cases ltE d[f + r]! d[f + (2 * r + 2)]! <;> simp
  · rw [if_neg (by simpa [Nat.add_assoc] using h2), if_neg h2]
    cases ltE d[f + r]! d[f + (2 * r + 1)]! <;> simp
def SiftR (w0 : World) (g cap n hi f lo : Nat) (d : Array En) (r : Nat) (w : World) : Prop := ∃ dk : Array En, dk.size = n ∧ SA w0 g cap dk w ∧ Sort.siftDown ltE hi f r dk = Sort.siftDown ltE hi f lo d
set_option maxHeartbeats 4000000 in
theorem ssift_any (w0 : World) (g cap n lo hi f : Nat) (d : Array En) (w : World) (h : SA w0 g cap d w) (hs : d.size = n) (hlo : lo ≤ hi) (hb : f + hi ≤ n) (hn : n ≤ 2305843009213693951) :
    Calls Try.prog 42 #[.iface 46 (.slice (some ⟨g, 0, none⟩) n cap), .int .i64 (lo : Int), .int .i64 (hi : Int), .int .i64 (f : Int)] w fun e w' => SP w0 g cap (Sort.siftDown ltE hi f lo d) e w' := by
  have HR := Lib.hid (show SiftR w0 g cap n hi f lo d lo w from ⟨d, hs, h, rfl⟩)
  clear h hs
  have mL := meth_sless; have mS := meth_sswap
  go_enter Try.func42, Try.ntmps42
  go_wp2
  go_loopw [8] (fun vi wr => ∃ r : Nat, vi = .int .i64 r ∧ r ≤ hi ∧ Hid (SiftR w0 g cap n hi f lo d r wr)) (fun vi _ => hi - (intOf vi).toNat)
  case atStart => exact ⟨lo, rfl, hlo, HR⟩
  case round =>
    clear HR
    obtain ⟨r, rfl, hrh, hrel⟩ := hrel
    obtain ⟨dk, hsk, hk, hO⟩ := hrel.out
    have HO := Lib.hid hO; have HK := Lib.hid hk; have HS := Lib.hid hsk
    clear hO hk hsk hrel
    by_cases hov : hi ≤ 2 * r + 1
    · have HE := Lib.hid (show SP w0 g cap (Sort.siftDown ltE hi f lo d) (.returned (.tuple #[])) wr from ⟨rfl, by rw [← HO.out, sift_over hi f r dk hov]; exact HK.out⟩)
      have hov2 : (hi : Int) ≤ 2 * (r : Int) + 1 := by omega
      go_wp2
      go_end0
      exact HE.out
    · have hov2 : ¬ (hi : Int) ≤ 2 * (r : Int) + 1 := by omega
      have HST := Lib.hid (sift_step hi f r dk hov)
      by_cases h2 : 2 * r + 2 < hi
      · have h2i : 2 * (r : Int) + 1 + 1 < (hi : Int) := by omega
        have hL := sless HK.out HS.out (i := f + (2 * r + 1)) (j := f + (2 * r + 2)) (I := (f : Int) + (2 * (r : Int) + 1)) (J := (f : Int) + (2 * (r : Int) + 1) + 1) (by omega) (by omega) (by omega) (by omega)
        cases hlv : ltE dk[f + (2 * r + 1)]! dk[f + (2 * r + 2)]! with
        | true =>
          rw [hlv] at hL
          have HL := Lib.hid hL
          have HKD := Lib.hid (show kidS hi f r dk = 2 * r + 2 from if_pos ⟨h2, hlv⟩)
          clear hL hlv
          go_wp2_with fail
          refine HL.out.mono ?_
          rintro e w2 ⟨rfl, hb0⟩
          have HK2 := Lib.hid (HK.out.below hb0); clear hb0
          have hkl : 2 * r + 2 < hi := h2
          have hL := sless HK2.out HS.out (i := f + r) (j := f + (2 * r + 2)) (I := (f : Int) + (r : Int)) (J := (f : Int) + (2 * (r : Int) + 1 + 1)) (by omega) (by omega) (by omega) (by omega)
          cases hlv : ltE dk[f + r]! dk[f + (2 * r + 2)]! with
          | true =>
            rw [hlv] at hL
            have HL := Lib.hid hL
            have HN0 := Lib.hid (show Sort.siftDown ltE hi f (2 * r + 2) (Sort.swp dk (f + r) (f + (2 * r + 2))) = Sort.siftDown ltE hi f lo d by rw [← HO.out, HST.out, HKD.out, if_pos hlv])
            clear hL hlv
            go_wp2_with fail
            refine HL.out.mono ?_
            rintro e w3 ⟨rfl, hb0⟩
            have HSW := Lib.hid (sswap (HK2.out.below hb0) HS.out (i := f + r) (j := f + (2 * r + 2)) (I := (f : Int) + (r : Int)) (J := (f : Int) + (2 * (r : Int) + 1 + 1)) (by omega) (by omega) (by omega) (by omega))
            clear hb0
            go_wp2_with fail
            refine HSW.out.mono ?_
            rintro e w4 ⟨rfl, hsa⟩
            have HN := Lib.hid (show SiftR w0 g cap n hi f lo d (2 * r + 2) w4 from ⟨_, by rw [Sort.size_swp]; exact HS.out, hsa, HN0.out⟩)
            clear hsa
            go_wp2
            go_roundw
            case rel => exact ⟨2 * r + 2, by first | rfl | (congr 1; omega), by omega, HN⟩
            case measure => simp [intOf]; omega
          | false =>
            rw [hlv] at hL
            have HL := Lib.hid hL
            have HN0 := Lib.hid (show dk = Sort.siftDown ltE hi f lo d by rw [← HO.out, HST.out, HKD.out, if_neg (by simp [hlv])])
            clear hL hlv
            go_wp2_with fail
            refine HL.out.mono ?_
            rintro e w3 ⟨rfl, hb0⟩
            have HE := Lib.hid (show SP w0 g cap (Sort.siftDown ltE hi f lo d) (.returned (.tuple #[])) w3 from ⟨rfl, by rw [← HN0.out]; exact HK2.out.below hb0⟩)
            clear hb0
            go_wp2
            go_end0
            exact HE.out
        | false =>
          rw [hlv] at hL
          have HL := Lib.hid hL
          have HKD := Lib.hid (show kidS hi f r dk = 2 * r + 1 from if_neg (by simp [hlv]))
          clear hL hlv
          go_wp2_with fail
          refine HL.out.mono ?_
          rintro e w2 ⟨rfl, hb0⟩
          have HK2 := Lib.hid (HK.out.below hb0); clear hb0
          have hkl : 2 * r + 1 < hi := by omega
          have hL := sless HK2.out HS.out (i := f + r) (j := f + (2 * r + 1)) (I := (f : Int) + (r : Int)) (J := (f : Int) + (2 * (r : Int) + 1)) (by omega) (by omega) (by omega) (by omega)
          cases hlv : ltE dk[f + r]! dk[f + (2 * r + 1)]! with
          | true =>
            rw [hlv] at hL
            have HL := Lib.hid hL
            have HN0 := Lib.hid (show Sort.siftDown ltE hi f (2 * r + 1) (Sort.swp dk (f + r) (f + (2 * r + 1))) = Sort.siftDown ltE hi f lo d by rw [← HO.out, HST.out, HKD.out, if_pos hlv])
            clear hL hlv
            go_wp2_with fail
            refine HL.out.mono ?_
            rintro e w3 ⟨rfl, hb0⟩
            have HSW := Lib.hid (sswap (HK2.out.below hb0) HS.out (i := f + r) (j := f + (2 * r + 1)) (I := (f : Int) + (r : Int)) (J := (f : Int) + (2 * (r : Int) + 1)) (by omega) (by omega) (by omega) (by omega))
            clear hb0
            go_wp2_with fail
            refine HSW.out.mono ?_
            rintro e w4 ⟨rfl, hsa⟩
            have HN := Lib.hid (show SiftR w0 g cap n hi f lo d (2 * r + 1) w4 from ⟨_, by rw [Sort.size_swp]; exact HS.out, hsa, HN0.out⟩)
            clear hsa
            go_wp2
            go_roundw
            case rel => exact ⟨2 * r + 1, by first | rfl | (congr 1; omega), by omega, HN⟩
            case measure => simp [intOf]; omega
          | false =>
            rw [hlv] at hL
            have HL := Lib.hid hL
            have HN0 := Lib.hid (show dk = Sort.siftDown ltE hi f lo d by rw [← HO.out, HST.out, HKD.out, if_neg (by simp [hlv])])
            clear hL hlv
            go_wp2_with fail
            refine HL.out.mono ?_
            rintro e w3 ⟨rfl, hb0⟩
            have HE := Lib.hid (show SP w0 g cap (Sort.siftDown ltE hi f lo d) (.returned (.tuple #[])) w3 from ⟨rfl, by rw [← HN0.out]; exact HK2.out.below hb0⟩)
            clear hb0
            go_wp2
            go_end0
            exact HE.out
      · have h2i : ¬ 2 * (r : Int) + 1 + 1 < (hi : Int) := by omega
        have HKD := Lib.hid (show kidS hi f r dk = 2 * r + 1 from if_neg (fun h => h2 h.1))
        have HK2 := HK
        have hkl : 2 * r + 1 < hi := by omega
        have hL := sless HK2.out HS.out (i := f + r) (j := f + (2 * r + 1)) (I := (f : Int) + (r : Int)) (J := (f : Int) + (2 * (r : Int) + 1)) (by omega) (by omega) (by omega) (by omega)
        cases hlv : ltE dk[f + r]! dk[f + (2 * r + 1)]! with
        | true =>
          rw [hlv] at hL
          have HL := Lib.hid hL
          have HN0 := Lib.hid (show Sort.siftDown ltE hi f (2 * r + 1) (Sort.swp dk (f + r) (f + (2 * r + 1))) = Sort.siftDown ltE hi f lo d by rw [← HO.out, HST.out, HKD.out, if_pos hlv])
          clear hL hlv
          go_wp2_with fail
          refine HL.out.mono ?_
          rintro e w3 ⟨rfl, hb0⟩
          have HSW := Lib.hid (sswap (HK2.out.below hb0) HS.out (i := f + r) (j := f + (2 * r + 1)) (I := (f : Int) + (r : Int)) (J := (f : Int) + (2 * (r : Int) + 1)) (by omega) (by omega) (by omega) (by omega))
          clear hb0
          go_wp2_with fail
          refine HSW.out.mono ?_
          rintro e w4 ⟨rfl, hsa⟩
          have HN := Lib.hid (show SiftR w0 g cap n hi f lo d (2 * r + 1) w4 from ⟨_, by rw [Sort.size_swp]; exact HS.out, hsa, HN0.out⟩)
          clear hsa
          go_wp2
          go_roundw
          case rel => exact ⟨2 * r + 1, by first | rfl | (congr 1; omega), by omega, HN⟩
          case measure => simp [intOf]; omega
        | false =>
          rw [hlv] at hL
          have HL := Lib.hid hL
          have HN0 := Lib.hid (show dk = Sort.siftDown ltE hi f lo d by rw [← HO.out, HST.out, HKD.out, if_neg (by simp [hlv])])
          clear hL hlv
          go_wp2_with fail
          refine HL.out.mono ?_
          rintro e w3 ⟨rfl, hb0⟩
          have HE := Lib.hid (show SP w0 g cap (Sort.siftDown ltE hi f lo d) (.returned (.tuple #[])) w3 from ⟨rfl, by rw [← HN0.out]; exact HK2.out.below hb0⟩)
          clear hb0
          go_wp2
          go_end0
          exact HE.out
def HbR (w0 : World) (g cap n hi f : Nat) (d : Array En) (k : Nat) (w : World) : Prop := ∃ dk : Array En, dk.size = n ∧ SA w0 g cap dk w ∧ Sort.heapBuild ltE hi f k dk = d
def HpR (w0 : World) (g cap n f : Nat) (d : Array En) (k : Nat) (w : World) : Prop := ∃ dk : Array En, dk.size = n ∧ SA w0 g cap dk w ∧ Sort.heapPop ltE f k dk = d
theorem sift_size (hi f : Nat) : ∀ (m r : Nat) (d : Array En), hi - r ≤ m → (Sort.siftDown ltE hi f r d).size = d.size := by
  intro m
  induction m with
  | zero => intro r d h; rw [sift_over hi f r d (by omega)]
  | succ m ih =>
    intro r d h
    by_cases ho : hi ≤ 2 * r + 1
    · rw [sift_over hi f r d ho]
    · rw [sift_step hi f r d ho]
      split
      · rw [ih _ _ (by unfold kidS; split <;> omega), Sort.size_swp]
      · rfl
set_option maxHeartbeats 4000000 in
theorem sheap_any (w0 : World) (g cap n a b : Nat) (d : Array En) (w : World) (h : SA w0 g cap d w) (hs : d.size = n) (hab : a < b) (hbn : b ≤ n) (hn : n ≤ 2305843009213693951) :
    Calls Try.prog 35 #[.iface 46 (.slice (some ⟨g, 0, none⟩) n cap), .int .i64 (a : Int), .int .i64 (b : Int)] w fun e w' => SP w0 g cap (Sort.heapSort ltE d a b) e w' := by
  have HR := Lib.hid (show HbR w0 g cap n (b - a) a (Sort.heapBuild ltE (b - a) a ((b - a - 1) / 2 + 1) d) ((b - a - 1) / 2 + 1) w from ⟨d, hs, h, rfl⟩)
  clear h hs
  have mS := meth_sswap
  have e1 : (b : Int) - (a : Int) = ((b - a : Nat) : Int) := by omega
  have e2 : (((b - a : Nat) : Int) - 1) / 2 = (((b - a - 1) / 2 + 1 : Nat) : Int) - 1 := by omega
  have hm1 : 1 ≤ b - a := by omega
  have hm2 : a + (b - a) ≤ n := by omega
  have hm3 : (b - a - 1) / 2 + 1 ≤ b - a := by omega
  have HE0 := Lib.hid (show Sort.heapSort ltE d a b = Sort.heapPop ltE a (b - a) (Sort.heapBuild ltE (b - a) a ((b - a - 1) / 2 + 1) d) from rfl)
  generalize Sort.heapSort ltE d a b = D at *
  generalize Sort.heapBuild ltE (b - a) a ((b - a - 1) / 2 + 1) d = D1 at *
  generalize hK : (b - a - 1) / 2 + 1 = K at *
  generalize hM : b - a = m at *
  clear hK hM
  have HE2 := Lib.hid e2; clear e2
  go_enter Try.func35, Try.ntmps35
  go_wp2
  go_loopw [9] (fun vi wr => ∃ k : Nat, vi = .int .i64 ((k : Int) - 1) ∧ k ≤ m ∧ Hid (HbR w0 g cap n m a D1 k wr)) (fun vi _ => (intOf vi + 1).toNat)
  case atStart => exact ⟨K, by rw [HE2.out], hm3, HR⟩
  case round =>
    clear HR
    obtain ⟨k, rfl, hkm, hrel⟩ := hrel
    obtain ⟨dk, hsk, hk, hO⟩ := hrel.out
    have HO := Lib.hid hO; have HK := Lib.hid hk; have HS := Lib.hid hsk
    clear hO hk hsk hrel
    cases k with
    | zero =>
      have HR := Lib.hid (show HpR w0 g cap n a D m wr from ⟨dk, HS.out, HK.out, by rw [HE0.out, ← HO.out]; rfl⟩)
      have hz : ¬ (0 : Int) ≤ ((0 : Nat) : Int) - 1 := by omega
      go_wp2
      go_loopw [10] (fun vi wr => ∃ k : Nat, vi = .int .i64 ((k : Int) - 1) ∧ k ≤ m ∧ Hid (HpR w0 g cap n a D k wr)) (fun vi _ => (intOf vi + 1).toNat)
      case atStart => exact ⟨m, rfl, Nat.le_refl _, HR⟩
      case round =>
        clear HR HO HK HS hz
        obtain ⟨k, rfl, hkm, hrel⟩ := hrel
        obtain ⟨dk, hsk, hk, hO⟩ := hrel.out
        have HO := Lib.hid hO; have HK := Lib.hid hk; have HS := Lib.hid hsk
        clear hO hk hsk hrel
        cases k with
        | zero =>
          have HE := Lib.hid (show SP w0 g cap D (.returned (.tuple #[])) wr from ⟨rfl, by rw [← HO.out]; exact HK.out⟩)
          have hz : ¬ (0 : Int) ≤ ((0 : Nat) : Int) - 1 := by omega
          go_wp2
          go_end0
          exact HE.out
        | succ k =>
          have e3 : ((k + 1 : Nat) : Int) - 1 = (k : Int) := by omega
          rw [e3]; clear e3
          have HSW := Lib.hid (sswap HK.out HS.out (i := a) (j := a + k) (I := (a : Int)) (J := (a : Int) + (k : Int)) (by omega) (by omega) rfl (by omega))
          go_wp2_with fail
          refine HSW.out.mono ?_
          rintro e w2 ⟨rfl, hsa⟩
          have HC := Lib.hid (ssift_any w0 g cap n 0 k a _ w2 hsa (by rw [Sort.size_swp]; exact HS.out) (Nat.zero_le _) (by omega) hn)
          clear hsa
          go_wp2_with fail
          refine HC.out.mono ?_
          rintro e w3 ⟨rfl, hsa⟩
          have HN := Lib.hid (show HpR w0 g cap n a D k w3 from ⟨_, by rw [sift_size k a _ _ _ (Nat.le_refl _), Sort.size_swp]; exact HS.out, hsa, HO.out⟩)
          clear hsa
          go_wp2
          go_roundw
          case rel => exact ⟨k, rfl, by omega, HN⟩
          case measure => simp [intOf] <;> omega
    | succ k =>
      have e3 : ((k + 1 : Nat) : Int) - 1 = (k : Int) := by omega
      rw [e3]; clear e3
      have HC := Lib.hid (ssift_any w0 g cap n k m a dk wr HK.out HS.out (by omega) (by omega) hn)
      go_wp2_with fail
      refine HC.out.mono ?_
      rintro e w3 ⟨rfl, hsa⟩
      have HN := Lib.hid (show HbR w0 g cap n m a D1 k w3 from ⟨_, by rw [sift_size m a _ _ _ (Nat.le_refl _)]; exact HS.out, hsa, HO.out⟩)
      clear hsa
      go_wp2
      go_roundw
      case rel => exact ⟨k, rfl, by omega, HN⟩
      case measure => simp [intOf] <;> omega
/-- The row has d with the places from a to b put among themselves. -/
def PR (w0 : World) (g cap n a b : Nat) (d : Array En) (w : World) : Prop := ∃ dk : Array En, Sort.PermIn a b d dk ∧ SA w0 g cap dk w
theorem PR.start {w0 w : World} {g cap n a b : Nat} {d : Array En} (h : SA w0 g cap d w) : PR w0 g cap n a b d w := ⟨d, Sort.permIn_refl d a b, h⟩
set_option maxHeartbeats 4000000 in
theorem srev_any (w0 : World) (g cap n a b : Nat) (d : Array En) (w : World) (h : SA w0 g cap d w) (hs : d.size = n) (hab : a ≤ b) (hbn : b ≤ n) (hn : n ≤ 2305843009213693951) :
    Calls Try.prog 38 #[.iface 46 (.slice (some ⟨g, 0, none⟩) n cap), .int .i64 (a : Int), .int .i64 (b : Int)] w fun e w' => e = .returned (.tuple #[]) ∧ PR w0 g cap n a b d w' := by
  have HR := Lib.hid (show PR w0 g cap n a b d w from PR.start h)
  clear h
  have mS := meth_sswap
  go_enter Try.func38, Try.ntmps38
  go_wp2
  go_loopw [6, 7] (fun vi vj wr => ∃ (i : Nat) (j : Int), vi = .int .i64 i ∧ vj = .int .i64 j ∧ a ≤ i ∧ i ≤ b ∧ j < (b : Int) ∧ -1 ≤ j ∧ Hid (PR w0 g cap n a b d wr)) (fun vi vj _ => (intOf vj - intOf vi).toNat)
  case atStart => exact ⟨a, (b : Int) - 1, rfl, rfl, by omega, by omega, by omega, by omega, HR⟩
  case round =>
    clear HR
    obtain ⟨i, j, rfl, rfl, hai, hib, hjb, hj1, hrel⟩ := hrel
    by_cases hij : (i : Int) < j
    · obtain ⟨dk, hp, hk⟩ := hrel.out
      obtain ⟨J, rfl⟩ : ∃ J : Nat, j = (J : Int) := ⟨j.toNat, by omega⟩
      have HSW := Lib.hid (sswap hk (hp.1.trans hs) (i := i) (j := J) (I := (i : Int)) (J := (J : Int)) (by omega) (by omega) rfl rfl)
      have HP := Lib.hid (Sort.permIn_trans d dk _ a b hp (Sort.swp_permIn dk a b i J (by omega) (by omega) (by omega) (by omega) (by rw [hp.1, hs]; exact hbn)))
      clear hp hk hrel
      have HS := Lib.hid hs; clear hs
      go_wp2_with fail
      refine HSW.out.mono ?_
      rintro e w2 ⟨rfl, hsa⟩
      have HN := Lib.hid (show PR w0 g cap n a b d w2 from ⟨_, HP.out, hsa⟩)
      clear hsa
      go_wp2
      go_roundw
      case rel => exact ⟨i + 1, (J : Int) - 1, by go_num, rfl, by omega, by omega, by omega, by omega, HN⟩
      case measure => simp [intOf]; omega
    · have HS := Lib.hid hs; clear hs
      go_wp2
      go_end0
      exact ⟨rfl, hrel.out⟩
end Go.Proofs.Ytdmmglnpeoeicaa
