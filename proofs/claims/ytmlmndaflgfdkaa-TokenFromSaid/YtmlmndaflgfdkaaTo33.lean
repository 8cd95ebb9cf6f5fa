/- token: From, by contract. -/
import Derived.Test.YtmlmndaflgfdkaaTo31
import Derived.Test.YtmlmndaflgfdkaaTo22
namespace Go.Proofs.Ytmlmndaflgfdkaa
set_option linter.unusedVariables false
set_option linter.unusedSimpArgs false
open Go.RowKit
/-- May a ticket stand behind these? -/
def okF (P : List Tk) (k : Tk) : Prop := (k.par = 0 ∨ 0 ≤ fnd (secs P) k.par) ∧ putE P k = 0
def FromOk (L : List Tk) : Prop := ∀ j (hj : j < L.length), okF (L.take j) L[j]
def FrP (L : List Tk) (w : World) (e : Ending) (w' : World) : Prop := (FromOk L ∧ ∃ y v, e = .returned (.tuple #[ptrA y, .int .i64 0]) ∧ Below w.heap.size w w' ∧ TB w' y v L ∧ TOk L ∧ w.heap.size ≤ y ∧ ∀ i, v.ownBlock = some i → w.heap.size ≤ i) ∨ (¬ FromOk L ∧ e = .returned (.tuple #[.pointer none, .int .i64 1]) ∧ Below w.heap.size w w')
set_option maxRecDepth 100000 in
set_option maxHeartbeats 8000000 in
theorem from_any (w : World) (u : Value) (L : List Tk) (h : ERd elT w u L) (hs : SecOk L) : Calls Try.prog 30 #[u] w (FrP L w) := by
  obtain ⟨A1, c1, rfl, hc1, hc2⟩ := h.shape
  have HL := Lib.hid h
  clear h
  obtain ⟨n, hn⟩ : ∃ n, n = L.length := ⟨_, rfl⟩
  rw [← hn] at HL hc1 ⊢
  have HN := Lib.hid hn; clear hn
  have hmx : n ≤ 9223372036854775807 := by unfold maxLen at hc2; omega
  clear hc1 hc2
  go_enter Try.func30, Try.ntmps30
  go_wp2_with fail
  refine (tnew_any _).mono ?_
  rintro e w1 ⟨rfl, hT1, hb1⟩
  have HT1 := Lib.hid hT1
  have HB1 := Lib.hid hb1
  clear hT1 hb1
  obtain ⟨y, hy⟩ : ∃ y, w.heap.size = y := ⟨_, rfl⟩
  rw [hy] at HT1 ⊢
  have HY : Hid (w.heap.size ≤ y) := by unfold Hid; omega
  clear hy
  go_wp2_with fail
  go_loopw [6, 10] (fun _ i wr => ∃ (j : Nat) (v0 : Value), j ≤ n ∧ j ≤ 8 ∧ i = .int .i64 j ∧ Hid (Below w.heap.size w wr) ∧ Hid (TB wr y v0 (L.take j)) ∧ Hid (TOk (L.take j)) ∧ Hid (∀ i, v0.ownBlock = some i → w.heap.size ≤ i) ∧ Hid (∀ k (hk : k < L.length), k < j → okF (L.take k) L[k])) (fun _ i _ => n - (intOf i).toNat)
  case atStart => exact ⟨0, _, Nat.zero_le _, Nat.zero_le _, rfl, HB1.out, by simpa [Hid] using HT1.out, by simpa [Hid] using TOk.nil, fun i hi => by simp [Value.ownBlock] at hi, fun k _ hk => absurd hk (Nat.not_lt_zero _)⟩
  case round =>
    rename World => wr
    clear HT1 HB1
    obtain ⟨j, v0, hj, hj8, rfl, HB, HT, HK, HV, HO⟩ := hrel
    by_cases hlt : j < n
    · have hjl : j < L.length := by rw [← HN.out]; exact hlt
      have hx : L[j]? = some L[j] := List.getElem?_eq_getElem hjl
      have hsx := hs _ (List.getElem_mem hjl)
      have hsx1 := hsx.1
      have hsx2 := hsx.2
      clear hsx
      have HTK := Lib.hid (show L.take (j + 1) = L.take j ++ [L[j]] from List.take_succ_eq_append_getElem hjl)
      have HNO := Lib.hid (show ¬ okF (L.take j) L[j] → ¬ FromOk L from fun h1 h2 => h1 (h2 j hjl))
      have HYE := Lib.hid (show okF (L.take j) L[j] → ∀ k (hk : k < L.length), k < j + 1 → okF (L.take k) L[k] from fun h1 k hk hkj => by
        by_cases e : k = j
        · subst e; exact h1
        · exact HO.out k hk (by omega))
      have HLE := Lib.hid (show (L.take j).length ≤ 1000 by have := HK.out.len; omega)
      have HPL := Lib.hid (show (L.take j).length = j by rw [List.length_take]; omega)
      obtain ⟨g, o, rfl, hgz, a0, a1, a2, a3, a4, a5, a6, a7, a8, a9⟩ := (HL.out.below HB.out).ten hx
      generalize L[j] = x at *
      clear hx
      obtain ⟨xs, xp, ⟨g0, g1, g2, g3, g4, g5, g6, g7⟩⟩ := x
      simp only at a0 a1 a2 a3 a4 a5 a6 a7 a8 a9 hsx1 hsx2
      have hlt2 : (j : Int) < n := by omega
      go_upto_region 5 with fail
      have HKB := Lib.hid (Blk.new wr 35 #[.int .u64 xs, .int .u64 xp, .int .i64 g0, .int .i64 g1, .int .i64 g2, .int .i64 g3, .int .i64 g4, .int .i64 g5, .bool g6, .int .i64 g7])
      have HB3 := Lib.hid (HB.out.alloc HB.out.size (.cells #[.int .u64 xs, .int .u64 xp, .int .i64 g0, .int .i64 g1, .int .i64 g2, .int .i64 g3, .int .i64 g4, .int .i64 g5, .bool g6, .int .i64 g7] 35))
      have HT3 := Lib.hid (HT.out.alloc (.cells #[.int .u64 xs, .int .u64 xp, .int .i64 g0, .int .i64 g1, .int .i64 g2, .int .i64 g3, .int .i64 g4, .int .i64 g5, .bool g6, .int .i64 g7] 35))
      have HKY := Lib.hid (show wr.heap.size ≠ y by have := HT.out.blk.lt; omega)
      have HKV := Lib.hid (show v0.ownBlock ≠ some wr.heap.size from fun e => by have := HT.out.own.lt e; omega)
      clear a0 a1 a2 a3 a4 a5 a6 a7 a8 a9 HB HT hgz
      generalize (wr.alloc (.cells #[.int .u64 xs, .int .u64 xp, .int .i64 g0, .int .i64 g1, .int .i64 g2, .int .i64 g3, .int .i64 g4, .int .i64 g5, .bool g6, .int .i64 g7] 35)) = w3 at *
      generalize wr.heap.size = kb at *
      generalize hP : L.take j = P at *
      have HPE := Lib.hid hP
      clear hP
      have r0 := HKB.out.cell 0
      have r1 := HKB.out.cell 1
      have r2 := HKB.out.cell 2
      have r3 := HKB.out.cell 3
      have r4 := HKB.out.cell 4
      have r5 := HKB.out.cell 5
      have r6 := HKB.out.cell 6
      have r7 := HKB.out.cell 7
      have r8 := HKB.out.cell 8
      have r9 := HKB.out.cell 9
      simp only [List.getElem?_toArray, List.getElem?_cons_zero, List.getElem?_cons_succ] at r0 r1 r2 r3 r4 r5 r6 r7 r8 r9
      obtain ⟨EE, hEE⟩ : ∃ EE, putE P ⟨xs, xp, ⟨g0, g1, g2, g3, g4, g5, g6, g7⟩⟩ = EE := ⟨_, rfl⟩
      have HEE := Lib.hid hEE
      clear hEE
      have HPU := Lib.hid (fun W (h : TB W y v0 P) => tput_any W y v0 P ⟨xs, xp, ⟨g0, g1, g2, g3, g4, g5, g6, g7⟩⟩ h HLE.out HK.out.so hsx1)
      have HAF : Hid (∀ (W : World) (hB : Below w.heap.size w W) (hT : TB W y v0 P) (hp : xp = 0 ∨ 0 ≤ fnd (secs P) xp) (v' : Value) (w' : World), TS y v0 W v' (putL P ⟨xs, xp, ⟨g0, g1, g2, g3, g4, g5, g6, g7⟩⟩) w' → EE = 0 → (j < 8 ∧ Below w.heap.size w w' ∧ TB w' y v' (L.take (j + 1)) ∧ TOk (L.take (j + 1)) ∧ (∀ i, v'.ownBlock = some i → w.heap.size ≤ i) ∧ ∀ k (hk : k < L.length), k < j + 1 → okF (L.take k) L[k])) := by
        intro W hB hT hp v' w' t h0
        have hL : putL P ⟨xs, xp, ⟨g0, g1, g2, g3, g4, g5, g6, g7⟩⟩ = P ++ [⟨xs, xp, ⟨g0, g1, g2, g3, g4, g5, g6, g7⟩⟩] := by rw [putL, if_pos (by rw [HEE.out]; exact h0)]
        have hT1 := t.tb
        have hok := HK.out
        have hlen : P.length < 8 := by
          have h9 := HEE.out
          rw [h0] at h9
          unfold putE at h9
          split at h9
          · simp at h9
          · split at h9
            · rename_i hf; exact absurd h9 hf
            · split at h9
              · simp at h9
              · omega
        have hTO : TOk (putL P ⟨xs, xp, ⟨g0, g1, g2, g3, g4, g5, g6, g7⟩⟩) := by
          rcases hp with hp | hp
          · subst hp; exact hok.mint xs ⟨g0, g1, g2, g3, g4, g5, g6, g7⟩ hsx1
          · have h9 := hok.derive xp xs ⟨g0, g1, g2, g3, g4, g5, g6, g7⟩ hsx2 hsx1
            rw [derL, if_neg (by omega)] at h9
            exact h9
        rw [hL] at hT1 hTO
        refine ⟨by rw [← HPL.out]; exact hlen, below_ke hB t.ke HY.out HV.out hB.size, by rw [HTK.out]; exact hT1, by rw [HTK.out]; exact hTO, fun i hi => ?_, HYE.out ⟨hp, by rw [HEE.out]; exact h0⟩⟩
        rcases t.far i hi with h | h
        · exact HV.out i h
        · exact Nat.le_trans hB.size h
      unfold PutPT at HPU
      rw [HEE.out] at HPU
      have HPU2 := HPU
      by_cases hp0 : xp = 0
      · have hx0 : ((xp : Int) != 0) = false := by simp [hp0]
        have HP0 := Lib.hid hp0
        clear HPU2 hp0
        have HXB := HB3
        have HXT := HT3
        have HAG := Lib.hid (HAF.out _ HXB.out HXT.out (.inl HP0.out))
        have HTE := Lib.hid (fun (v' : Value) (w' : World) (L' : List Tk) (t : TS y v0 _ v' L' w') => below_ke HXB.out t.ke HY.out HV.out HXB.out.size)
        clear HAF
        by_cases he : EE = 0
        · have hee : (EE != 0) = false := by simpa using he
          have HEZ := Lib.hid he
          clear he
          go_wp2_with fail
          refine (HPU.out _ HXT.out).mono ?_
          rintro e w5 ⟨v5, rfl, ht⟩
          have HZ := Lib.hid (HAG.out _ _ ht HEZ.out)
          clear ht HAG HPU HTE
          go_wp2
          go_roundw
          case rel => exact ⟨j + 1, v5, by omega, by have := HZ.out.1; omega, by go_num, HZ.out.2.1, HZ.out.2.2.1, HZ.out.2.2.2.1, HZ.out.2.2.2.2.1, HZ.out.2.2.2.2.2⟩
          case measure => simp [intOf]; omega
        · have hee : (EE != 0) = true := by simpa using he
          have HEZ := Lib.hid (show ¬ FromOk L from HNO.out fun h9 => he (by rw [← HEE.out]; exact h9.2))
          clear he
          go_wp2_with fail
          refine (HPU.out _ HXT.out).mono ?_
          rintro e w5 ⟨v5, rfl, ht⟩
          have HZ := Lib.hid (HTE.out _ _ _ ht)
          clear ht HAG HPU HTE
          go_wp2
          go_ret2
          exact .inr ⟨HEZ.out, rfl, HZ.out⟩
      · have hx0 : ((xp : Int) != 0) = true := by simp; omega
        clear HPU2
        have HFI := Lib.hid (tfind_any w3 y v0 P xp hsx2 HT3.out HLE.out HK.out.so)
        have HNF := Lib.hid (show fnd (secs P) xp < 0 → ¬ FromOk L from fun h9 => HNO.out fun h8 => by
          rcases h8.1 with h7 | h7
          · exact hp0 h7
          · simp only at h7; omega)
        clear hp0
        generalize fnd (secs P) xp = F at *
        go_wp2_with fail
        refine HFI.out.mono ?_
        rintro e w4 ⟨rfl, hb4⟩
        have HKB4 := Lib.hid (Blk.thru0 HKB.out hb4)
        have HT4 := Lib.hid (HT3.out.below hb4)
        have HB4 := Lib.hid (below_trans HB3.out hb4)
        clear hb4 HFI HKB HT3 HB3 r0 r1 r2 r3 r4 r5 r6 r7 r8 r9
        have r0 := HKB4.out.cell 0
        have r1 := HKB4.out.cell 1
        have r2 := HKB4.out.cell 2
        have r3 := HKB4.out.cell 3
        have r4 := HKB4.out.cell 4
        have r5 := HKB4.out.cell 5
        have r6 := HKB4.out.cell 6
        have r7 := HKB4.out.cell 7
        have r8 := HKB4.out.cell 8
        have r9 := HKB4.out.cell 9
        simp only [List.getElem?_toArray, List.getElem?_cons_zero, List.getElem?_cons_succ] at r0 r1 r2 r3 r4 r5 r6 r7 r8 r9
        by_cases hF : F < 0
        · have hFd : decide (F < 0) = true := by simpa using hF
          have HZ := Lib.hid (HNF.out hF)
          clear hF HAF HPU
          go_wp2
          go_ret2
          exact .inr ⟨HZ.out, rfl, HB4.out⟩
        · have hFd : decide (F < 0) = false := by simpa using hF
          have HF0 := Lib.hid (show 0 ≤ F by omega)
          clear hF
          have HXB := HB4
          have HXT := HT4
          have HAG := Lib.hid (HAF.out _ HXB.out HXT.out (.inr HF0.out))
          have HTE := Lib.hid (fun (v' : Value) (w' : World) (L' : List Tk) (t : TS y v0 _ v' L' w') => below_ke HXB.out t.ke HY.out HV.out HXB.out.size)
          clear HAF
          by_cases he : EE = 0
          · have hee : (EE != 0) = false := by simpa using he
            have HEZ := Lib.hid he
            clear he
            go_wp2_with fail
            refine (HPU.out _ HXT.out).mono ?_
            rintro e w5 ⟨v5, rfl, ht⟩
            have HZ := Lib.hid (HAG.out _ _ ht HEZ.out)
            clear ht HAG HPU HTE
            go_wp2
            go_roundw
            case rel => exact ⟨j + 1, v5, by omega, by have := HZ.out.1; omega, by go_num, HZ.out.2.1, HZ.out.2.2.1, HZ.out.2.2.2.1, HZ.out.2.2.2.2.1, HZ.out.2.2.2.2.2⟩
            case measure => simp [intOf]; omega
          · have hee : (EE != 0) = true := by simpa using he
            have HEZ := Lib.hid (show ¬ FromOk L from HNO.out fun h9 => he (by rw [← HEE.out]; exact h9.2))
            clear he
            go_wp2_with fail
            refine (HPU.out _ HXT.out).mono ?_
            rintro e w5 ⟨v5, rfl, ht⟩
            have HZ := Lib.hid (HTE.out _ _ _ ht)
            clear ht HAG HPU HTE
            go_wp2
            go_ret2
            exact .inr ⟨HEZ.out, rfl, HZ.out⟩
    · obtain rfl : j = n := by omega
      have HF := Lib.hid (show FromOk L from fun k hk => HO.out k hk (by rw [HN.out]; exact hk))
      have HTL := Lib.hid (show L.take j = L from List.take_of_length_le (by rw [← HN.out]; omega))
      rw [HTL.out] at HT HK
      go_wp2
      go_ret2
      exact .inl ⟨HF.out, y, v0, rfl, HB.out, HT.out, HK.out, HY.out, HV.out⟩
end Go.Proofs.Ytmlmndaflgfdkaa
