/- queue: the library's down, by contract. -/
import Derived.Test.YtdmmglnpeoeicaaQHeap
namespace Go.Proofs.Ytdmmglnpeoeicaa
set_option linter.unusedVariables false
set_option linter.unusedSimpArgs false
open Go.RowKit
def DownPost (q g cap n : Nat) (L : List En) (w : World) (e : Ending) (w' : World) : Prop :=
  ∃ (b : Bool) (L' : List En), e = .returned (.bool b) ∧ L'.Perm L ∧ (∀ m, n ≤ m → at_ L' m = at_ L m) ∧ HeapTo n L' ∧ HG w' q g cap L' ∧ Turned q (some g) w w'
theorem ret_ends {P : Ending → World → Prop} {a b : Bool} {w : World} (h : P (.returned (.bool a)) w) (e : a = b) : P (.returned (.bool b)) w := e ▸ h
set_option maxHeartbeats 4000000 in
theorem down_any (q g cap n : Nat) (L : List En) (w : World) (h : HG w q g cap L) (hu : DownInv n L 0) (hn : n ≤ L.length) (hlen : L.length ≤ 2305843009213693951) : Calls Try.prog 31 #[.iface 52 (.pointer (some ⟨q, 0, none⟩)), .int .i64 0, .int .i64 (n : Int)] w fun e w' => DownPost q g cap n L w e w' := by
  have hst : ∃ L', L'.Perm L ∧ DownInv n L' 0 ∧ (∀ m, n ≤ m → at_ L' m = at_ L m) ∧ HG w q g cap L' ∧ Turned q (some g) w w := ⟨L, List.Perm.refl _, hu, fun _ _ => rfl, h, Turned.refl _ _ _⟩
  have HST := Lib.hid hst; clear hst h hu
  have hn9 : (n : Int) ≤ 2305843009213693951 := by omega
  go_enter Try.func31, Try.ntmps31
  go_wp2
  go_loopw [7] (fun j wr => ∃ k : Nat, j = .int .i64 k ∧ k ≤ n ∧ Hid (∃ L', L'.Perm L ∧ DownInv n L' k ∧ (∀ m, n ≤ m → at_ L' m = at_ L m) ∧ HG wr q g cap L' ∧ Turned q (some g) w wr)) (fun j _ => n - (intOf j).toNat)
  case atStart => exact ⟨0, rfl, Nat.zero_le _, HST⟩
  case round =>
    clear HST
    obtain ⟨k, rfl, hkn, hrel⟩ := hrel
    obtain ⟨L', hperm, hinv, hat, hg, htu⟩ := hrel.out
    clear hrel
    have hll : L'.length = L.length := hperm.length_eq
    have hnl : n ≤ L'.length := by omega
    have HP := Lib.hid hperm; have HI := Lib.hid hinv; have HGa := Lib.hid hg; have HTa := Lib.hid htu; have HA := Lib.hid hat
    clear hperm hinv hg htu hat hll
    have hk9 : (k : Int) ≤ 2305843009213693951 := by omega
    by_cases hov : 2 * k + 1 < n
    · obtain ⟨hc1, hc2, hc3⟩ := kid_lt (L := L') hov
      have HST2 := Lib.hid (fun hl => HI.out.step hov hnl hl)
      have HDN := Lib.hid (fun hl => HI.out.done hov hl)
      have HKD := Lib.hid (show kid n L' k = if 2 * k + 2 < n ∧ LtE (at_ L' (2 * k + 2)) (at_ L' (2 * k + 1)) then 2 * k + 2 else 2 * k + 1 from rfl)
      have e1 : 2 * (k : Int) + 1 = ((2 * k + 1 : Nat) : Int) := by omega
      have e2 : ((2 * k + 1 : Nat) : Int) + 1 = ((2 * k + 2 : Nat) : Int) := by omega
      have b1 : 2 * k + 1 ≤ 2 * k + 1 := Nat.le_refl _
      have b2 : 2 * k + 2 ≤ 2 * k + 2 := Nat.le_refl _
      have d1 : k < 2 * k + 1 := by omega
      have d2 : k < 2 * k + 2 := by omega
      have d3 : 2 * k + 2 ≤ 2 * k + 1 + 1 := by omega
      have d4 : 2 * k + 1 + 1 ≤ 2 * k + 2 := by omega
      clear hc1 hc2 hc3 b1 b2
      generalize 2 * k + 2 = c2 at *
      generalize 2 * k + 1 = c1 at *
      have hovi : ¬ (n : Int) ≤ (c1 : Int) := by omega
      have hc10 : ¬ (c1 : Int) < 0 := by omega
      by_cases hc2 : c2 < n
      · have hc2i : (c2 : Int) < (n : Int) := by omega
        have hm0 := fun F => meth_less F q wr _ HGa.out.cell
        by_cases hlt : LtE (at_ L' c2) (at_ L' c1)
        · have HKID := Lib.hid (show kid n L' k = c2 by rw [HKD.out, if_pos ⟨hc2, hlt⟩])
          have hE := eless_any g cap c2 c1 L' wr HGa.out.2 (by omega) (by omega)
          rw [ltE_true.2 hlt] at hE
          have HE := Lib.hid hE; clear hE
          go_wp2_with fail
          refine HE.out.mono ?_
          rintro e w2 ⟨rfl, hb⟩
          have HGb := Lib.hid (HGa.out.below hb)
          have HTb := Lib.hid (HTa.out.trans (Turned.of_below (q := q) (r := some g) hb) (.inl rfl))
          clear hm0 hb HGa HTa HE HKD
          have HGa := Lib.hid HGb.out; have HTa := Lib.hid HTb.out; clear HGb HTb
          have hm := fun F => meth_less F q w2 _ HGa.out.cell
          by_cases hl : LtE (at_ L' c2) (at_ L' k)
          · have hE := eless_any g cap c2 k L' w2 HGa.out.2 (by omega) (by omega)
            rw [ltE_true.2 hl] at hE
            have HE := Lib.hid hE; clear hE
            go_wp2_with fail
            refine HE.out.mono ?_
            rintro e w3 ⟨rfl, hb⟩
            have HG2 := Lib.hid (HGa.out.below hb)
            have HT2 := Lib.hid (HTa.out.trans (Turned.of_below (q := q) (r := some g) hb) (.inl rfl))
            clear hm hb
            have hm := fun F => meth_swap F q w3 _ HG2.out.cell
            go_wp2_with fail
            refine (eswap_any g cap k c2 L' w3 HG2.out.2 (by omega) (by omega)).mono ?_
            rintro e w4 ⟨rfl, hq3, hg3⟩
            have HS := Lib.hid (show DownInv n (sw L' k c2) c2 from by have := HST2.out (by rw [HKID.out]; exact hl); rw [HKID.out] at this; exact this)
            have HG3 := Lib.hid (HG2.out.swapped (sw_length L' k c2) hq3 hg3)
            have HT3 := Lib.hid (HT2.out.trans (Turned.of_grown (q := q) hg3) (.inl rfl))
            have HP3 := Lib.hid ((sw_perm (L := L') (i := k) (j := c2) (by omega) (by omega)).trans HP.out)
            have HA3 := Lib.hid (show ∀ m, n ≤ m → at_ (sw L' k c2) m = at_ L m from fun m hm => by rw [at_sw (by omega) (by omega), if_neg (by omega), if_neg (by omega)]; exact HA.out m hm)
            clear hm hq3 hg3
            go_wp2
            go_roundw
            case rel => exact ⟨c2, rfl, by omega, Lib.hid ⟨_, HP3.out, HS.out, HA3.out, HG3.out, HT3.out⟩⟩
            case measure => simp [intOf]; omega
          · have hE := eless_any g cap c2 k L' w2 HGa.out.2 (by omega) (by omega)
            rw [ltE_false.2 hl] at hE
            have HE := Lib.hid hE; clear hE
            go_wp2_with fail
            refine HE.out.mono ?_
            rintro e w3 ⟨rfl, hb⟩
            have HE2 := Lib.hid (show ∀ b : Bool, DownPost q g cap n L w (.returned (.bool b)) w3 from fun b => ⟨b, L', rfl, HP.out, HA.out, HDN.out (by rw [HKID.out]; exact hl), HGa.out.below hb, HTa.out.trans (Turned.of_below (q := q) (r := some g) hb) (.inl rfl)⟩)
            clear hm hb
            by_cases hk0 : 0 < k
            · have hk0i : (0 : Int) < (k : Int) := by omega
              go_wp2
              go_ret
              exact HE2.out _
            · have hk0i : ¬ (0 : Int) < (k : Int) := by omega
              go_wp2
              go_ret
              exact HE2.out _
        · have HKID := Lib.hid (show kid n L' k = c1 by rw [HKD.out, if_neg (fun h => hlt h.2)])
          have hE := eless_any g cap c2 c1 L' wr HGa.out.2 (by omega) (by omega)
          rw [ltE_false.2 hlt] at hE
          have HE := Lib.hid hE; clear hE
          go_wp2_with fail
          refine HE.out.mono ?_
          rintro e w2 ⟨rfl, hb⟩
          have HGb := Lib.hid (HGa.out.below hb)
          have HTb := Lib.hid (HTa.out.trans (Turned.of_below (q := q) (r := some g) hb) (.inl rfl))
          clear hm0 hb HGa HTa HE HKD
          have HGa := Lib.hid HGb.out; have HTa := Lib.hid HTb.out; clear HGb HTb
          have hm := fun F => meth_less F q w2 _ HGa.out.cell
          by_cases hl : LtE (at_ L' c1) (at_ L' k)
          · have hE := eless_any g cap c1 k L' w2 HGa.out.2 (by omega) (by omega)
            rw [ltE_true.2 hl] at hE
            have HE := Lib.hid hE; clear hE
            go_wp2_with fail
            refine HE.out.mono ?_
            rintro e w3 ⟨rfl, hb⟩
            have HG2 := Lib.hid (HGa.out.below hb)
            have HT2 := Lib.hid (HTa.out.trans (Turned.of_below (q := q) (r := some g) hb) (.inl rfl))
            clear hm hb
            have hm := fun F => meth_swap F q w3 _ HG2.out.cell
            go_wp2_with fail
            refine (eswap_any g cap k c1 L' w3 HG2.out.2 (by omega) (by omega)).mono ?_
            rintro e w4 ⟨rfl, hq3, hg3⟩
            have HS := Lib.hid (show DownInv n (sw L' k c1) c1 from by have := HST2.out (by rw [HKID.out]; exact hl); rw [HKID.out] at this; exact this)
            have HG3 := Lib.hid (HG2.out.swapped (sw_length L' k c1) hq3 hg3)
            have HT3 := Lib.hid (HT2.out.trans (Turned.of_grown (q := q) hg3) (.inl rfl))
            have HP3 := Lib.hid ((sw_perm (L := L') (i := k) (j := c1) (by omega) (by omega)).trans HP.out)
            have HA3 := Lib.hid (show ∀ m, n ≤ m → at_ (sw L' k c1) m = at_ L m from fun m hm => by rw [at_sw (by omega) (by omega), if_neg (by omega), if_neg (by omega)]; exact HA.out m hm)
            clear hm hq3 hg3
            go_wp2
            go_roundw
            case rel => exact ⟨c1, rfl, by omega, Lib.hid ⟨_, HP3.out, HS.out, HA3.out, HG3.out, HT3.out⟩⟩
            case measure => simp [intOf]; omega
          · have hE := eless_any g cap c1 k L' w2 HGa.out.2 (by omega) (by omega)
            rw [ltE_false.2 hl] at hE
            have HE := Lib.hid hE; clear hE
            go_wp2_with fail
            refine HE.out.mono ?_
            rintro e w3 ⟨rfl, hb⟩
            have HE2 := Lib.hid (show ∀ b : Bool, DownPost q g cap n L w (.returned (.bool b)) w3 from fun b => ⟨b, L', rfl, HP.out, HA.out, HDN.out (by rw [HKID.out]; exact hl), HGa.out.below hb, HTa.out.trans (Turned.of_below (q := q) (r := some g) hb) (.inl rfl)⟩)
            clear hm hb
            by_cases hk0 : 0 < k
            · have hk0i : (0 : Int) < (k : Int) := by omega
              go_wp2
              go_ret
              exact HE2.out _
            · have hk0i : ¬ (0 : Int) < (k : Int) := by omega
              go_wp2
              go_ret
              exact HE2.out _
      · have hc2i : ¬ (c2 : Int) < (n : Int) := by omega
        have HKID := Lib.hid (show kid n L' k = c1 by rw [HKD.out, if_neg (fun h => hc2 h.1)])
        clear HKD
        have hm := fun F => meth_less F q wr _ HGa.out.cell
        by_cases hl : LtE (at_ L' c1) (at_ L' k)
        · have hE := eless_any g cap c1 k L' wr HGa.out.2 (by omega) (by omega)
          rw [ltE_true.2 hl] at hE
          have HE := Lib.hid hE; clear hE
          go_wp2_with fail
          refine HE.out.mono ?_
          rintro e w3 ⟨rfl, hb⟩
          have HG2 := Lib.hid (HGa.out.below hb)
          have HT2 := Lib.hid (HTa.out.trans (Turned.of_below (q := q) (r := some g) hb) (.inl rfl))
          clear hm hb
          have hm := fun F => meth_swap F q w3 _ HG2.out.cell
          go_wp2_with fail
          refine (eswap_any g cap k c1 L' w3 HG2.out.2 (by omega) (by omega)).mono ?_
          rintro e w4 ⟨rfl, hq3, hg3⟩
          have HS := Lib.hid (show DownInv n (sw L' k c1) c1 from by have := HST2.out (by rw [HKID.out]; exact hl); rw [HKID.out] at this; exact this)
          have HG3 := Lib.hid (HG2.out.swapped (sw_length L' k c1) hq3 hg3)
          have HT3 := Lib.hid (HT2.out.trans (Turned.of_grown (q := q) hg3) (.inl rfl))
          have HP3 := Lib.hid ((sw_perm (L := L') (i := k) (j := c1) (by omega) (by omega)).trans HP.out)
          have HA3 := Lib.hid (show ∀ m, n ≤ m → at_ (sw L' k c1) m = at_ L m from fun m hm => by rw [at_sw (by omega) (by omega), if_neg (by omega), if_neg (by omega)]; exact HA.out m hm)
          clear hm hq3 hg3
          go_wp2
          go_roundw
          case rel => exact ⟨c1, rfl, by omega, Lib.hid ⟨_, HP3.out, HS.out, HA3.out, HG3.out, HT3.out⟩⟩
          case measure => simp [intOf]; omega
        · have hE := eless_any g cap c1 k L' wr HGa.out.2 (by omega) (by omega)
          rw [ltE_false.2 hl] at hE
          have HE := Lib.hid hE; clear hE
          go_wp2_with fail
          refine HE.out.mono ?_
          rintro e w3 ⟨rfl, hb⟩
          have HE2 := Lib.hid (show ∀ b : Bool, DownPost q g cap n L w (.returned (.bool b)) w3 from fun b => ⟨b, L', rfl, HP.out, HA.out, HDN.out (by rw [HKID.out]; exact hl), HGa.out.below hb, HTa.out.trans (Turned.of_below (q := q) (r := some g) hb) (.inl rfl)⟩)
          clear hm hb
          by_cases hk0 : 0 < k
          · have hk0i : (0 : Int) < (k : Int) := by omega
            go_wp2
            go_ret
            exact HE2.out _
          · have hk0i : ¬ (0 : Int) < (k : Int) := by omega
            go_wp2
            go_ret
            exact HE2.out _
    · have hovi : (n : Int) ≤ 2 * (k : Int) + 1 := by omega
      have HE2 := Lib.hid (show ∀ b : Bool, DownPost q g cap n L w (.returned (.bool b)) wr from fun b => ⟨b, L', rfl, HP.out, HA.out, HI.out.over (by omega), HGa.out, HTa.out⟩)
      by_cases hk0 : 0 < k
      · have hk0i : (0 : Int) < (k : Int) := by omega
        go_wp2
        go_ret
        exact HE2.out _
      · have hk0i : ¬ (0 : Int) < (k : Int) := by omega
        go_wp2
        go_ret
        exact HE2.out _
end Go.Proofs.Ytdmmglnpeoeicaa
