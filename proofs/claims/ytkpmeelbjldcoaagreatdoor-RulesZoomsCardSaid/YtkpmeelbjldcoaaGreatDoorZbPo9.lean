/- Texts: Po9. -/
import Derived.Test.YtkpmeelbjldcoaaGreatDoorZbPo8
import Derived.Lib.ItoaLen
namespace Go.Proofs.YtkpmeelbjldcoaaGreatDoor
set_option linter.unusedVariables false
set_option linter.unusedSimpArgs false
open Go.RowKit
def I64 (n : Int) : Prop := -9223372036854775808 ≤ n ∧ n ≤ 9223372036854775807
theorem itoa_any {v : Int} (h : I64 v) {w : World} (hV : Vs w) : Calls Tryz.prog 135 #[.int .i64 v] w fun e w' => e = .returned (.string (bs (Lib.itoa v))) ∧ Below w.heap.size w w' := by
  refine (Tryz.strconv_Itoa v h.1 h.2 w hV.tab).mono ?_
  rintro e w' ⟨rfl, k, os, rfl⟩
  exact ⟨rfl, below_grow_ _ _ _⟩
theorem bs_app (a b : Bs) : bs a ++ bs b = bs (a ++ b) := by
  apply ByteArray.ext
  simp [bs, ByteArray.data_append]
theorem itoa_size {n : Int} (h : I64 n) : (bs (Lib.itoa n)).size ≤ 21 := by rw [bs_size]; exact Lib.itoa_length_le n h.1 h.2
theorem nil_isEmpty : (bs []).toList.isEmpty = true := by rw [List.isEmpty_iff, ByteArray.toList_eq]; rfl
def txWho (w : Wh) (s : Bs) : Bs := if w.any = true then s else if w.nm = [] then Lib.itoa w.n else w.nm
def txTiers (lo hi : Int) : Bs := if lo = 0 ∧ hi = 7 then wAny else if lo = hi then Lib.itoa lo else Lib.itoa lo ++ (mUp ++ Lib.itoa hi)
set_option maxRecDepth 100000 in
theorem txwho_any (h : Wh) (s : Bs) (w : World) (hV : Vs w) (hn : I64 h.n) :
    Calls Tryz.prog 93 #[.agg #[.bool h.any, .string (bs h.nm), .int .i64 h.n, .int .i64 h.p.1, .int .i64 h.p.2], .string (bs s)] w fun e w' => e = .returned (.string (bs (txWho h s))) ∧ Below w.heap.size w w' := by
  have HB := Lib.hid (show Below w.heap.size w (w.alloc (.cells #[.bool h.any, .string (bs h.nm), .int .i64 h.n, .int .i64 h.p.1, .int .i64 h.p.2] 39)) from (Below.refl _ _).alloc (Nat.le_refl _) _)
  have HI := Lib.hid (itoa_any hn (hV.below HB.out))
  have HT := Lib.hid (show txWho h s = if h.any = true then s else if h.nm = [] then Lib.itoa h.n else h.nm from rfl)
  clear hV hn
  cases ha : h.any with
  | true =>
    have HX := Lib.hid (show txWho h s = s by rw [HT.out, ha]; rfl)
    rw [ha] at HB
    go_enter Tryz.func93, Tryz.ntmps93
    go_wp2_with fail
    go_ret
    exact ⟨by rw [HX.out]; rfl, HB.out⟩
  | false =>
    rw [ha] at HB HI
    by_cases hm : h.nm = []
    · have HX := Lib.hid (show txWho h s = Lib.itoa h.n by rw [HT.out, ha, hm]; rfl)
      have he : (bs h.nm).toList.isEmpty = true := by rw [hm]; exact nil_isEmpty
      clear hm
      go_enter Tryz.func93, Tryz.ntmps93
      go_wp2_with fail
      refine HI.out.mono ?_
      rintro e w1 ⟨rfl, hb⟩
      have HB1 := Lib.hid (HB.out.trans (hb.mono HB.out.size))
      clear hb
      go_wp2_with fail
      go_ret
      exact ⟨by rw [HX.out]; rfl, HB1.out⟩
    · have HX := Lib.hid (show txWho h s = h.nm by rw [HT.out, ha]; simp [hm])
      have he : (bs h.nm).toList.isEmpty = false := by
        cases hq : (bs h.nm).toList.isEmpty with
        | false => rfl
        | true =>
          exfalso
          refine hm (bs_inj (toList_inj ?_))
          rw [List.isEmpty_iff.1 hq]; exact (List.isEmpty_iff.1 nil_isEmpty).symm
      clear hm
      go_enter Tryz.func93, Tryz.ntmps93
      go_wp2_with fail
      go_ret
      exact ⟨by rw [HX.out]; rfl, HB.out⟩
set_option maxRecDepth 100000 in
theorem txtiers_any (lo hi : Int) (w : World) (hV : Vs w) (hl : I64 lo) (hh : I64 hi) :
    Calls Tryz.prog 94 #[.int .i64 lo, .int .i64 hi] w fun e w' => e = .returned (.string (bs (txTiers lo hi))) ∧ Below w.heap.size w w' := by
  have HL := Lib.hid (fun W hV => itoa_any (w := W) hl hV)
  have HH := Lib.hid (fun W hV => itoa_any (w := W) hh hV)
  have HV := Lib.hid hV
  have hs1 : ¬ 9223372036854775807 < (bs (Lib.itoa lo)).size + 2 := by have := itoa_size hl; omega
  have hs2 : ¬ 9223372036854775807 < (bs (Lib.itoa lo)).size + 2 + (bs (Lib.itoa hi)).size := by have := itoa_size hl; have := itoa_size hh; omega
  clear hV hl hh
  by_cases h0 : lo = 0 ∧ hi = 7
  · obtain ⟨rfl, rfl⟩ := h0
    go_enter Tryz.func94, Tryz.ntmps94
    go_wp2_with fail
    go_ret
    exact ⟨rfl, Below.refl _ _⟩
  · by_cases h1 : lo = hi
    · subst h1
      have HX := Lib.hid (show txTiers lo lo = Lib.itoa lo by unfold txTiers; rw [if_neg h0, if_pos rfl])
      have hz : ((lo == 0) && (lo == 7)) = false := by
        cases h2 : lo == 0
        · rfl
        · have : lo = 0 := by simpa using h2
          subst this; rfl
      have hz2 : (lo == 0) = true → (lo == 7) = false := fun h => by simpa [h] using hz
      clear h0 hz
      cases h2 : lo == 0 with
      | false =>
        clear hz2
        go_enter Tryz.func94, Tryz.ntmps94
        go_wp2_with fail
        refine (HL.out w HV.out).mono ?_
        rintro e w1 ⟨rfl, hb⟩
        have HB1 := Lib.hid hb
        clear hb
        go_wp2_with fail
        go_ret
        exact ⟨by rw [HX.out]; rfl, HB1.out⟩
      | true =>
        have h7 := hz2 h2
        clear hz2
        go_enter Tryz.func94, Tryz.ntmps94
        go_wp2_with fail
        refine (HL.out w HV.out).mono ?_
        rintro e w1 ⟨rfl, hb⟩
        have HB1 := Lib.hid hb
        clear hb
        go_wp2_with fail
        go_ret
        exact ⟨by rw [HX.out]; rfl, HB1.out⟩
    · have HX := Lib.hid (show txTiers lo hi = Lib.itoa lo ++ (mUp ++ Lib.itoa hi) by unfold txTiers; rw [if_neg h0, if_neg h1])
      have hne : (lo == hi) = false := beq_eq_false_iff_ne.2 h1
      have hz2 : (lo == 0) = true → (hi == 7) = false := fun h => beq_eq_false_iff_ne.2 fun e => h0 ⟨by simpa using h, e⟩
      clear h0 h1
      cases h2 : lo == 0 with
      | false =>
        clear hz2
        go_enter Tryz.func94, Tryz.ntmps94
        go_wp2_with fail
        refine (HL.out w HV.out).mono ?_
        rintro e w1 ⟨rfl, hb⟩
        have HB1 := Lib.hid hb
        have HV1 := Lib.hid (HV.out.below hb)
        clear hb
        go_wp2_with fail
        refine (HH.out w1 HV1.out).mono ?_
        rintro e w2 ⟨rfl, hb⟩
        have HB2 := Lib.hid (HB1.out.trans (hb.mono HB1.out.size))
        clear hb
        go_wp2_with fail
        go_ret
        exact ⟨by rw [HX.out, ← bs_app, ← bs_app, ← ByteArray.append_assoc]; rfl, HB2.out⟩
      | true =>
        have h7 := hz2 h2
        clear hz2
        go_enter Tryz.func94, Tryz.ntmps94
        go_wp2_with fail
        refine (HL.out w HV.out).mono ?_
        rintro e w1 ⟨rfl, hb⟩
        have HB1 := Lib.hid hb
        have HV1 := Lib.hid (HV.out.below hb)
        clear hb
        go_wp2_with fail
        refine (HH.out w1 HV1.out).mono ?_
        rintro e w2 ⟨rfl, hb⟩
        have HB2 := Lib.hid (HB1.out.trans (hb.mono HB1.out.size))
        clear hb
        go_wp2_with fail
        go_ret
        exact ⟨by rw [HX.out, ← bs_app, ← bs_app, ← ByteArray.append_assoc]; rfl, HB2.out⟩
set_option maxRecDepth 100000 in
set_option maxHeartbeats 2000000 in
theorem putnums_any (w : World) (B b : Nat) (F : List Bs) (N : List Int) (A : Option Addr) (c : Nat) (hV : Vs w) (h : FormAt w B b F) (hN : EOwn elI w (.slice A N.length c) N) (hB : B ≤ w.heap.size) (hl : F.length + N.length ≤ 1000000) (hi : ∀ n ∈ N, I64 n)
    (hVB : ∀ w', Below B w w' → Vs w') :
    Calls Tryz.prog 92 #[.pointer (some ⟨b, 0, none⟩), .slice A N.length c] w (PutP w B b (F ++ N.map Lib.itoa)) := by
  have HST := Lib.hid (show FormAt w B b (F ++ (N.take 0).map Lib.itoa) ∧ Below B w w ∧ Keep w w from ⟨by simpa using h, Below.refl _ _, Keep.refl _⟩)
  have HN := Lib.hid hN
  have HB := Lib.hid hB
  have HL := Lib.hid hl
  have HI := Lib.hid hi
  have HV := Lib.hid hVB
  clear hV h hN hB hl hi hVB
  go_enter Tryz.func92, Tryz.ntmps92
  go_wp2_with fail
  go_loopw [8] (fun i wr => ∃ k : Nat, k ≤ N.length ∧ i = .int .i64 k ∧ Hid (FormAt wr B b (F ++ (N.take k).map Lib.itoa) ∧ Below B w wr ∧ Keep w wr)) (fun i _ => N.length - (intOf i).toNat)
  case atStart => exact ⟨0, by omega, rfl, HST⟩
  case round =>
    clear HST
    obtain ⟨k, hk, rfl, HR⟩ := hrel
    by_cases hlt : k < N.length
    · have hki : (k : Int) < (N.length : Int) := by omega
      have hkb : (k : Int) < 1000000 := by have := HL.out; omega
      have hx : N[k]? = some N[k] := List.getElem?_eq_getElem hlt
      have HNr := Lib.hid (show EOwn elI wr (.slice A N.length c) N by
        rcases HN.out with ⟨e, h2⟩ | ⟨g, cap, e, cur, h5, h6⟩
        · exact .inl ⟨e, h2⟩
        · exact .inr ⟨g, cap, e, cur, HR.out.2.2 g _ _ h5 (by decide) (by decide), h6⟩)
      obtain ⟨_, g, rfl, hc⟩ := EOwn.cell elI_ok HNr.out hx
      have hcell : wr.cell? ⟨g, k, none⟩ = some (.int .i64 N[k]) := by simpa [elI] using hc 0 _ rfl
      have HXI := Lib.hid (HI.out _ (List.getElem_mem hlt))
      have HE := Lib.hid (show F ++ (N.take (k + 1)).map Lib.itoa = (F ++ (N.take k).map Lib.itoa) ++ [Lib.itoa N[k]] by rw [List.take_add_one, hx]; simp only [Option.toList_some, List.map_append, List.map_cons, List.map_nil, List.append_assoc])
      have HVr := Lib.hid (HV.out wr HR.out.2.1)
      clear hc hx
      generalize N[k] = x at *
      go_wp2_with fail
      refine (itoa_any HXI.out HVr.out).mono ?_
      rintro e w1 ⟨rfl, hb⟩
      have HA1 := Lib.hid (hb.trans ((Below.refl _ _).alloc hb.size (.cells #[.string (bs (Lib.itoa x))] 9)))
      have HO1 := Lib.hid (EOwn.block (M := [Lib.itoa x]) elS_ok (Blk.new w1 9 #[.string (bs (Lib.itoa x))]) rfl (by simp))
      clear hb
      go_wp2_with fail
      refine (put_any _ B b (F ++ (N.take k).map Lib.itoa) [Lib.itoa x] (some ⟨w1.heap.size, 0, none⟩) 1 (HR.out.1.below HA1.out) HO1.out (by have := HR.out.2.1.size; have := HA1.out.size; have := HB.out; omega) (by have := HL.out; simp; omega)).mono ?_
      rintro e w2 ⟨rfl, h2, h3, h4⟩
      have HN2 := Lib.hid (show FormAt w2 B b (F ++ (N.take (k + 1)).map Lib.itoa) ∧ Below B w w2 ∧ Keep w w2 from ⟨by rw [HE.out]; exact h2, (HR.out.2.1.trans (HA1.out.mono (by have := HR.out.2.1.size; have := HB.out; omega))).trans h3, (HR.out.2.2.trans (Keep.of_below HA1.out)).trans h4⟩)
      clear h2 h3 h4 HA1 HO1
      go_wp2_with fail
      go_roundw
      case rel => exact ⟨k + 1, by omega, by go_num, HN2⟩
      case measure => simp [intOf]; omega
    · obtain rfl : k = N.length := by omega
      have HF := Lib.hid (show FormAt wr B b (F ++ N.map Lib.itoa) by have := HR.out.1; rwa [List.take_length] at this)
      go_wp2_with fail
      go_end0
      exact ⟨rfl, HF.out, HR.out.2.1, HR.out.2.2⟩
end Go.Proofs.YtkpmeelbjldcoaaGreatDoor
