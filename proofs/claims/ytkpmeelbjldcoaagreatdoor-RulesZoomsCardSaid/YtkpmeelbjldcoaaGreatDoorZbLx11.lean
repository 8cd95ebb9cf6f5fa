/- Texts: Lx11. -/
import Derived.Test.YtkpmeelbjldcoaaGreatDoorZbLx10
import Derived.Deep.RegionLaw
import Derived.Deep.DeepCutAuto
namespace Go.Proofs.YtkpmeelbjldcoaaGreatDoor
set_option linter.unusedVariables false
set_option linter.unusedSimpArgs false
open Go.RowKit
def TokensP (l : Bs) (w : World) (e : Ending) (w' : World) : Prop :=
  ∃ v, e = .returned (.tuple #[v, .agg #[.int .i64 (flE (toks l).2), .int .i64 (flP (toks l).2).1, .int .i64 (flP (toks l).2).2]]) ∧ EOwn elT w' v (toks l).1 ∧ Below w.heap.size w w' ∧ (∀ i, v.ownBlock = some i → w.heap.size ≤ i)
structure TlSt (w0 : World) (F : List Tk × Fl) (v : Value) (acc : List Tk) (l : Bs) (p : Pl) (W : World) : Prop where
  rd : RdS W (w0.heap.size + 1) l p
  ok : OkP l p
  flt : Blk W w0.heap.size 29 #[.int .i64 0, .int .i64 0, .int .i64 0]
  own : EOwn elT W v acc
  far : ∀ i, v.ownBlock = some i → w0.heap.size + 1 < i
  below : Below w0.heap.size w0 W
  res : F = app acc (tz (l.length + 1) l p)
  few : acc.length + l.length ≤ 512
theorem TlSt.env {w0 W : World} {F : List Tk × Fl} {v : Value} {acc : List Tk} {l : Bs} {p : Pl} (h : TlSt w0 F v acc l p W) (hV : Vs w0) : Env w0 (w0.heap.size + 1) W := ⟨hV, h.below, by omega⟩
theorem Blk.set3_ {w : World} {g : Nat} {t : TypeId} {x y z : Value} (h : Blk w g t #[x, y, z]) (a b c : Value) : Blk (((w.setCell ⟨g, 0, none⟩ a).setCell ⟨g, 1, none⟩ b).setCell ⟨g, 2, none⟩ c) g t #[a, b, c] := h.set3 a b c
theorem Below.set3 {B b : Nat} {w W : World} (h : Below B w W) (hb : B ≤ b) (x y z : Value) : Below B w (((W.setCell ⟨b, 0, none⟩ x).setCell ⟨b, 1, none⟩ y).setCell ⟨b, 2, none⟩ z) := ((h.setCell (p := ⟨b, 0, none⟩) hb x).setCell (p := ⟨b, 1, none⟩) hb y).setCell (p := ⟨b, 2, none⟩) hb z
theorem EOwn.far3 {α : Type} {E : El α} {W : World} {v : Value} {L : List α} {b : Nat} (h : EOwn E W v L) (hb : ∀ i, v.ownBlock = some i → i ≠ b) (x y z : Value) : EOwn E (((W.setCell ⟨b, 0, none⟩ x).setCell ⟨b, 1, none⟩ y).setCell ⟨b, 2, none⟩ z) v L :=
  h.keep fun i hi e => by
    rw [Below.heap_setCell _ _ _ _ (by show i ≠ b; exact hb i e), Below.heap_setCell _ _ _ _ (by show i ≠ b; exact hb i e), Below.heap_setCell _ _ _ _ (by show i ≠ b; exact hb i e)]
theorem below_drew1 {B : Nat} {a w : World} (h : Below B a w) : Below B a w.drew := ⟨h.os, h.tape, h.output, h.size, h.block⟩
theorem tz_shape (n : Nat) (l : Bs) (p : Pl) : (tz n l p).2 = none ∨ (tz n l p).1 = [] := by
  match n, l with
  | 0, _ => exact .inl rfl
  | n + 1, [] => exact .inl rfl
  | n + 1, c :: l =>
    rw [tz]
    split
    · generalize tz n _ _ = R
      obtain ⟨L, f⟩ := R
      cases f with
      | none => exact .inl rfl
      | some f => exact .inr rfl
    · exact .inr rfl
theorem tkA_take (k : Bs) : k.take (tkA k).length = tkA k := by
  have hw : ∀ f : UInt8 → Bool, k.take (k.takeWhile f).length = k.takeWhile f := fun f => (List.prefix_iff_eq_take.1 (List.takeWhile_prefix f)).symm
  unfold tkA
  split
  · exact hw _
  · split
    · exact hw _
    · unfold mkTx
      cases hm : mkF k with
      | none => rfl
      | some j =>
        have hk := List.find?_some hm
        exact (prefix_take hk).1
set_option maxRecDepth 100000 in
set_option maxHeartbeats 2000000 in
theorem tokens_any (l : Bs) (w : World) (hV : Vs w) (hlen : l.length ≤ 9223372036854775807) : Calls Tryz.prog 45 #[.string (bs l)] w fun e w' => TokensP l w e w' := by
  have hA : Below w.heap.size w ((w.alloc (.cells #[.int .i64 0, .int .i64 0, .int .i64 0] 29)).alloc (.cells #[.string (bs l), .int .i64 1, .int .i64 1] 130)) := ((Below.refl _ _).alloc (Nat.le_refl _) _).alloc (by simp) _
  have hb2 := blk_two w 29 130 #[.int .i64 0, .int .i64 0, .int .i64 0] #[.string (bs l), .int .i64 1, .int .i64 1]
  have HA := Lib.hid hA
  have HB := Lib.hid hb2
  have HV := Lib.hid hV
  have hsz : ((bs l).size : Int) = (l.length : Int) := by rw [bs_size]
  clear hA hb2 hV
  by_cases h512 : 512 < l.length
  · have hgt : (512 : Int) < (l.length : Int) := by omega
    have HE := Lib.hid (show toks l = ([], some (2, (1, 1))) by rw [toks, if_pos h512])
    go_enter Tryz.func45, Tryz.ntmps45
    go_wp2_with fail
    generalize ((w.alloc (.cells #[.int .i64 0, .int .i64 0, .int .i64 0] 29)).alloc (.cells #[.string (bs l), .int .i64 1, .int .i64 1] 130)) = W at *
    have j1 : _ = some (Value.int .i64 1) := HB.out.2.cell 1
    have j2 : _ = some (Value.int .i64 1) := HB.out.2.cell 2
    have u0 : _ = some (Value.int .i64 0) := HB.out.1.cell 0
    have u1 : _ = some (Value.int .i64 0) := HB.out.1.cell 1
    have u2 : _ = some (Value.int .i64 0) := HB.out.1.cell 2
    have f0 := HB.out.1.frozen 0
    have f1 := HB.out.1.frozen 1
    have f2 := HB.out.1.frozen 2
    go_region
    have HBF := Lib.hid (Below.set3 (b := w.heap.size) (below_drew1 HA.out) (Nat.le_refl _) (.int .i64 2) (.int .i64 1) (.int .i64 1))
    go_wp2_with fail
    refine bodyPost_ret (v := .tuple #[.slice none 0 0, .agg #[.int .i64 2, .int .i64 1, .int .i64 1]]) ?_ rfl ⟨.slice none 0 0, by rw [HE.out]; rfl, by rw [HE.out]; exact EOwn.nil_ _, HBF.out, fun i hi => by simp [Value.ownBlock] at hi⟩
    simp [results, Tryz.results45, go_sem, *]
  · have hgt : (l.length : Int) ≤ 512 := by omega
    have HE := Lib.hid (show toks l = tz (l.length + 1) (skp false l (1, 1)).1 (skp false l (1, 1)).2 by rw [toks, if_neg h512])
    have HOK := Lib.hid (show OkP l (1, 1) by unfold OkP; simp only; omega)
    go_enter Tryz.func45, Tryz.ntmps45
    go_wp2_with fail
    generalize hW : ((w.alloc (.cells #[.int .i64 0, .int .i64 0, .int .i64 0] 29)).alloc (.cells #[.string (bs l), .int .i64 1, .int .i64 1] 130)) = W at *
    clear hW
    have HSK := Lib.hid (skip_any W (w.heap.size + 1) l (1, 1) HB.out.2 HOK.out)
    unfold SkipP at HSK
    have HSL := Lib.hid (skp_len false l (1, 1))
    generalize hFT : toks l = F at *
    have HFT := Lib.hid hFT
    clear hFT
    generalize skp false l (1, 1) = s at *
    refine HSK.out.mono ?_
    rintro e w1 ⟨rfl, hrd1, hbut1, hok1⟩
    have HS0 := Lib.hid (show TlSt w F (.slice none 0 0) [] s.1 s.2 w1 from ⟨hrd1, hok1, Blk.but HB.out.1 hbut1 (by omega), EOwn.nil_ _, fun i hi => by simp [Value.ownBlock] at hi, Below.but HA.out hbut1 (by omega) (Nat.le_refl _), by
      rw [HE.out, tz_more _ (s.1.length + 1) _ _ (by have := HSL.out; omega) (by omega), app_nil _ (tz_shape _ _ _)], by have := HSL.out; simp; omega⟩)
    clear hrd1 hbut1 hok1 HE HSK HSL HB HA HOK
    go_wp2_with fail
    go_loopw [5] (fun v wr => ∃ acc k q, Hid (TlSt w F v acc k q wr)) (fun _ wr => leftN (w.heap.size + 1) wr)
    case atStart => exact ⟨[], _, _, HS0⟩
    case round =>
      obtain ⟨acc, k, q, HS⟩ := hrel
      have HM := Lib.hid (more_any wr (w.heap.size + 1) k q HS.out.rd)
      by_cases hk : k = []
      · subst hk
        have HF := Lib.hid (show F = (acc, none) by rw [HS.out.res, tz_nil]; simp [app])
        have he : (!([] : Bs).isEmpty) = false := rfl
        rw [he] at HM
        clear he
        go_wp2_with fail
        refine HM.out.mono ?_
        rintro e w9 ⟨rfl, hw9⟩
        subst hw9
        have u0 : _ = some (Value.int .i64 0) := HS.out.flt.cell 0
        have u1 : _ = some (Value.int .i64 0) := HS.out.flt.cell 1
        have u2 : _ = some (Value.int .i64 0) := HS.out.flt.cell 2
        have f0 := HS.out.flt.frozen 0
        have f1 := HS.out.flt.frozen 1
        have f2 := HS.out.flt.frozen 2
        go_wp2_with fail
        have HBF := Lib.hid (Below.set3 (b := w.heap.size) HS.out.below (Nat.le_refl _) (.int .i64 0) (.int .i64 0) (.int .i64 0))
        have HOF := Lib.hid (EOwn.far3 (b := w.heap.size) HS.out.own (fun i hi => by have := HS.out.far i hi; omega) (.int .i64 0) (.int .i64 0) (.int .i64 0))
        have HFR := Lib.hid HS.out.far
        refine bodyPost_ret (v := .tuple #[u5, .agg #[.int .i64 0, .int .i64 0, .int .i64 0]]) ?_ rfl ⟨u5, by rw [HFT.out, HF.out]; rfl, by rw [HFT.out, HF.out]; exact HOF.out, HBF.out, fun i hi => by have := HFR.out i hi; omega⟩
        simp [results, Tryz.results45, go_sem, *]
      · have he : (!k.isEmpty) = true := by cases k with | nil => exact absurd rfl hk | cons c t => rfl
        rw [he] at HM
        clear he
        have HKN := Lib.hid hk
        clear hk
        have j1 : _ = some (Value.int .i64 q.1) := Blk.cell HS.out.rd 1
        have j2 : _ = some (Value.int .i64 q.2) := Blk.cell HS.out.rd 2
        have hal : Below wr.heap.size wr (wr.alloc (.cells #[.int .i64 q.1, .int .i64 q.2] 27)) := (Below.refl _ _).alloc (Nat.le_refl _) _
        have HP6 := Lib.hid (Blk.new wr 27 #[.int .i64 q.1, .int .i64 q.2])
        have HRD2 := Lib.hid (HS.out.rd.below hal)
        have HFL2 := Lib.hid (HS.out.flt.thru0 hal)
        have HOW2 := Lib.hid (HS.out.own.below hal)
        have HBE2 := Lib.hid (Below.trans HS.out.below (hal.mono (by have := HS.out.below.size; omega)))
        have HRL := Lib.hid (Blk.lt HS.out.rd)
        have HFAR := Lib.hid HS.out.far
        have HOKK := Lib.hid HS.out.ok
        have HTK := Lib.hid (token_any w _ (w.heap.size + 1) k q ⟨HV.out, HBE2.out, by omega⟩ HRD2.out HOKK.out)
        have HR0 := Lib.hid (show tkE k = 0 → F = app (acc ++ [⟨tkK k, tkT k, tkN k, q⟩]) (tz ((skp false (k.drop (tkA k).length) (advs q (tkA k))).1.length + 1) (skp false (k.drop (tkA k).length) (advs q (tkA k))).1 (skp false (k.drop (tkA k).length) (advs q (tkA k))).2) from fun h => by
          have hA := tkA_pos h HKN.out
          have hs := skp_len false (k.drop (tkA k).length) (advs q (tkA k))
          rw [List.length_drop] at hs
          rw [HS.out.res, tz_ok HKN.out h, app_app, tz_more _ ((skp false (k.drop (tkA k).length) (advs q (tkA k))).1.length + 1) _ _ (by omega) (by omega)])
        have HR1 := Lib.hid (show tkE k ≠ 0 → F = ([], some (tkE k, q)) from fun h => by rw [HS.out.res, tz_err HKN.out (by omega) h]; rfl)
        have HLEN := Lib.hid (show tkE k = 0 → (skp false (k.drop (tkA k).length) (advs q (tkA k))).1.length < k.length from fun h => by
          have hA := tkA_pos h HKN.out
          have hs := skp_len false (k.drop (tkA k).length) (advs q (tkA k))
          rw [List.length_drop] at hs
          omega)
        have HOKD := Lib.hid (show OkP (k.drop (tkA k).length) (advs q (tkA k)) from OkP.steps (a := tkA k) (by
          have h1 := List.take_append_drop (tkA k).length k
          rw [tkA_take] at h1
          rw [h1]; exact HOKK.out))
        have HFEW := Lib.hid HS.out.few
        have HLW := Lib.hid (leftN_of HS.out.rd)
        unfold TokP tokV at HTK
        clear hal HS
        go_wp2_with fail
        refine HM.out.mono ?_
        rintro e w9 ⟨rfl, hw9⟩
        subst hw9
        go_upto_region 9 with fail
        generalize hp6 : wr.heap.size = p6 at *
        generalize (wr.alloc (.cells #[.int .i64 q.1, .int .i64 q.2] 27)) = W2 at *
        clear j1 j2 HM
        go_wp2_with fail
        refine HTK.out.mono ?_
        rintro e w3 ⟨rfl, hrd3, hbut3⟩
        have hal : Below w3.heap.size w3 (w3.alloc (.cells #[.int .i64 (tkK k), .string (bs (tkT k)), .int .i64 (tkN k), .int .i64 0, .int .i64 0] 111)) := (Below.refl _ _).alloc (Nat.le_refl _) _
        have HP7 := Lib.hid (Blk.new w3 111 #[.int .i64 (tkK k), .string (bs (tkT k)), .int .i64 (tkN k), .int .i64 0, .int .i64 0])
        have HRD4 := Lib.hid (hrd3.below hal)
        have HFL4 := Lib.hid ((Blk.but HFL2.out hbut3 (by omega)).thru0 hal)
        have HP64 := Lib.hid ((Blk.but HP6.out hbut3 (by have := HRL.out; omega)).thru0 hal)
        have HOW4 := Lib.hid ((HOW2.out.but hbut3 (fun i hi => by have := HFAR.out i hi; omega)).below hal)
        have hB3 := Below.but HBE2.out hbut3 (by omega) (Nat.le_refl _)
        have HBE4 := Lib.hid (Below.trans hB3 (hal.mono (by have := hB3.size; omega)))
        have HZ7 := Lib.hid (show p6 < w3.heap.size by have := HP6.out.lt; have := hbut3.size; omega)
        have HOL7 := Lib.hid (show ∀ i, u5.ownBlock = some i → i < w3.heap.size from fun i hi => by have := HOW2.out.lt hi; have := hbut3.size; omega)
        clear hal hrd3 hbut3 hB3 HRD2 HFL2 HP6 HOW2 HBE2 HTK
        go_upto_region 10 with fail
        generalize hp7 : w3.heap.size = p7 at *
        generalize (w3.alloc (.cells #[.int .i64 (tkK k), .string (bs (tkT k)), .int .i64 (tkN k), .int .i64 0, .int .i64 0] 111)) = W4 at *
        have x0 : _ = some (Value.int .i64 q.1) := HP64.out.cell 0
        have x1 : _ = some (Value.int .i64 q.2) := HP64.out.cell 1
        by_cases he : tkE k = 0
        · have heb : (tkE k == 0) = true := beq_iff_eq.2 he
          have HF := Lib.hid (HR0.out he)
          have HLN := Lib.hid (HLEN.out he)
          have hOKS := HOKD.out
          clear HR0 HR1 HLEN HKN
          rw [he]
          clear he heb
          generalize hk1 : tkK k = k1 at *
          generalize ht1 : tkT k = t1 at *
          generalize hn1 : tkN k = n1 at *
          generalize k.drop (tkA k).length = kd at *
          generalize advs q (tkA k) = qd at *
          clear hk1 ht1 hn1
          have y3 : _ = some (Value.int .i64 0) := HP7.out.cell 3
          have y4 : _ = some (Value.int .i64 0) := HP7.out.cell 4
          have g3 := HP7.out.frozen 3
          have g4 := HP7.out.frozen 4
          go_upto_region 13 with fail
          have h7b := (HP7.out.set_ 3 (.int .i64 q.1)).set_ 4 (.int .i64 q.2)
          have HP75 := Lib.hid (show Blk _ p7 111 #[.int .i64 k1, .string (bs t1), .int .i64 n1, .int .i64 q.1, .int .i64 q.2] from by simpa using h7b)
          have HRD5 := Lib.hid ((Blk.far HRD4.out (p := ⟨p7, 3, none⟩) (by show w.heap.size + 1 ≠ p7; have := HZ7.out; have := HRL.out; omega) (.int .i64 q.1)).far (p := ⟨p7, 4, none⟩) (by show w.heap.size + 1 ≠ p7; have := HZ7.out; have := HRL.out; omega) (.int .i64 q.2))
          have HFL5 := Lib.hid ((Blk.far HFL4.out (p := ⟨p7, 3, none⟩) (by show w.heap.size ≠ p7; have := HZ7.out; have := HRL.out; omega) (.int .i64 q.1)).far (p := ⟨p7, 4, none⟩) (by show w.heap.size ≠ p7; have := HZ7.out; have := HRL.out; omega) (.int .i64 q.2))
          have HOW5 := Lib.hid (HOW4.out.keep (w' := (W4.setCell ⟨p7, 3, none⟩ (.int .i64 q.1)).setCell ⟨p7, 4, none⟩ (.int .i64 q.2)) (fun i hi e => by
            have := HOL7.out i e
            rw [Below.heap_setCell _ _ _ _ (by show i ≠ p7; omega), Below.heap_setCell _ _ _ _ (by show i ≠ p7; omega)]))
          have HBE5 := Lib.hid ((HBE4.out.setCell (p := ⟨p7, 3, none⟩) (by show w.heap.size ≤ p7; have := HZ7.out; have := HRL.out; omega) (.int .i64 q.1)).setCell (p := ⟨p7, 4, none⟩) (by show w.heap.size ≤ p7; have := HZ7.out; have := HRL.out; omega) (.int .i64 q.2))
          clear h7b y3 y4 g3 g4 HP7 HRD4 HFL4 HOW4 HBE4 x0 x1 HP64
          generalize ((W4.setCell ⟨p7, 3, none⟩ (.int .i64 q.1)).setCell ⟨p7, 4, none⟩ (.int .i64 q.2)) = W5 at *
          have z0 : _ = some (Value.int .i64 k1) := HP75.out.cell 0
          have z1 : _ = some (Value.string (bs t1)) := HP75.out.cell 1
          have z2 : _ = some (Value.int .i64 n1) := HP75.out.cell 2
          have z3 : _ = some (Value.int .i64 q.1) := HP75.out.cell 3
          have z4 : _ = some (Value.int .i64 q.2) := HP75.out.cell 4
          have hal5 : Below W5.heap.size W5 (W5.alloc (.cells #[.int .i64 k1, .string (bs t1), .int .i64 n1, .int .i64 q.1, .int .i64 q.2] 111)) := (Below.refl _ _).alloc (Nat.le_refl _) _
          have HAL := Lib.hid hal5
          clear hal5
          go_wp2_with ((at_builtin; refine wpList_epush elT_ok rfl _ _ 72 rfl (by kernel_rfl) _ acc ⟨k1, t1, n1, q⟩ W5.heap.size 1 rfl rfl (HOW5.out.below HAL.out) (fun j u hu => new_cell W5 _ _ j (by simpa [elT] using hu)) (by have := HFEW.out; omega) ?_; intro v' w6 hAp))
          have hfar5 : ∀ i, u5.ownBlock = some i → w.heap.size + 2 ≤ i := fun i hi => by have := HFAR.out i hi; omega
          have hs5 : w.heap.size + 2 ≤ (W5.alloc (.cells #[.int .i64 k1, .string (bs t1), .int .i64 n1, .int .i64 q.1, .int .i64 q.2] 111)).heap.size := by
            have h1 := Blk.lt HRD5.out
            simp; omega
          have HFR6 := Lib.hid (hAp.far hs5 hfar5)
          have HRD6 : Hid (RdS w6 (w.heap.size + 1) kd qd) := Lib.hid ((hAp.keep (k := w.heap.size + 1) (by omega) (fun e => by have := hfar5 _ e; omega)).trans (RdS.below HRD5.out HAL.out))
          have HFL6 : Hid (Blk w6 w.heap.size 29 #[.int .i64 0, .int .i64 0, .int .i64 0]) := Lib.hid ((hAp.keep (k := w.heap.size) (by omega) (fun e => by have := hfar5 _ e; omega)).trans (Blk.thru0 HFL5.out HAL.out))
          have HOW6 := Lib.hid hAp.own
          have HBE6 := Lib.hid (Below.trans (Below.trans HBE5.out (HAL.out.mono (by have := HBE5.out.size; omega))) (hAp.below (B := w.heap.size) (by omega) (fun i hi => by have := hfar5 i hi; omega)).1)
          clear hAp hfar5 hs5 HP75 HRD5 HFL5 HOW5 HBE5 HAL z0 z1 z2 z3 z4
          have HSK := Lib.hid (skip_any w6 (w.heap.size + 1) kd qd HRD6.out hOKS)
          unfold SkipP at HSK
          clear hOKS HOKD
          generalize skp false kd qd = s2 at *
          go_wp2_with fail
          refine HSK.out.mono ?_
          rintro e w7 ⟨rfl, hrd7, hbut7, hok7⟩
          have HN7 := Lib.hid (show TlSt w F v' (acc ++ [⟨k1, t1, n1, q⟩]) s2.1 s2.2 w7 from ⟨hrd7, hok7, Blk.but HFL6.out hbut7 (by omega), HOW6.out.but hbut7 (fun i hi => by have := HFR6.out i hi; omega), fun i hi => by have := HFR6.out i hi; omega, Below.but HBE6.out hbut7 (by omega) (Nat.le_refl _), HF.out, by have := HLN.out; have := HFEW.out; simp; omega⟩)
          have HRD7 := Lib.hid hrd7
          clear hrd7 hbut7 hok7
          go_wp2_with fail
          go_roundw
          case rel => exact ⟨_, _, _, HN7⟩
          case measure => rw [leftN_of HRD7.out, HLW.out]; exact HLN.out
        · have HF := Lib.hid (HR1.out he)
          have heb : (tkE k == 0) = false := beq_eq_false_iff_ne.2 he
          clear he HR0 HR1 HLEN HOKD HKN
          generalize tkE k = e1 at *
          go_upto_region 11 with fail
          have u0 : _ = some (Value.int .i64 0) := HFL4.out.cell 0
          have u1 : _ = some (Value.int .i64 0) := HFL4.out.cell 1
          have u2 : _ = some (Value.int .i64 0) := HFL4.out.cell 2
          have f0 := HFL4.out.frozen 0
          have f1 := HFL4.out.frozen 1
          have f2 := HFL4.out.frozen 2
          go_region
          have HBF := Lib.hid (Below.set3 (b := w.heap.size) (below_drew1 HBE4.out) (Nat.le_refl _) (.int .i64 e1) (.int .i64 q.1) (.int .i64 q.2))
          go_wp2_with fail
          refine bodyPost_ret (v := .tuple #[.slice none 0 0, .agg #[.int .i64 e1, .int .i64 q.1, .int .i64 q.2]]) ?_ rfl ⟨.slice none 0 0, by rw [HFT.out, HF.out]; rfl, by rw [HFT.out, HF.out]; exact EOwn.nil_ _, HBF.out, fun i hi => by simp [Value.ownBlock] at hi⟩
          simp [results, Tryz.results45, go_sem, *]
end Go.Proofs.YtkpmeelbjldcoaaGreatDoor
