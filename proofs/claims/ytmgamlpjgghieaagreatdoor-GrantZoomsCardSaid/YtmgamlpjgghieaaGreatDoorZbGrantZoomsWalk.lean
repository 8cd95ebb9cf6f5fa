/- GrantZooms, the walk. -/
import Derived.Test.YtmgamlpjgghieaaGreatDoorZbGr5M
namespace Go.Proofs.YtmgamlpjgghieaaGreatDoor
set_option linter.unusedVariables false
set_option linter.unusedSimpArgs false
open Go.RowKit
theorem zcell_drew {w : World} {p : Addr} {v : Value} (h : w.cell? p = some v) : w.drew.cell? p = some v := h
set_option maxRecDepth 100000 in
set_option maxHeartbeats 16000000 in
theorem grantZooms_walk (w : World) (v : Value) (acc : List (Rc × RV)) (ro ti la x y : Int) (h : RRd w v acc) (hby : ∀ x ∈ acc, x.1.bx.length * elR.by_ ≤ 140737488355328) (hk : ∀ W, Below w.heap.size w W → Calls Tryz.prog 11 #[] W fun e w' => e = .returned (.bool true) ∧ Below W.heap.size W w') :
    Calls Tryz.prog 4 #[v, .agg #[.int .i64 ro, .int .i64 ti, .int .i64 la], .agg #[.int .i64 x, .int .i64 y]] w fun e w' => e = .returned (.bool true) ∧ Below w.heap.size w w' := by
  obtain ⟨A1, c1, rfl, -, -, -⟩ := id h.1
  have HA := Lib.hid (show Below w.heap.size w ((w.alloc (.cells #[.int .i64 ro, .int .i64 ti, .int .i64 la] 24)).alloc (.cells #[.int .i64 x, .int .i64 y] 40)) from ((Below.refl _ _).alloc (Nat.le_refl _) _).alloc (by simp) _)
  have H1 : Hid (Blk ((w.alloc (.cells #[.int .i64 ro, .int .i64 ti, .int .i64 la] 24)).alloc (.cells #[.int .i64 x, .int .i64 y] 40)) w.heap.size 24 #[.int .i64 ro, .int .i64 ti, .int .i64 la]) := Lib.hid ((Blk.new w 24 _).alloc _)
  have H2 : Hid (Blk ((w.alloc (.cells #[.int .i64 ro, .int .i64 ti, .int .i64 la] 24)).alloc (.cells #[.int .i64 x, .int .i64 y] 40)) (w.heap.size + 1) 40 #[.int .i64 x, .int .i64 y]) := Lib.hid (Blk.newAt (by simp))
  have HR := Lib.hid (h.below HA.out)
  have HN := Lib.hid (new_any _ _ acc (h.below HA.out) hby)
  have HKN := Lib.hid hk
  clear hk h hby
  go_enter Tryz.func4, Tryz.ntmps4
  go_upto_region 1 with fail
  generalize ((w.alloc (.cells #[.int .i64 ro, .int .i64 ti, .int .i64 la] 24)).alloc (.cells #[.int .i64 x, .int .i64 y] 40)) = W0 at *
  go_wp2_with fail
  refine HN.out.mono ?_
  intro e W1 hq
  unfold NewP at hq
  obtain ⟨hb, hq⟩ := hq
  have HB1 := Lib.hid (HA.out.trans (hb.mono HA.out.size))
  have HR1 := Lib.hid (HR.out.below hb)
  have HW1 := Lib.hid (Blk.thru0 H1.out hb)
  have HW2 := Lib.hid (Blk.thru0 H2.out hb)
  clear hb HN HR H1 H2
  split at hq
  · subst hq
    go_wp2_with fail
    refine (HKN.out _ HB1.out).mono ?_
    rintro e w9 ⟨rfl, hb9⟩
    have HB9 := Lib.hid (HB1.out.trans (hb9.mono HB1.out.size))
    clear hb9
    go_wp2_with fail
    go_ret
    exact ⟨rfl, HB9.out⟩
  · split at hq
    · rename_i h32 hra
      obtain ⟨t, m, rv, acc', rfl, hmap, hT⟩ := hq
      have HT := Lib.hid (hT fun _ => [])
      have HMP := Lib.hid (zoomN_map hmap ro ti la x y)
      clear hT hmap h32 hra
      go_upto_region 4 with fail
      have HQ := Lib.hid (show ∀ V, Below W1.heap.size W1 V → V.cell? ⟨w.heap.size, 0, none⟩ = some (.int .i64 ro) ∧ V.cell? ⟨w.heap.size, 1, none⟩ = some (.int .i64 ti) ∧ V.cell? ⟨w.heap.size, 2, none⟩ = some (.int .i64 la) ∧ V.cell? ⟨w.heap.size + 1, 0, none⟩ = some (.int .i64 x) ∧ V.cell? ⟨w.heap.size + 1, 1, none⟩ = some (.int .i64 y) from fun V hV => ⟨(Blk.thru0 HW1.out hV).cell 0, (Blk.thru0 HW1.out hV).cell 1, (Blk.thru0 HW1.out hV).cell 2, (Blk.thru0 HW2.out hV).cell 0, (Blk.thru0 HW2.out hV).cell 1⟩)
      have HZ1 := Lib.hid (fun V (hb : Below W1.heap.size W1 V) => tzoom_any (HT.out.below hb) ro ti la x y)
      rw [HMP.out] at HZ1
      have HZ2 := Lib.hid (fun V (hb : Below W1.heap.size W1 V) => rzoom_any V _ acc ro ti la x y (HR1.out.below hb))
      have HK := Lib.hid (fun V (hb : Below W1.heap.size W1 V) => HKN.out V (HB1.out.trans (hb.mono HB1.out.size)))
      have HDR := Lib.hid (show Below W1.heap.size W1 W1.drew from below_drew1 (Below.refl _ _))
      obtain ⟨q0, q1, q2, q3, q4⟩ := HQ.out _ (Below.refl _ _)
      clear HW1 HW2 HT HMP HR1 HKN
      generalize zoomN acc ro ti la x y = z at *
      have hzz : (z == z) = true := by simp
      go_region_held3 (fun w' => w'.cell? ⟨w.heap.size, 0, none⟩ = some (.int .i64 ro) ∧ w'.cell? ⟨w.heap.size, 1, none⟩ = some (.int .i64 ti) ∧ w'.cell? ⟨w.heap.size, 2, none⟩ = some (.int .i64 la) ∧ w'.cell? ⟨w.heap.size + 1, 0, none⟩ = some (.int .i64 x) ∧ w'.cell? ⟨w.heap.size + 1, 1, none⟩ = some (.int .i64 y)) (first | (refine ⟨?_, ?_, ?_, ?_, ?_⟩ <;> first | assumption | exact zcell_drew (by assumption)) | (go_split_ands; refine ⟨?_, ?_, ?_, ?_, ?_⟩ <;> first | assumption | exact zcell_drew (by assumption))) (first | (go_at_call 20; with_reducible refine Calls.mono (HZ1.out _ ?_) ?_; (first | exact B8.out | exact below_drew1 B8.out | exact HDR.out | exact Below.refl _ _); rintro e w8 ⟨rfl, hb8⟩; have K1 : Below W1.heap.size W1 w8 := (by first | exact B8.out.trans (hb8.mono B8.out.size) | exact (below_drew1 B8.out).trans (hb8.mono B8.out.size) | exact HDR.out.trans (hb8.mono HDR.out.size) | exact hb8); have B8 := Lib.hid K1; obtain ⟨q0, q1, q2, q3, q4⟩ := HQ.out _ K1; clear hb8 K1) | (go_at_call 21; with_reducible refine Calls.mono (HZ2.out _ ?_) ?_; (first | exact B8.out | exact below_drew1 B8.out | exact HDR.out | exact Below.refl _ _); rintro e w8 ⟨rfl, hb8⟩; have K1 : Below W1.heap.size W1 w8 := (by first | exact B8.out.trans (hb8.mono B8.out.size) | exact (below_drew1 B8.out).trans (hb8.mono B8.out.size) | exact HDR.out.trans (hb8.mono HDR.out.size) | exact hb8); have B8 := Lib.hid K1; obtain ⟨q0, q1, q2, q3, q4⟩ := HQ.out _ K1; clear hb8 K1) | (go_at_call 11; with_reducible refine Calls.mono (HK.out _ ?_) ?_; (first | exact B8.out | exact below_drew1 B8.out | exact HDR.out | exact Below.refl _ _); rintro e w8 ⟨rfl, hb8⟩; have K1 : Below W1.heap.size W1 w8 := (by first | exact B8.out.trans (hb8.mono B8.out.size) | exact (below_drew1 B8.out).trans (hb8.mono B8.out.size) | exact HDR.out.trans (hb8.mono HDR.out.size) | exact hb8); have B8 := Lib.hid K1; obtain ⟨q0, q1, q2, q3, q4⟩ := HQ.out _ K1; clear hb8 K1))
      all_goals
        go_wp2_with fail
        go_ret
        exact ⟨rfl, HB1.out.trans (B8.out.mono HB1.out.size)⟩
    · subst hq
      go_wp2_with fail
      refine (HKN.out _ HB1.out).mono ?_
      rintro e w9 ⟨rfl, hb9⟩
      have HB9 := Lib.hid (HB1.out.trans (hb9.mono HB1.out.size))
      clear hb9
      go_wp2_with fail
      go_ret
      exact ⟨rfl, HB9.out⟩
end Go.Proofs.YtmgamlpjgghieaaGreatDoor
