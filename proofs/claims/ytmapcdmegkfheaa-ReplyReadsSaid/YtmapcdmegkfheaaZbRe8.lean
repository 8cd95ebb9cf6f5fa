/- reply: what may not be told, by contract. -/
import Derived.Test.YtmapcdmegkfheaaZbRe7
import Derived.BigQuiet
import Derived.Deep.QuietTactic
import Derived.StillTailTactics
import Derived.Deep.RegionHeld3
namespace Go.Proofs.Ytmapcdmegkfheaa
set_option linter.unusedVariables false
set_option linter.unusedSimpArgs false
open Go.RowKit
theorem most1 (w : World) : Calls Try.prog 62 #[.int .i64 1] w fun e w' => e = .returned (.int .i64 255) ∧ w' = w := by
  go_enter Try.func62, Try.ntmps62
  go_wp2
  go_ret
  exact ⟨rfl, rfl⟩
theorem most2 (w : World) : Calls Try.prog 62 #[.int .i64 2] w fun e w' => e = .returned (.int .i64 65535) ∧ w' = w := by
  go_enter Try.func62, Try.ntmps62
  go_wp2
  go_ret
  exact ⟨rfl, rfl⟩
theorem most4 (w : World) : Calls Try.prog 62 #[.int .i64 4] w fun e w' => e = .returned (.int .i64 4294967295) ∧ w' = w := by
  go_enter Try.func62, Try.ntmps62
  go_wp2
  go_ret
  exact ⟨rfl, rfl⟩
theorem within_q (n a b : Int) (w : World) : Calls Try.prog 26 #[.int .i64 n, .int .i64 a, .int .i64 b] w fun e w' => e = .returned (.bool (withinB n a b)) ∧ w' = w := (within_any n a b w).mono fun e w' h => ⟨h.1, h.2.symm⟩
/-- An event. -/
structure Evt where
  usr : Int
  op : Int
  st : Int
  tick : Int
def evB (e : Evt) : Bool := withinB e.usr 0 65535 && (withinB e.op 0 255 && (withinB e.st 0 255 && withinB e.tick 0 4294967295))
set_option maxRecDepth 100000 in
set_option maxHeartbeats 8000000 in
theorem wrongEvent_any (w : World) (x : Evt) : Calls Try.prog 50 #[.agg #[.int .i64 x.usr, .int .i64 x.op, .int .i64 x.st, .int .i64 x.tick]] w fun e w' => e = .returned (.bool (!(evB x))) ∧ Below w.heap.size w w' := by
  obtain ⟨u, o, s, t⟩ := x
  have HB := Lib.hid (show Below w.heap.size w (w.alloc (.cells #[.int .i64 u, .int .i64 o, .int .i64 s, .int .i64 t] 62)) from (Below.refl _ _).alloc (Nat.le_refl _) _)
  have HK := Lib.hid (Blk.new w 62 #[.int .i64 u, .int .i64 o, .int .i64 s, .int .i64 t])
  have H1 := Lib.hid (fun w => within_q u 0 65535 w)
  have H2 := Lib.hid (fun w => within_q o 0 255 w)
  have H3 := Lib.hid (fun w => within_q s 0 255 w)
  have H4 := Lib.hid (fun w => within_q t 0 4294967295 w)
  have HE : Hid (evB ⟨u, o, s, t⟩ = (withinB u 0 65535 && (withinB o 0 255 && (withinB s 0 255 && withinB t 0 4294967295)))) := Lib.hid rfl
  rw [HE.out]
  generalize withinB u 0 65535 = c1 at *
  generalize withinB o 0 255 = c2 at *
  generalize withinB s 0 255 = c3 at *
  generalize withinB t 0 4294967295 = c4 at *
  clear HE
  cases c1
  case false =>
    go_enter Try.func50, Try.ntmps50
    go_wp2_with fail
    generalize w.alloc (.cells #[.int .i64 u, .int .i64 o, .int .i64 s, .int .i64 t] 62) = W at *
    have k0 := HK.out.cell 0
    have k1 := HK.out.cell 1
    have k2 := HK.out.cell 2
    have k3 := HK.out.cell 3
    simp only [List.getElem?_toArray, List.getElem?_cons_zero, List.getElem?_cons_succ] at k0 k1 k2 k3
    go_quiet ((first | (go_at_call 62; first | with_reducible exact Calls.quiet_of_same (most2 _) | with_reducible exact Calls.quiet_of_same (most1 _) | with_reducible exact Calls.quiet_of_same (most4 _)) | (go_at_call 26; first | with_reducible exact Calls.quiet_of_same (H1.out _) | with_reducible exact Calls.quiet_of_same (H2.out _) | with_reducible exact Calls.quiet_of_same (H3.out _) | with_reducible exact Calls.quiet_of_same (H4.out _))))
    go_wp2_with fail
    go_ret
    exact ⟨rfl, below_drawn HB.out _⟩
  case true =>
    cases c2
    case false =>
      go_enter Try.func50, Try.ntmps50
      go_wp2_with fail
      generalize w.alloc (.cells #[.int .i64 u, .int .i64 o, .int .i64 s, .int .i64 t] 62) = W at *
      have k0 := HK.out.cell 0
      have k1 := HK.out.cell 1
      have k2 := HK.out.cell 2
      have k3 := HK.out.cell 3
      simp only [List.getElem?_toArray, List.getElem?_cons_zero, List.getElem?_cons_succ] at k0 k1 k2 k3
      go_quiet ((first | (go_at_call 62; first | with_reducible exact Calls.quiet_of_same (most2 _) | with_reducible exact Calls.quiet_of_same (most1 _) | with_reducible exact Calls.quiet_of_same (most4 _)) | (go_at_call 26; first | with_reducible exact Calls.quiet_of_same (H1.out _) | with_reducible exact Calls.quiet_of_same (H2.out _) | with_reducible exact Calls.quiet_of_same (H3.out _) | with_reducible exact Calls.quiet_of_same (H4.out _))))
      go_wp2_with fail
      go_ret
      exact ⟨rfl, below_drawn HB.out _⟩
    case true =>
      cases c3
      case false =>
        go_enter Try.func50, Try.ntmps50
        go_wp2_with fail
        generalize w.alloc (.cells #[.int .i64 u, .int .i64 o, .int .i64 s, .int .i64 t] 62) = W at *
        have k0 := HK.out.cell 0
        have k1 := HK.out.cell 1
        have k2 := HK.out.cell 2
        have k3 := HK.out.cell 3
        simp only [List.getElem?_toArray, List.getElem?_cons_zero, List.getElem?_cons_succ] at k0 k1 k2 k3
        go_quiet ((first | (go_at_call 62; first | with_reducible exact Calls.quiet_of_same (most2 _) | with_reducible exact Calls.quiet_of_same (most1 _) | with_reducible exact Calls.quiet_of_same (most4 _)) | (go_at_call 26; first | with_reducible exact Calls.quiet_of_same (H1.out _) | with_reducible exact Calls.quiet_of_same (H2.out _) | with_reducible exact Calls.quiet_of_same (H3.out _) | with_reducible exact Calls.quiet_of_same (H4.out _))))
        go_wp2_with fail
        go_ret
        exact ⟨rfl, below_drawn HB.out _⟩
      case true =>
        cases c4
        all_goals
          go_enter Try.func50, Try.ntmps50
          go_wp2_with fail
          generalize w.alloc (.cells #[.int .i64 u, .int .i64 o, .int .i64 s, .int .i64 t] 62) = W at *
          have k0 := HK.out.cell 0
          have k1 := HK.out.cell 1
          have k2 := HK.out.cell 2
          have k3 := HK.out.cell 3
          simp only [List.getElem?_toArray, List.getElem?_cons_zero, List.getElem?_cons_succ] at k0 k1 k2 k3
          go_quiet ((first | (go_at_call 62; first | with_reducible exact Calls.quiet_of_same (most2 _) | with_reducible exact Calls.quiet_of_same (most1 _) | with_reducible exact Calls.quiet_of_same (most4 _)) | (go_at_call 26; first | with_reducible exact Calls.quiet_of_same (H1.out _) | with_reducible exact Calls.quiet_of_same (H2.out _) | with_reducible exact Calls.quiet_of_same (H3.out _) | with_reducible exact Calls.quiet_of_same (H4.out _))))
          go_wp2_with fail
          go_ret
          exact ⟨rfl, below_drawn HB.out _⟩
/-- A shape that is disclosed. -/
structure Snt where
  id : Int
  lev : Int
  b0 : Int
  b1 : Int
  b2 : Int
  b3 : Int
def snB (x : Snt) : Bool := withinB x.id 0 65535 && (withinB x.lev 0 16 && rightB x.b0 x.b1 x.b2 x.b3)
set_option maxRecDepth 100000 in
set_option maxHeartbeats 8000000 in
theorem wrongSeen_any (w : World) (x : Snt) : Calls Try.prog 48 #[.agg #[.int .i64 x.id, .int .i64 x.lev, .int .i64 x.b0, .int .i64 x.b1, .int .i64 x.b2, .int .i64 x.b3]] w fun e w' => e = .returned (.bool (!(snB x))) ∧ Below w.heap.size w w' := by
  obtain ⟨i, l, a, b, c, d⟩ := x
  have HB := Lib.hid (show Below w.heap.size w (w.alloc (.cells #[.int .i64 i, .int .i64 l, .int .i64 a, .int .i64 b, .int .i64 c, .int .i64 d] 59)) from (Below.refl _ _).alloc (Nat.le_refl _) _)
  have HK := Lib.hid (Blk.new w 59 #[.int .i64 i, .int .i64 l, .int .i64 a, .int .i64 b, .int .i64 c, .int .i64 d])
  have H1 := Lib.hid (fun w => within_q i 0 65535 w)
  have H2 := Lib.hid (fun w => within_q l 0 16 w)
  have H3 := Lib.hid (fun w => right_any a b c d w)
  have HE : Hid (snB ⟨i, l, a, b, c, d⟩ = (withinB i 0 65535 && (withinB l 0 16 && rightB a b c d))) := Lib.hid rfl
  rw [HE.out]
  generalize withinB i 0 65535 = c1 at *
  generalize withinB l 0 16 = c2 at *
  generalize rightB a b c d = c3 at *
  clear HE
  cases c1
  case false =>
    go_enter Try.func48, Try.ntmps48
    go_wp2_with fail
    generalize w.alloc (.cells #[.int .i64 i, .int .i64 l, .int .i64 a, .int .i64 b, .int .i64 c, .int .i64 d] 59) = W at *
    have k0 := HK.out.cell 0
    have k1 := HK.out.cell 1
    have k2 := HK.out.cell 2
    have k3 := HK.out.cell 3
    have k4 := HK.out.cell 4
    have k5 := HK.out.cell 5
    simp only [List.getElem?_toArray, List.getElem?_cons_zero, List.getElem?_cons_succ] at k0 k1 k2 k3 k4 k5
    go_quiet ((first | (go_at_call 62; first | with_reducible exact Calls.quiet_of_same (most2 _) | with_reducible exact Calls.quiet_of_same (most1 _) | with_reducible exact Calls.quiet_of_same (most4 _)) | (go_at_call 26; first | with_reducible exact Calls.quiet_of_same (H1.out _) | with_reducible exact Calls.quiet_of_same (H2.out _))))
    go_wp2_with fail
    go_ret
    exact ⟨rfl, below_drawn HB.out _⟩
  case true =>
    cases c2
    case false =>
      go_enter Try.func48, Try.ntmps48
      go_wp2_with fail
      generalize w.alloc (.cells #[.int .i64 i, .int .i64 l, .int .i64 a, .int .i64 b, .int .i64 c, .int .i64 d] 59) = W at *
      have k0 := HK.out.cell 0
      have k1 := HK.out.cell 1
      have k2 := HK.out.cell 2
      have k3 := HK.out.cell 3
      have k4 := HK.out.cell 4
      have k5 := HK.out.cell 5
      simp only [List.getElem?_toArray, List.getElem?_cons_zero, List.getElem?_cons_succ] at k0 k1 k2 k3 k4 k5
      go_quiet ((first | (go_at_call 62; first | with_reducible exact Calls.quiet_of_same (most2 _) | with_reducible exact Calls.quiet_of_same (most1 _) | with_reducible exact Calls.quiet_of_same (most4 _)) | (go_at_call 26; first | with_reducible exact Calls.quiet_of_same (H1.out _) | with_reducible exact Calls.quiet_of_same (H2.out _))))
      go_wp2_with fail
      go_ret
      exact ⟨rfl, below_drawn HB.out _⟩
    case true =>
      go_enter Try.func48, Try.ntmps48
      go_wp2_with fail
      generalize w.alloc (.cells #[.int .i64 i, .int .i64 l, .int .i64 a, .int .i64 b, .int .i64 c, .int .i64 d] 59) = W at *
      have hsb : ∀ w' : World, Below W.heap.size W w' → (w'.cell? ⟨w.heap.size, 0, none⟩ = some (.int .i64 i)) ∧ (w'.cell? ⟨w.heap.size, 1, none⟩ = some (.int .i64 l)) ∧ (w'.cell? ⟨w.heap.size, 2, none⟩ = some (.int .i64 a)) ∧ (w'.cell? ⟨w.heap.size, 3, none⟩ = some (.int .i64 b)) ∧ (w'.cell? ⟨w.heap.size, 4, none⟩ = some (.int .i64 c)) ∧ (w'.cell? ⟨w.heap.size, 5, none⟩ = some (.int .i64 d)) := fun w' hb => ⟨(HK.out.thru0 hb).cell 0, (HK.out.thru0 hb).cell 1, (HK.out.thru0 hb).cell 2, (HK.out.thru0 hb).cell 3, (HK.out.thru0 hb).cell 4, (HK.out.thru0 hb).cell 5⟩
      have HS := Lib.hid hsb
      have hs0 := hsb W.drew (below_drawn (Below.refl _ _) 1)
      clear hsb
      go_region_held3 (fun w' => (w'.cell? ⟨w.heap.size, 0, none⟩ = some (.int .i64 i)) ∧ (w'.cell? ⟨w.heap.size, 1, none⟩ = some (.int .i64 l)) ∧ (w'.cell? ⟨w.heap.size, 2, none⟩ = some (.int .i64 a)) ∧ (w'.cell? ⟨w.heap.size, 3, none⟩ = some (.int .i64 b)) ∧ (w'.cell? ⟨w.heap.size, 4, none⟩ = some (.int .i64 c)) ∧ (w'.cell? ⟨w.heap.size, 5, none⟩ = some (.int .i64 d))) (first | assumption) (first | (go_at_call 62; refine (most2 _).mono ?_; rintro e w9 ⟨rfl, hw9⟩; subst hw9) | (go_at_call 26; (first | (with_reducible refine (H1.out _).mono ?_) | (with_reducible refine (H2.out _).mono ?_)); rintro e w9 ⟨rfl, hw9⟩; subst hw9) | (go_at_call 46; refine (H3.out _).mono ?_; rintro e w9 ⟨rfl, hb9⟩; have hbw : Below W.heap.size W w9 := ⟨hb9.os, hb9.tape, hb9.output, hb9.size, hb9.block⟩; have hs9 := HS.out w9 hbw))
      all_goals
        go_wp2_with fail
        go_ret
        exact ⟨rfl, HB.out.trans (hbw.mono HB.out.size)⟩
end Go.Proofs.Ytmapcdmegkfheaa
