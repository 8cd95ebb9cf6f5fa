/- token: Meet of any two grants, by contract; the document's Right and Meet. -/
import Derived.Test.YtmlmndaflgfdkaaTo3
namespace Go.Proofs.Ytmlmndaflgfdkaa
set_option linter.unusedVariables false
set_option linter.unusedSimpArgs false
open Go.RowKit
theorem rightT_lit (g : Gt) (b : Bool) (h : rightG g = b) : Hid (∀ w, Calls Try.prog 25 #[g.V] w fun e w' => e = .returned (.bool b) ∧ Below w.heap.size w w') := by
  subst h; exact fun w => rightT_any g w
theorem tmeet_any (a b : Gt) (w : World) :
    Calls Try.prog 24 #[a.V, b.V] w fun e w' => e = .returned (meetC a b).V ∧ Below w.heap.size w w' := by
  by_cases ha : rightG a = true
  · by_cases hb : rightG b = true
    · have e0 : meetC a b = meetG a b := by rw [meetC, if_pos ⟨ha, hb⟩]
      rw [e0]
      have ra := (rt_iff a).1 ha
      have rb := (rt_iff b).1 hb
      have hand := i64_and_small a.ops b.ops ra.o.1 ra.o.2 rb.o.1 rb.o.2
      have HA := rightT_lit a true ha
      have HB := rightT_lit b true hb
      have hnb : ∀ x y z u x' y' z' u' : Int, rightB x y z u = true → rightB x' y' z' u' = true → ∀ bb, rightB (max x x') (max y y') (min z z') (min u u') = bb →
          Hid (∀ w, Calls Try.prog 42 #[.agg #[.int .i64 x, .int .i64 y, .int .i64 z, .int .i64 u], .agg #[.int .i64 x', .int .i64 y', .int .i64 z', .int .i64 u']] w fun e w' => e = .returned (if bb = true then .tuple #[.agg #[.int .i64 (max x x'), .int .i64 (max y y'), .int .i64 (min z z'), .int .i64 (min u u')], .bool true] else .tuple #[.agg #[.int .i64 0, .int .i64 0, .int .i64 0, .int .i64 0], .bool false]) ∧ Below w.heap.size w w') := by
        intro x y z u x' y' z' u' h1 h2 bb h3
        cases bb with
        | true => exact fun w => meet_yes x y z u x' y' z' u' h1 h2 h3 w
        | false => exact fun w => meet_no3 x y z u x' y' z' u' h1 h2 h3 w
      obtain ⟨ao, az, ax, ay, aX, aY, av, at_⟩ := a
      obtain ⟨bo, bz, bx, by_, bX, bY, bv, bt⟩ := b
      simp only at hand
      cases av with
      | true =>
        have e1 : meetG ⟨ao, az, ax, ay, aX, aY, true, at_⟩ ⟨bo, bz, bx, by_, bX, bY, bv, bt⟩ = ⟨((ao.toNat &&& bo.toNat : Nat) : Int), min az bz, 0, 0, 0, 0, true, min at_ bt⟩ := by simp [meetG]
        rw [e1]
        exact tmeet_void1 _ _ _ _ _ _ _ _ _ _ _ _ _ _ bv _ hand HA HB w
      | false =>
        cases bv with
        | true =>
          have e1 : meetG ⟨ao, az, ax, ay, aX, aY, false, at_⟩ ⟨bo, bz, bx, by_, bX, bY, true, bt⟩ = ⟨((ao.toNat &&& bo.toNat : Nat) : Int), min az bz, 0, 0, 0, 0, true, min at_ bt⟩ := by simp [meetG]
          rw [e1]
          exact tmeet_void2 _ _ _ _ _ _ _ _ _ _ _ _ _ _ _ hand HA HB w
        | false =>
          have h1 : rightB ax ay aX aY = true := by have h9 := ha; rw [rightG, Bool.and_eq_true] at h9; simpa using h9.2
          have h2 : rightB bx by_ bX bY = true := by have h9 := hb; rw [rightG, Bool.and_eq_true] at h9; simpa using h9.2
          cases h3 : rightB (max ax bx) (max ay by_) (min aX bX) (min aY bY) with
          | true =>
            have e1 : meetG ⟨ao, az, ax, ay, aX, aY, false, at_⟩ ⟨bo, bz, bx, by_, bX, bY, false, bt⟩ = ⟨((ao.toNat &&& bo.toNat : Nat) : Int), min az bz, max ax bx, max ay by_, min aX bX, min aY bY, false, min at_ bt⟩ := by simp [meetG, h3]
            rw [e1]
            exact tmeet_both _ _ _ _ _ _ _ _ _ _ _ _ _ _ _ _ _ _ _ hand HA HB (hnb _ _ _ _ _ _ _ _ h1 h2 true h3) w
          | false =>
            have e1 : meetG ⟨ao, az, ax, ay, aX, aY, false, at_⟩ ⟨bo, bz, bx, by_, bX, bY, false, bt⟩ = ⟨((ao.toNat &&& bo.toNat : Nat) : Int), min az bz, 0, 0, 0, 0, true, min at_ bt⟩ := by simp [meetG, h3]
            rw [e1]
            exact tmeet_apart _ _ _ _ _ _ _ _ _ _ _ _ _ _ _ hand HA HB (hnb _ _ _ _ _ _ _ _ h1 h2 false h3) w
    · have hb' : rightG b = false := by simpa using hb
      have e0 : meetC a b = Gt.zero := by rw [meetC, if_neg (fun h => hb h.2)]
      rw [e0]
      exact tmeet_bad2 _ _ _ _ _ _ _ _ _ _ _ _ _ _ _ _ (rightT_lit a true ha) (rightT_lit b false hb') w
  · have ha' : rightG a = false := by simpa using ha
    have e0 : meetC a b = Gt.zero := by rw [meetC, if_neg (fun h => ha h.1)]
    rw [e0]
    exact tmeet_bad1 _ _ _ _ _ _ _ _ _ _ _ _ _ _ _ _ (rightT_lit a false ha') w
end Go.Proofs.Ytmlmndaflgfdkaa
