/- The law's wants of any operation, by contract; what is told of a roster and of the document's row is the same. -/
import Derived.Test.YtolbjlphpgfcpaaRoU
namespace Go.Proofs.Ytolbjlphpgfcpaa
set_option linter.unusedVariables false
set_option linter.unusedSimpArgs false
open Go.RowKit
theorem waL_ne {L : List Mb} {q : Oq} {e : Int} (h : waE L q = e) (he : e ≠ 0) : waL L q = L := by rw [waL, if_neg (by rw [h]; exact he)]
set_option maxHeartbeats 4000000 in
theorem wants_any (w : World) (v : Value) (L : List Mb) (q : Oq) (h : ERd elM w v L) (hl : L.length ≤ 10000) (hq : ∀ x ∈ L, 0 ≤ x.quota ∧ x.quota ≤ 65535) :
    Calls Try.prog 9 #[v, q.V] w (WaP v L (waL L q) (waE L q) w) := by
  obtain ⟨A, c, rfl, -, -⟩ := h.shape
  obtain ⟨kd, m, fk, fa, nn⟩ := q
  have HFI := Lib.hid (fun w' (hb : Below w.heap.size w w') => reffind_any w' _ L m.user (h.below hb) (by omega))
  have HPU := Lib.hid (fun (m : Mb) w' (hb : Below w.heap.size w w') => refput_any w' _ L m (h.below hb) hl)
  have HWO := Lib.hid (fun w' (hb : Below w.heap.size w w') => refwithout_any w' _ L m.user (h.below hb) (by omega))
  have HSP := Lib.hid (fun w' (hb : Below w.heap.size w w') => refspend_any w' _ L m.user (h.below hb) hl hq)
  have HRI := Lib.hid (fun w' => refright_any m w')
  have HRT : ∀ b, rightM m = b → Hid (∀ w', Calls Try.prog 18 #[m.V] w' fun e w'' => e = .returned (.bool b) ∧ Below w'.heap.size w' w'') := fun b hb => by subst hb; exact HRI
  clear HRI
  cases hr : rfO L m.user with
  | none =>
    rw [hr] at HFI
    have hrs : (rfO L m.user).isSome = false := by rw [hr]; rfl
    by_cases h0 : kd = 0
    · subst h0
      cases rb : rightM m with
      | false =>
        have e1 : waE L ⟨0, m, fk, fa, nn⟩ = 1 := by rw [waE, if_pos (show (0 : Int) = 0 from rfl)]; exact if_pos rb
        have e2 : waL L ⟨0, m, fk, fa, nn⟩ = L := waL_ne e1 (by decide)
        rw [e1, e2]
        exact w0a w A _ c L L 1 m.user m.role m.tier m.quota m.k m.area fk fa nn 0 0 0 0 0 0 HFI (HRT false rb)
      | true =>
        have e1 : waE L ⟨0, m, fk, fa, nn⟩ = 0 := by rw [waE, if_pos (show (0 : Int) = 0 from rfl), if_neg (by rw [rb]; decide), if_neg (by rw [hrs]; decide)]
        have e2 : waL L ⟨0, m, fk, fa, nn⟩ = puM L m := by rw [waL, if_pos e1, if_pos (show (0 : Int) = 0 from rfl)]
        rw [e1, e2]
        exact w0c w A _ c L L 0 m.user m.role m.tier m.quota m.k m.area fk fa nn 0 0 0 0 0 0 HFI (HRT true rb) HPU
    by_cases h1 : kd = 1
    · subst h1
      by_cases hu : m.user = 0
      · have hu2 : (m.user == 0) = true := by simpa using hu
        have e1 : waE L ⟨1, m, fk, fa, nn⟩ = 1 := by rw [waE, if_neg (show ¬ (1 : Int) = 0 by decide), if_pos (show (1 : Int) = 1 from rfl)]; exact if_pos hu
        have e2 : waL L ⟨1, m, fk, fa, nn⟩ = L := waL_ne e1 (by decide)
        rw [e1, e2]
        exact w1a w A _ c L L 1 m.user m.role m.tier m.quota m.k m.area fk fa nn 0 0 0 0 0 0 HFI hu2
      · have hu2 : (m.user == 0) = false := by simpa using hu
        have e1 : waE L ⟨1, m, fk, fa, nn⟩ = 21 := by rw [waE, if_neg (show ¬ (1 : Int) = 0 by decide), if_pos (show (1 : Int) = 1 from rfl), if_neg hu]; exact if_pos hrs
        have e2 : waL L ⟨1, m, fk, fa, nn⟩ = L := waL_ne e1 (by decide)
        rw [e1, e2]
        exact w1b w A _ c L L 21 m.user m.role m.tier m.quota m.k m.area fk fa nn 0 0 0 0 0 0 HFI hu2
    by_cases h2 : kd = 2
    · subst h2
      have e1 : waE L ⟨2, m, fk, fa, nn⟩ = 21 := by rw [waE, if_neg (show ¬ (2 : Int) = 0 by decide), if_neg (show ¬ (2 : Int) = 1 by decide), if_pos (show (2 : Int) = 2 from rfl)]; exact if_pos hrs
      have e2 : waL L ⟨2, m, fk, fa, nn⟩ = L := waL_ne e1 (by decide)
      rw [e1, e2]
      exact w2a w A _ c L L 21 m.user m.role m.tier m.quota m.k m.area fk fa nn 0 0 0 0 0 0 HFI 
    by_cases h3 : kd = 3
    · subst h3
      have e1 : waE L ⟨3, m, fk, fa, nn⟩ = 21 := by rw [waE, if_neg (show ¬ (3 : Int) = 0 by decide), if_neg (show ¬ (3 : Int) = 1 by decide), if_neg (show ¬ (3 : Int) = 2 by decide), if_pos (show (3 : Int) = 3 from rfl)]; exact if_pos hrs
      have e2 : waL L ⟨3, m, fk, fa, nn⟩ = L := waL_ne e1 (by decide)
      rw [e1, e2]
      exact w3a w A _ c L L 21 m.user m.role m.tier m.quota m.k m.area fk fa nn 0 0 0 0 0 0 HFI 
    have e1 : waE L ⟨kd, m, fk, fa, nn⟩ = rsE L m.user := by rw [waE, if_neg h0, if_neg h1, if_neg h2, if_neg h3]; rfl
    have e2 : waL L ⟨kd, m, fk, fa, nn⟩ = rsL L m.user := by rw [waL, e1, if_neg h0, if_neg h1, if_neg h2, if_neg h3]; rfl
    rw [e1, e2]
    exact w4a w A _ c L _ _ kd m.user m.role m.tier m.quota m.k m.area fk fa nn 0 0 0 0 0 0 HFI HSP (by simpa using h0) (by simpa using h1) (by simpa using h2) (by simpa using h3)
  | some x =>
    rw [hr] at HFI
    have hrs : (rfO L m.user).isSome = true := by rw [hr]; rfl
    by_cases h0 : kd = 0
    · subst h0
      cases rb : rightM m with
      | false =>
        have e1 : waE L ⟨0, m, fk, fa, nn⟩ = 1 := by rw [waE, if_pos (show (0 : Int) = 0 from rfl)]; exact if_pos rb
        have e2 : waL L ⟨0, m, fk, fa, nn⟩ = L := waL_ne e1 (by decide)
        rw [e1, e2]
        exact w0a2 w A _ c L L 1 m.user m.role m.tier m.quota m.k m.area fk fa nn x.user x.role x.tier x.quota x.k x.area HFI (HRT false rb)
      | true =>
        have e1 : waE L ⟨0, m, fk, fa, nn⟩ = 20 := by rw [waE, if_pos (show (0 : Int) = 0 from rfl), if_neg (by rw [rb]; decide)]; exact if_pos hrs
        have e2 : waL L ⟨0, m, fk, fa, nn⟩ = L := waL_ne e1 (by decide)
        rw [e1, e2]
        exact w0b w A _ c L L 20 m.user m.role m.tier m.quota m.k m.area fk fa nn x.user x.role x.tier x.quota x.k x.area HFI (HRT true rb)
    by_cases h1 : kd = 1
    · subst h1
      by_cases hu : m.user = 0
      · have hu2 : (m.user == 0) = true := by simpa using hu
        have e1 : waE L ⟨1, m, fk, fa, nn⟩ = 1 := by rw [waE, if_neg (show ¬ (1 : Int) = 0 by decide), if_pos (show (1 : Int) = 1 from rfl)]; exact if_pos hu
        have e2 : waL L ⟨1, m, fk, fa, nn⟩ = L := waL_ne e1 (by decide)
        rw [e1, e2]
        exact w1a2 w A _ c L L 1 m.user m.role m.tier m.quota m.k m.area fk fa nn x.user x.role x.tier x.quota x.k x.area HFI hu2
      · have hu2 : (m.user == 0) = false := by simpa using hu
        have e1 : waE L ⟨1, m, fk, fa, nn⟩ = 0 := by rw [waE, if_neg (show ¬ (1 : Int) = 0 by decide), if_pos (show (1 : Int) = 1 from rfl), if_neg hu, if_neg (by rw [hrs]; decide)]
        have e2 : waL L ⟨1, m, fk, fa, nn⟩ = woM L m.user := by rw [waL, if_pos e1, if_neg (show ¬ (1 : Int) = 0 by decide), if_pos (show (1 : Int) = 1 from rfl)]
        rw [e1, e2]
        exact w1c w A _ c L L 0 m.user m.role m.tier m.quota m.k m.area fk fa nn x.user x.role x.tier x.quota x.k x.area HFI HWO hu2
    by_cases h2 : kd = 2
    · subst h2
      by_cases hu : m.user = 0
      · have hu2 : (m.user == 0) = true := by simpa using hu
        have e1 : waE L ⟨2, m, fk, fa, nn⟩ = 1 := by rw [waE, if_neg (show ¬ (2 : Int) = 0 by decide), if_neg (show ¬ (2 : Int) = 1 by decide), if_pos (show (2 : Int) = 2 from rfl), if_neg (by rw [hrs]; decide)]; exact if_pos (.inl hu)
        have e2 : waL L ⟨2, m, fk, fa, nn⟩ = L := waL_ne e1 (by decide)
        rw [e1, e2]
        exact w2b w A _ c L L 1 m.user m.role m.tier m.quota m.k m.area fk fa nn x.user x.role x.tier x.quota x.k x.area HFI hu2
      have hu2 : (m.user == 0) = false := by simpa using hu
      by_cases hlo : fk < 1
      · skip
        have e1 : waE L ⟨2, m, fk, fa, nn⟩ = 1 := by rw [waE, if_neg (show ¬ (2 : Int) = 0 by decide), if_neg (show ¬ (2 : Int) = 1 by decide), if_pos (show (2 : Int) = 2 from rfl), if_neg (by rw [hrs]; decide)]; exact if_pos (.inr (.inl hlo))
        have e2 : waL L ⟨2, m, fk, fa, nn⟩ = L := waL_ne e1 (by decide)
        rw [e1, e2]
        exact w2c w A _ c L L 1 m.user m.role m.tier m.quota m.k m.area fk fa nn x.user x.role x.tier x.quota x.k x.area HFI hu2 hlo
      by_cases hhi : 65535 < fk
      · skip
        have e1 : waE L ⟨2, m, fk, fa, nn⟩ = 1 := by rw [waE, if_neg (show ¬ (2 : Int) = 0 by decide), if_neg (show ¬ (2 : Int) = 1 by decide), if_pos (show (2 : Int) = 2 from rfl), if_neg (by rw [hrs]; decide)]; exact if_pos (.inr (.inr hhi))
        have e2 : waL L ⟨2, m, fk, fa, nn⟩ = L := waL_ne e1 (by decide)
        rw [e1, e2]
        exact w2d w A _ c L L 1 m.user m.role m.tier m.quota m.k m.area fk fa nn x.user x.role x.tier x.quota x.k x.area HFI hu2 hlo hhi
      have e1 : waE L ⟨2, m, fk, fa, nn⟩ = 0 := by rw [waE, if_neg (show ¬ (2 : Int) = 0 by decide), if_neg (show ¬ (2 : Int) = 1 by decide), if_pos (show (2 : Int) = 2 from rfl), if_neg (by rw [hrs]; decide)]; exact if_neg (fun a => a.elim hu (fun b => b.elim hlo hhi))
      have e2 : waL L ⟨2, m, fk, fa, nn⟩ = puM L { x with k := fk, area := fa } := by rw [waL, if_pos e1, if_neg (show ¬ (2 : Int) = 0 by decide), if_neg (show ¬ (2 : Int) = 1 by decide), if_pos (show (2 : Int) = 2 from rfl), hr]; rfl
      rw [e1, e2]
      exact w2e w A _ c L L 0 m.user m.role m.tier m.quota m.k m.area fk fa nn x.user x.role x.tier x.quota x.k x.area HFI HPU hu2 hlo hhi
    by_cases h3 : kd = 3
    · subst h3
      by_cases hu : m.user = 0
      · have hu2 : (m.user == 0) = true := by simpa using hu
        have e1 : waE L ⟨3, m, fk, fa, nn⟩ = 1 := by rw [waE, if_neg (show ¬ (3 : Int) = 0 by decide), if_neg (show ¬ (3 : Int) = 1 by decide), if_neg (show ¬ (3 : Int) = 2 by decide), if_pos (show (3 : Int) = 3 from rfl), if_neg (by rw [hrs]; decide)]; exact if_pos (.inl hu)
        have e2 : waL L ⟨3, m, fk, fa, nn⟩ = L := waL_ne e1 (by decide)
        rw [e1, e2]
        exact w3b w A _ c L L 1 m.user m.role m.tier m.quota m.k m.area fk fa nn x.user x.role x.tier x.quota x.k x.area HFI hu2
      have hu2 : (m.user == 0) = false := by simpa using hu
      by_cases hlo : nn < 0
      · skip
        have e1 : waE L ⟨3, m, fk, fa, nn⟩ = 1 := by rw [waE, if_neg (show ¬ (3 : Int) = 0 by decide), if_neg (show ¬ (3 : Int) = 1 by decide), if_neg (show ¬ (3 : Int) = 2 by decide), if_pos (show (3 : Int) = 3 from rfl), if_neg (by rw [hrs]; decide)]; exact if_pos (.inr (.inl hlo))
        have e2 : waL L ⟨3, m, fk, fa, nn⟩ = L := waL_ne e1 (by decide)
        rw [e1, e2]
        exact w3c w A _ c L L 1 m.user m.role m.tier m.quota m.k m.area fk fa nn x.user x.role x.tier x.quota x.k x.area HFI hu2 hlo
      by_cases hhi : 65535 < nn
      · skip
        have e1 : waE L ⟨3, m, fk, fa, nn⟩ = 1 := by rw [waE, if_neg (show ¬ (3 : Int) = 0 by decide), if_neg (show ¬ (3 : Int) = 1 by decide), if_neg (show ¬ (3 : Int) = 2 by decide), if_pos (show (3 : Int) = 3 from rfl), if_neg (by rw [hrs]; decide)]; exact if_pos (.inr (.inr hhi))
        have e2 : waL L ⟨3, m, fk, fa, nn⟩ = L := waL_ne e1 (by decide)
        rw [e1, e2]
        exact w3d w A _ c L L 1 m.user m.role m.tier m.quota m.k m.area fk fa nn x.user x.role x.tier x.quota x.k x.area HFI hu2 hlo hhi
      have e1 : waE L ⟨3, m, fk, fa, nn⟩ = 0 := by rw [waE, if_neg (show ¬ (3 : Int) = 0 by decide), if_neg (show ¬ (3 : Int) = 1 by decide), if_neg (show ¬ (3 : Int) = 2 by decide), if_pos (show (3 : Int) = 3 from rfl), if_neg (by rw [hrs]; decide)]; exact if_neg (fun a => a.elim hu (fun b => b.elim hlo hhi))
      have e2 : waL L ⟨3, m, fk, fa, nn⟩ = puM L { x with quota := nn } := by rw [waL, if_pos e1, if_neg (show ¬ (3 : Int) = 0 by decide), if_neg (show ¬ (3 : Int) = 1 by decide), if_neg (show ¬ (3 : Int) = 2 by decide), if_pos (show (3 : Int) = 3 from rfl), hr]; rfl
      rw [e1, e2]
      exact w3e w A _ c L L 0 m.user m.role m.tier m.quota m.k m.area fk fa nn x.user x.role x.tier x.quota x.k x.area HFI HPU hu2 hlo hhi
    have e1 : waE L ⟨kd, m, fk, fa, nn⟩ = rsE L m.user := by rw [waE, if_neg h0, if_neg h1, if_neg h2, if_neg h3]; rfl
    have e2 : waL L ⟨kd, m, fk, fa, nn⟩ = rsL L m.user := by rw [waL, e1, if_neg h0, if_neg h1, if_neg h2, if_neg h3]; rfl
    rw [e1, e2]
    exact w4b w A _ c L _ _ kd m.user m.role m.tier m.quota m.k m.area fk fa nn x.user x.role x.tier x.quota x.k x.area HFI HSP (by simpa using h0) (by simpa using h1) (by simpa using h2) (by simpa using h3)
end Go.Proofs.Ytolbjlphpgfcpaa
