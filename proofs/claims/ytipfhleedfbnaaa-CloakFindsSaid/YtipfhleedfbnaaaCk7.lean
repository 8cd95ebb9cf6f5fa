/- cloak: the document's Has, by contract; what lies above a cloak does not do. -/
import Derived.Test.YtipfhleedfbnaaaCk6
import Derived.Deep.RegionHeld3
namespace Go.Proofs.Ytipfhleedfbnaaa
set_option linter.unusedVariables false
set_option linter.unusedSimpArgs false
open Go.RowKit
set_option maxRecDepth 100000 in
set_option maxHeartbeats 8000000 in
theorem rhas_any (A : Option Addr) (n c : Nat) (S : List Pn) (r0 r1 r2 r3 : Int) (w : World) (h : Rd w A n c S) (hn : n ≤ 1000000) :
    Calls Try.prog 39 #[.slice A n c, .agg #[.int .i64 r0, .int .i64 r1, .int .i64 r2, .int .i64 r3]] w fun e w' => e = .returned (.int .i64 (hasN r0 r1 r2 r3 S : Int)) ∧ Below w.heap.size w w' := by
  have hSn := Lib.hid h.1
  have HH := Lib.hid h; clear h
  have hA2 : Below w.heap.size w (w.alloc (.cells #[.int .i64 r0, .int .i64 r1, .int .i64 r2, .int .i64 r3] 33)) := (Below.refl _ _).alloc (Nat.le_refl _) _
  have HB2 := Lib.hid hA2
  have HK2 := Lib.hid (Blk.new w 33 #[.int .i64 r0, .int .i64 r1, .int .i64 r2, .int .i64 r3])
  clear hA2
  go_enter Try.func39, Try.ntmps39
  go_wp2_with fail
  go_loopw [5, 6] (fun m i wr => ∃ (k : Nat), k ≤ n ∧ i = .int .i64 k ∧ m = .int .i64 (hasN r0 r1 r2 r3 (S.take k) : Int) ∧ Hid (Below w.heap.size w wr ∧ Blk wr w.heap.size 33 #[.int .i64 r0, .int .i64 r1, .int .i64 r2, .int .i64 r3])) (fun _ i _ => n - (intOf i).toNat)
  case atStart => exact ⟨0, Nat.zero_le _, rfl, rfl, Lib.hid ⟨HB2.out, HK2.out⟩⟩
  case round =>
    obtain ⟨k, hk, rfl, rfl, HR⟩ := hrel
    have hle := hasN_le r0 r1 r2 r3 (S.take k)
    rw [List.length_take] at hle
    by_cases hlt : k < n
    · have hki : (k : Int) < (n : Int) := by omega
      obtain ⟨g, off, rfl, p0, p1⟩ := HH.out.cell hlt
      have q0 := cell_later HR.out.1 p0
      have q1 := cell_later HR.out.1 p1
      have k0 := HR.out.2.cell 0
      have k1 := HR.out.2.cell 1
      have k2 := HR.out.2.cell 2
      have k3 := HR.out.2.cell 3
      simp only [List.getElem?_toArray, List.getElem?_cons_zero, List.getElem?_cons_succ] at k0 k1 k2 k3
      have HM := Lib.hid (hasN_more r0 r1 r2 r3 S k (by rw [hSn.out]; exact hlt))
      have HHS := Lib.hid (ref_has r0 r1 r2 r3 (at_ S k).1 (at_ S k).2)
      generalize at_ S k = p at *
      generalize hm1 : hasN r0 r1 r2 r3 (S.take k) = m1 at *
      generalize hm2 : hasN r0 r1 r2 r3 (S.take (k + 1)) = m2 at *
      have hm3 : (m1 : Int) ≤ 1000000 := by omega
      generalize hasB r0 r1 r2 r3 p.1 p.2 = hb at *
      clear hle
      go_wp2_with fail
      go_region_held3 (fun w' => w'.cell? ⟨w.heap.size, 0, none⟩ = some (.int .i64 r0) ∧ w'.cell? ⟨w.heap.size, 1, none⟩ = some (.int .i64 r1) ∧ w'.cell? ⟨w.heap.size, 2, none⟩ = some (.int .i64 r2) ∧ w'.cell? ⟨w.heap.size, 3, none⟩ = some (.int .i64 r3) ∧ w'.cell? ⟨g, off + k * 2, none⟩ = some (.int .i64 p.1) ∧ w'.cell? ⟨g, off + k * 2 + 1, none⟩ = some (.int .i64 p.2)) (first | (refine ⟨?_, ?_, ?_, ?_, ?_, ?_⟩ <;> first | (exact cell_later (by assumption) (by assumption))) | (go_split_ands; refine ⟨?_, ?_, ?_, ?_, ?_, ?_⟩ <;> first | (exact cell_later (by assumption) (by assumption)) | go_keep))
        ((go_at_call 54; refine (HHS.out _).mono ?_; rintro e w9 ⟨rfl, hb9⟩; have HQ := Lib.hid (And.intro (below_trans HR.out.1 (by first | exact hb9 | exact below_of_drew hb9)) (HR.out.2.thru0 (by first | exact hb9 | exact below_of_drew hb9)))))
      all_goals
        go_split_ands
        cases hb with
        | false =>
          have HME := Lib.hid (show m2 = m1 by have := HM.out; simpa using this)
          go_wp2_with fail
          go_roundw
          case rel => exact ⟨k + 1, by omega, by go_num, by rw [hm2, HME.out], HQ⟩
          case measure => simp [intOf]; omega
        | true =>
          have HME := Lib.hid (show m2 = m1 + 1 by have := HM.out; simpa using this)
          go_wp2_with fail
          go_roundw
          case rel => exact ⟨k + 1, by omega, by go_num, by rw [hm2, HME.out]; simp, HQ⟩
          case measure => simp [intOf]; omega
    · obtain rfl : k = n := by omega
      have HE := Lib.hid (show hasN r0 r1 r2 r3 (S.take k) = hasN r0 r1 r2 r3 S by rw [List.take_of_length_le (by rw [hSn.out]; exact Nat.le_refl _)])
      rw [HE.out]
      go_wp2
      go_ret
      exact ⟨rfl, HR.out.1⟩
theorem tried_head (S : List Pn) (L x y : Int) : ∃ r, triedK S L x y = ownK S L x y :: r := by
  unfold triedK
  split
  · split
    · exact ⟨_, rfl⟩
    · exact ⟨_, rfl⟩
  · exact ⟨_, rfl⟩
theorem tried_Lv {S : List Pn} {L x y : Int} {k : Ck} (h : k ∈ triedK S L x y) : k.L = L := by
  unfold triedK at h
  split at h
  · split at h
    · simp only [List.mem_cons, List.not_mem_nil, or_false] at h
      rcases h with rfl | rfl | rfl <;> rfl
    · simp only [List.mem_cons, List.not_mem_nil, or_false] at h
      rcases h with rfl | rfl | rfl <;> rfl
  · simp only [List.mem_cons, List.not_mem_nil, or_false] at h
    rcases h with rfl; rfl
def ownD (S : List Pn) (K A L x y : Int) : Bool := doesP K A (ownK S L x y).n (areaU (ownK S L x y).a (ownK S L x y).b (ownK S L x y).c (ownK S L x y).d)
theorem first_none_own {S : List Pn} {K A L x y : Int} (h : firstK K A (triedK S L x y) = none) : ownD S K A L x y = false := by
  obtain ⟨r, hr⟩ := tried_head S L x y
  unfold firstK at h
  rw [hr, List.find?_eq_none] at h
  have := h _ (List.mem_cons_self ..)
  simpa [ownD] using this
theorem first_some_own {S : List Pn} {K A L x y : Int} {k : Ck} (h : firstK K A (triedK S L x y) = some k) (hk : k.kd ≠ 0) : ownD S K A L x y = false := by
  obtain ⟨r, hr⟩ := tried_head S L x y
  unfold firstK at h
  rw [hr, List.find?_cons] at h
  cases hd : ownD S K A L x y with
  | false => rfl
  | true =>
    have : doesP K A (ownK S L x y).n (areaU (ownK S L x y).a (ownK S L x y).b (ownK S L x y).c (ownK S L x y).d) = true := hd
    rw [this] at h
    cases h
    exact absurd rfl hk
theorem seek_Lv {S : List Pn} {K A : Int} : ∀ (l : Nat) (x y : Int) {k : Ck}, seekK S K A l x y = some k → k.L ≤ (l : Int) := by
  intro l
  induction l with
  | zero => intro x y k h; rw [seekK] at h; rw [tried_Lv (List.mem_of_find?_eq_some h)]; exact Int.le_refl _
  | succ l ih =>
    intro x y k h
    rw [seekK] at h
    cases hf : firstK K A (triedK S ((l : Int) + 1) x y) with
    | some q => rw [hf] at h; simp at h; subst h; rw [tried_Lv (List.mem_of_find?_eq_some hf)]; push_cast; omega
    | none => rw [hf] at h; simp at h; have := ih _ _ h; push_cast; omega
/-- What lies above the cloak found, or is its own cell if it is a pair, does not do. -/
theorem seek_own {S : List Pn} {K A : Int} : ∀ (l : Nat) (x y : Int) {k : Ck}, seekK S K A l x y = some k → ∀ j : Nat, j ≤ l → (k.L < (j : Int) ∨ (k.L = (j : Int) ∧ k.kd ≠ 0)) → ownD S K A (j : Int) (x / 2 ^ (l - j)) (y / 2 ^ (l - j)) = false := by
  intro l
  induction l with
  | zero =>
    intro x y k h j hj hc
    obtain rfl : j = 0 := by omega
    rw [seekK] at h
    have hL := tried_Lv (List.mem_of_find?_eq_some h)
    have := first_some_own h (by rcases hc with hc | hc; omega; exact hc.2)
    simpa using this
  | succ l ih =>
    intro x y k h j hj hc
    rw [seekK] at h
    cases hf : firstK K A (triedK S ((l : Int) + 1) x y) with
    | some q =>
      rw [hf] at h; simp at h; subst h
      have hL := tried_Lv (List.mem_of_find?_eq_some hf)
      obtain rfl : j = l + 1 := by omega
      have := first_some_own hf (by rcases hc with hc | hc; push_cast at hc; omega; exact hc.2)
      simpa using this
    | none =>
      rw [hf] at h; simp at h
      by_cases hjl : j = l + 1
      · subst hjl
        have := first_none_own hf
        simpa using this
      · have h1 := ih _ _ h j (by omega) hc
        have e : ∀ z : Int, z / 2 / 2 ^ (l - j) = z / 2 ^ (l + 1 - j) := fun z => by
          rw [Int.ediv_ediv_of_nonneg (by decide), show l + 1 - j = (l - j) + 1 by omega, Int.pow_succ, Int.mul_comm]
        rw [e, e] at h1
        exact h1
end Go.Proofs.Ytipfhleedfbnaaa
