/- lex: digits and their number. -/
import Derived.Test.YtmgamlpjgghieaaGreatDoorZbLxSpecM
import Derived.Lib.AtoiAllCases
import Derived.Lib.ItoaMem
namespace Go.Proofs.YtmgamlpjgghieaaGreatDoor
set_option linter.unusedVariables false
set_option linter.unusedSimpArgs false
open Go.RowKit
def vl (l : Bs) : Nat := l.foldl (fun n c => 10 * n + (c.toNat - 48)) 0
theorem vl_snoc (a : Bs) (c : UInt8) : vl (a ++ [c]) = 10 * vl a + (c.toNat - 48) := by simp [vl]
def digL (l : Bs) : Prop := ∀ c ∈ l, isDg c = true
theorem dg_iff (c : UInt8) : isDg c = true ↔ 48 ≤ c.toNat ∧ c.toNat ≤ 57 := by simp [isDg]
theorem digL_snoc {a : Bs} {c : UInt8} (h : digL (a ++ [c])) : digL a ∧ isDg c = true := ⟨fun x hx => h x (by simp [hx]), h c (by simp)⟩
/-- A 0 ahead of others. -/
def lead (l : Bs) : Bool := decide (1 < l.length) && (l.head?.map (·.toNat) == some 48)
def numBad (l : Bs) : Bool := lead l || decide (5 < l.length) || decide (65535 < vl l)
theorem snoc_ind {P : Bs → Prop} (h0 : P []) (h1 : ∀ a c, P a → P (a ++ [c])) (l : Bs) : P l := by
  have : ∀ n, ∀ l : Bs, l.length = n → P l := by
    intro n
    induction n with
    | zero => intro l hl; rw [List.length_eq_zero_iff.1 hl]; exact h0
    | succ n ih =>
      intro l hl
      have hne : l ≠ [] := by intro e; rw [e] at hl; cases hl
      rw [← List.dropLast_concat_getLast hne]
      exact h1 _ _ (ih _ (by rw [List.length_dropLast, hl]; rfl))
  exact this _ l rfl
theorem lead_snoc {a : Bs} {c : UInt8} (ha : a ≠ []) (h : lead (a ++ [c]) = false) : a.head?.map (·.toNat) ≠ some 48 := by
  intro e
  have h1 : (a ++ [c]).head? = a.head? := by cases a with | nil => exact absurd rfl ha | cons x r => rfl
  have h2 : 1 < (a ++ [c]).length := by cases a with | nil => exact absurd rfl ha | cons x r => simp
  simp [lead, h1, e] at h
  cases a with
  | nil => exact absurd rfl ha
  | cons x r => simp at h
theorem head_pos (l : Bs) : digL l → l ≠ [] → l.head?.map (·.toNat) ≠ some 48 → 10 ^ (l.length - 1) ≤ vl l := by
  refine snoc_ind (P := fun l => digL l → l ≠ [] → l.head?.map (·.toNat) ≠ some 48 → 10 ^ (l.length - 1) ≤ vl l) (fun _ h => absurd rfl h) (fun a c ih hd _ hh => ?_) l
  obtain ⟨ha, hc⟩ := digL_snoc hd
  rw [vl_snoc]
  by_cases hn : a = []
  · subst hn
    have : c.toNat ≠ 48 := by intro e; exact hh (by simp [e])
    have := (dg_iff c).1 hc
    simp [vl]; omega
  · have h1 : (a ++ [c]).head? = a.head? := by cases a with | nil => exact absurd rfl hn | cons x r => rfl
    rw [h1] at hh
    have h2 := ih ha hn hh
    have hl : 1 ≤ a.length := by cases a with | nil => exact absurd rfl hn | cons x r => simp
    have e : (a ++ [c]).length - 1 = (a.length - 1) + 1 := by simp; omega
    rw [e, Nat.pow_succ]
    omega
theorem dec_vl (l : Bs) : digL l → l ≠ [] → lead l = false → Lib.decDigits (vl l) = l := by
  refine snoc_ind (P := fun l => digL l → l ≠ [] → lead l = false → Lib.decDigits (vl l) = l) (fun _ h => absurd rfl h) (fun a c ih hd _ hl => ?_) l
  obtain ⟨ha, hc⟩ := digL_snoc hd
  have hcb := (dg_iff c).1 hc
  rw [vl_snoc]
  by_cases hn : a = []
  · subst hn
    have e : 10 * vl [] + (c.toNat - 48) = c.toNat - 48 := by simp [vl]
    rw [e, Lib.decDigits_one (by omega), show 48 + (c.toNat - 48) = c.toNat by omega]
    simp
  · have hh := lead_snoc hn hl
    have hp := head_pos a ha hn hh
    have hp1 : 1 ≤ vl a := Nat.le_trans (Nat.one_le_pow _ _ (by decide)) hp
    have hla : lead a = false := by
      unfold lead
      rw [Bool.and_eq_false_iff]
      exact .inr (beq_eq_false_iff_ne.2 hh)
    rw [Lib.decDigits, dif_neg (by omega), show (10 * vl a + (c.toNat - 48)) / 10 = vl a by omega, show (10 * vl a + (c.toNat - 48)) % 10 = c.toNat - 48 by omega, ih ha hn hla, show 48 + (c.toNat - 48) = c.toNat by omega]
    simp
theorem dec_head (u : Nat) (hu : 0 < u) : (Lib.decDigits u).head?.map (·.toNat) ≠ some 48 ∧ Lib.decDigits u ≠ [] := by
  induction u using Nat.strongRecOn with
  | ind u ih =>
    rw [Lib.decDigits]
    split
    · rename_i h
      refine ⟨?_, by simp⟩
      simp
      have : (48 + u) % 256 = 48 + u := Nat.mod_eq_of_lt (by omega)
      omega
    · rename_i h
      have := ih (u / 10) (by omega) (by omega)
      have hc : ∀ x : UInt8, (Lib.decDigits (u / 10) ++ [x]).head? = (Lib.decDigits (u / 10)).head? := by
        intro x
        cases hd : Lib.decDigits (u / 10) with
        | nil => exact absurd hd this.2
        | cons y r => rfl
      rw [hc]
      exact ⟨this.1, by simp⟩
theorem dec_lead (u : Nat) (l : Bs) (h : lead l = true) : Lib.decDigits u ≠ l := by
  intro e
  simp only [lead, Bool.and_eq_true, decide_eq_true_eq, beq_iff_eq] at h
  rcases Nat.eq_zero_or_pos u with h0 | h0
  · subst h0
    rw [Lib.decDigits_one (by decide)] at e
    subst e
    simp at h
  · have := (dec_head u h0).1
    rw [e] at this
    exact this h.2
def vlA (acc : Nat) (l : Bs) : Nat := l.foldl (fun n c => 10 * n + (c.toNat - 48)) acc
theorem vlA_le (l : Bs) : ∀ acc, acc ≤ vlA acc l := by
  induction l with
  | nil => intro acc; exact Nat.le_refl _
  | cons c l ih => intro acc; exact Nat.le_trans (by omega) (ih (10 * acc + (c.toNat - 48)))
theorem parse_dig (l : Bs) : ∀ acc, digL l → (Lib.parseUint10 acc l = .ok (vlA acc l)) ∨ (Lib.parseUint10 acc l = .range ∧ 1000000 < vlA acc l) := by
  induction l with
  | nil => intro acc _; exact .inl rfl
  | cons c l ih =>
    intro acc hd
    have hc := (dg_iff c).1 (hd c (by simp))
    have hl : digL l := fun x hx => hd x (by simp [hx])
    have e : vlA acc (c :: l) = vlA (acc * 10 + (c.toNat - 48)) l := by simp [vlA, Nat.mul_comm]
    rw [Lib.parseUint10, if_pos hc, e]
    have hle := vlA_le l (acc * 10 + (c.toNat - 48))
    split
    · exact .inr ⟨rfl, by omega⟩
    · split
      · exact .inr ⟨rfl, by omega⟩
      · exact ih _ hl
theorem atoi_dig (l : Bs) (hd : digL l) (hn : l ≠ []) : (Lib.atoiAll l = .ok (vl l : Int)) ∨ (Lib.atoiAll l = .range ∧ 65535 < vl l) := by
  cases l with
  | nil => exact absurd rfl hn
  | cons c r =>
    have hc := (dg_iff c).1 (hd c (by simp))
    have hm : Lib.parseMag (c :: r) = Lib.parseUint10 0 (c :: r) := by simp [Lib.parseMag]
    have h43 : ¬ c.toNat = 43 := by omega
    have h45 : ¬ c.toNat = 45 := by omega
    have e : vl (c :: r) = vlA 0 (c :: r) := rfl
    rw [e]
    simp only [Lib.atoiAll, h43, h45, or_self, if_false, hm]
    rcases parse_dig (c :: r) 0 hd with h | ⟨h, hb⟩
    · rw [h]
      simp only [not_false_eq_true, true_and, false_and, if_false]
      split
      · rename_i hbig; exact .inr ⟨rfl, by omega⟩
      · exact .inl rfl
    · rw [h]; exact .inr ⟨rfl, by omega⟩
/-- How the digits are read. -/
theorem num_cases (l : Bs) (hd : digL l) (hn : l ≠ []) :
    (numBad l = true ∧ Lib.atoiAll l = .range) ∨
    (numBad l = true ∧ Lib.atoiAll l = .ok (vl l : Int) ∧ 65535 < vl l) ∨
    (numBad l = true ∧ Lib.atoiAll l = .ok (vl l : Int) ∧ vl l ≤ 65535 ∧ Lib.itoa (vl l : Int) ≠ l) ∨
    (numBad l = false ∧ Lib.atoiAll l = .ok (vl l : Int) ∧ vl l ≤ 65535 ∧ Lib.itoa (vl l : Int) = l) := by
  rcases atoi_dig l hd hn with h | ⟨h, hb⟩
  · by_cases hv : 65535 < vl l
    · exact .inr (.inl ⟨by simp [numBad, hv], h, hv⟩)
    · cases hl : lead l with
      | true => exact .inr (.inr (.inl ⟨by simp [numBad, hl], h, by omega, by rw [Lib.itoa_nonneg]; exact dec_lead _ _ hl⟩))
      | false =>
        have hlen : ¬ 5 < l.length := by
          intro h5
          have hh : l.head?.map (·.toNat) ≠ some 48 := by
            intro e
            simp [lead, e] at hl
            omega
          have h1 := head_pos l hd hn hh
          have h2 : 10 ^ 5 ≤ 10 ^ (l.length - 1) := Nat.pow_le_pow_right (by decide) (by omega)
          omega
        exact .inr (.inr (.inr ⟨by simp [numBad, hl, hv, hlen], h, by omega, by rw [Lib.itoa_nonneg]; exact dec_vl l hd hn hl⟩))
  · exact .inl ⟨by simp [numBad, hb], h⟩
theorem digL_take (l : Bs) : digL (l.takeWhile isDg) := by
  intro c hc
  induction l with
  | nil => simp at hc
  | cons x l ih =>
    by_cases hx : isDg x = true
    · rw [List.takeWhile_cons_of_pos hx] at hc
      rcases List.mem_cons.1 hc with rfl | h
      · exact hx
      · exact ih h
    · rw [List.takeWhile_cons_of_neg hx] at hc; simp at hc
end Go.Proofs.YtmgamlpjgghieaaGreatDoor
