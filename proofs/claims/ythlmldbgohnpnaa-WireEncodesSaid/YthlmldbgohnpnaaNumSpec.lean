/- Plain mathematics of layer num: texts of numbers, their value, and when a text is a number's. -/
import Derived.WalkKit
namespace Go.Proofs.Ythlmldbgohnpnaa.NumS
def maxU : Nat := 18446744073709551615
theorem maxU_eq : maxU = 18446744073709551615 := rfl
def isDig (c : UInt8) : Bool := decide (48 ≤ c.toNat ∧ c.toNat ≤ 57)
def valF (n : Nat) (l : List UInt8) : Nat := l.foldl (fun n c => 10 * n + (c.toNat - 48)) n
def val (l : List UInt8) : Nat := valF 0 l
def digs (l : List UInt8) : Bool := l.all isDig
def lenBad (l : List UInt8) : Bool := decide (l.length = 0 ∨ 20 < l.length ∨ (1 < l.length ∧ l.head? = some 48))
def parseS (l : List UInt8) : Option Nat := if lenBad l = true then none else if digs l = true ∧ val l ≤ maxU then some (val l) else none
def pv (l : List UInt8) : Int := ((parseS l).getD 0 : Nat)
def pe (l : List UInt8) : Int := if (parseS l).isSome then 0 else 10

theorem valF_append (n : Nat) (a b : List UInt8) : valF n (a ++ b) = valF (valF n a) b := by simp [valF, List.foldl_append]
theorem val_snoc (l : List UInt8) (c : UInt8) : val (l ++ [c]) = 10 * val l + (c.toNat - 48) := by simp [val, valF_append]; simp [valF]
theorem digs_snoc (l : List UInt8) (c : UInt8) : digs (l ++ [c]) = (digs l && isDig c) := by simp [digs]
theorem digs_append (a b : List UInt8) : digs (a ++ b) = (digs a && digs b) := by simp [digs]
theorem valF_ge (n : Nat) (l : List UInt8) : n ≤ valF n l := by
  induction l generalizing n with
  | nil => simp [valF]
  | cons c l ih => have := ih (10 * n + (c.toNat - 48)); simp only [valF, List.foldl_cons] at this ⊢; omega
theorem val_take_le (l : List UInt8) (k : Nat) : val (l.take k) ≤ val l := by
  have h := valF_ge (val (l.take k)) (l.drop k)
  rw [val, ← valF_append, List.take_append_drop] at h
  exact h
theorem digs_take (l : List UInt8) (k : Nat) (h : digs l = true) : digs (l.take k) = true := by
  rw [← List.take_append_drop k l, digs_append] at h
  simp at h; exact h.1
/-- 10^len bounds the value of digits. -/
theorem valF_lt (n : Nat) (l : List UInt8) (h : digs l = true) : valF n l + 1 ≤ (n + 1) * 10 ^ l.length := by
  induction l generalizing n with
  | nil => simp [valF]
  | cons c l ih =>
    have hc : isDig c = true ∧ digs l = true := by simpa [digs] using h
    have := ih (10 * n + (c.toNat - 48)) hc.2
    have h1 : 48 ≤ c.toNat ∧ c.toNat ≤ 57 := by simpa [isDig] using hc.1
    simp only [valF, List.foldl_cons, List.length_cons] at this ⊢
    refine Nat.le_trans this ?_
    rw [Nat.pow_succ, Nat.mul_comm (10 ^ l.length) 10, ← Nat.mul_assoc]
    exact Nat.mul_le_mul_right _ (by omega)
theorem val_lt (l : List UInt8) (h : digs l = true) : val l < 10 ^ l.length := by have := valF_lt 0 l h; simp [val] at this ⊢; omega
theorem parseS_bad (l : List UInt8) (h : lenBad l = true) : parseS l = none := by simp [parseS, h]
theorem parseS_nodig (l : List UInt8) (k : Nat) (c : UInt8) (hk : l[k]? = some c) (h : isDig c = false) : parseS l = none := by
  have hn : digs l = false := by
    simp only [digs, List.all_eq_false]; exact ⟨c, List.mem_of_getElem? hk, by simp [h]⟩
  simp [parseS, hn]
theorem parseS_over (l : List UInt8) (k : Nat) (h : maxU < val (l.take k)) : parseS l = none := by
  have := val_take_le l k
  have hv : ¬ val l ≤ maxU := by omega
  simp [parseS, hv]
theorem parseS_ok (l : List UInt8) (hb : lenBad l = false) (h : digs l = true) (hv : val l ≤ maxU) : parseS l = some (val l) := by simp [parseS, hb, h, hv]
theorem pv_none (l : List UInt8) (h : parseS l = none) : pv l = 0 := by simp [pv, h]
theorem pe_none (l : List UInt8) (h : parseS l = none) : pe l = 10 := by simp [pe, h]
theorem pv_some (l : List UInt8) (n : Nat) (h : parseS l = some n) : pv l = n := by simp [pv, h]
theorem pe_some (l : List UInt8) (n : Nat) (h : parseS l = some n) : pe l = 0 := by simp [pe, h]
theorem lenBad_zero (l : List UInt8) (h : l.length = 0) : lenBad l = true := by simp [lenBad, h]
theorem lenBad_long (l : List UInt8) (h : 20 < l.length) : lenBad l = true := by simp [lenBad, h]
theorem lenBad_lead (l : List UInt8) (h : 1 < l.length) (h' : l[0]'(by omega) = 48) : lenBad l = true := by
  have : l.head? = some 48 := by rw [List.head?_eq_getElem?, List.getElem?_eq_getElem (by omega), h']
  simp [lenBad, h, this]
theorem lenBad_no (l : List UInt8) (h0 : l.length ≠ 0) (h : ¬ 20 < l.length) (h' : 1 < l.length → (l[0]'(by omega)) ≠ 48) : lenBad l = false := by
  simp only [lenBad, decide_eq_false_iff_not, not_or, not_and]
  refine ⟨h0, h, fun h1 h2 => h' h1 ?_⟩
  rw [List.head?_eq_getElem?, List.getElem?_eq_getElem (by omega)] at h2
  exact Option.some.inj h2
theorem isDig_lo (c : UInt8) (h : c.toNat < 48) : isDig c = false := by simp [isDig]; omega
theorem isDig_hi (c : UInt8) (h : 57 < c.toNat) : isDig c = false := by simp [isDig]; omega
theorem isDig_ok (c : UInt8) (h : 48 ≤ c.toNat) (h' : c.toNat ≤ 57) : isDig c = true := by simp [isDig]; omega
theorem take_snoc (l : List UInt8) (k : Nat) (h : k < l.length) : l.take (k + 1) = l.take k ++ [l[k]] := by
  rw [List.take_succ_eq_append_getElem h]
end Go.Proofs.Ythlmldbgohnpnaa.NumS
