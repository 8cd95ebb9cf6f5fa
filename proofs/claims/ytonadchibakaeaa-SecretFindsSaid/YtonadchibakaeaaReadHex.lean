/- num.ReadHex and the document's Hex by contract. -/
import Derived.Test.YtonadchibakaeaaHex
import Derived.Test.YtonadchibakaeaaNumSpec
import Derived.Lib.Strings
import Derived.Lib.Slices
import Derived.Lib.Walk
import Derived.Lib.Bytealg
namespace Go.Proofs.Ytonadchibakaeaa
set_option linter.unusedVariables false
set_option linter.unusedSimpArgs false
open Go.RowKit
open NumS
def isHex (c : UInt8) : Bool := decide ((48 ≤ c.toNat ∧ c.toNat ≤ 57) ∨ (97 ≤ c.toNat ∧ c.toNat ≤ 102))
def hv (c : UInt8) : Nat := if c.toNat ≤ 57 then c.toNat - 48 else c.toNat - 87
theorem all256 (p : UInt8 → Bool) (h : ∀ i : Fin 256, p (UInt8.ofNat i.1) = true) (c : UInt8) : p c = true := by
  have := h ⟨c.toNat, c.toNat_lt⟩
  simpa using this
theorem idx_hex (c : UInt8) : Lib.indexByte [48, 49, 50, 51, 52, 53, 54, 55, 56, 57, 97, 98, 99, 100, 101, 102] c = if isHex c = true then (hv c : Int) else -1 := by
  have := all256 (fun c => decide (Lib.indexByte [48, 49, 50, 51, 52, 53, 54, 55, 56, 57, 97, 98, 99, 100, 101, 102] c = if isHex c = true then (hv c : Int) else -1)) (by decide +kernel) c
  simpa using this
theorem hv_lt (c : UInt8) (h : isHex c = true) : hv c < 16 := by
  have := all256 (fun c => !isHex c || decide (hv c < 16)) (by decide +kernel) c
  simp [h] at this; exact this
theorem hc_hv (c : UInt8) (h : isHex c = true) : hc (hv c) = c := by
  have := all256 (fun c => !isHex c || decide (hc (hv c) = c)) (by decide +kernel) c
  simp [h] at this; exact this
theorem hv_hc (d : Nat) (h : d < 16) : hv (hc d) = d ∧ isHex (hc d) = true := by
  have : ∀ d : Fin 16, hv (hc d.1) = d.1 ∧ isHex (hc d.1) = true := by decide +kernel
  exact this ⟨d, h⟩
def hvalF (n : Nat) (l : List UInt8) : Nat := l.foldl (fun n c => 16 * n + hv c) n
def hval (l : List UInt8) : Nat := hvalF 0 l
theorem hval_snoc (l : List UInt8) (c : UInt8) : hval (l ++ [c]) = 16 * hval l + hv c := by simp [hval, hvalF, List.foldl_append]
theorem hval_take (l : List UInt8) (k : Nat) (h : k < l.length) : hval (l.take (k + 1)) = 16 * hval (l.take k) + hv (l[k]) := by
  rw [List.take_succ_eq_append_getElem h, hval_snoc]
theorem hex_take (l : List UInt8) (k : Nat) (h : k < l.length) (hl : (l.take k).all isHex = true) (hc : isHex l[k] = true) : (l.take (k + 1)).all isHex = true := by
  rw [List.take_succ_eq_append_getElem h, List.all_append, hl]; simp [hc]
theorem hvalF_lt (n : Nat) (l : List UInt8) (h : l.all isHex = true) : hvalF n l + 1 ≤ (n + 1) * 16 ^ l.length := by
  induction l generalizing n with
  | nil => simp [hvalF]
  | cons c l ih =>
    have hc : isHex c = true ∧ l.all isHex = true := by simpa using h
    have := ih (16 * n + hv c) hc.2
    have h1 := hv_lt c hc.1
    simp only [hvalF, List.foldl_cons, List.length_cons] at this ⊢
    refine Nat.le_trans this ?_
    rw [Nat.pow_succ, Nat.mul_comm (16 ^ l.length) 16, ← Nat.mul_assoc]
    exact Nat.mul_le_mul_right _ (by omega)
theorem hval_lt (l : List UInt8) (h : l.all isHex = true) : hval l < 16 ^ l.length := by have := hvalF_lt 0 l h; simp [hval] at this ⊢; omega
def rS (l : List UInt8) : Option Nat := if l.length = 16 ∧ l.all isHex = true then some (hval l) else none
def rv (l : List UInt8) : Int := ((rS l).getD 0 : Nat)
def re (l : List UInt8) : Int := if (rS l).isSome then 0 else 11
theorem rS_len (l : List UInt8) (h : l.length ≠ 16) : rv l = 0 ∧ re l = 11 := by simp [rv, re, rS, h]
theorem rS_bad (s : ByteArray) (k : Nat) (h : k < s.size) (hb : isHex s[k] = false) : rv s.data.toList = 0 ∧ re s.data.toList = 11 := by
  have hk : s.data.toList[k]? = some s[k] := by rw [List.getElem?_eq_getElem (by simpa using h)]; rfl
  have hn : s.data.toList.all isHex = false := by
    simp only [List.all_eq_false]; exact ⟨_, List.mem_of_getElem? hk, by simp [hb]⟩
  simp [rv, re, rS, hn]
theorem rS_ok (l : List UInt8) (h : l.length = 16) (hl : l.all isHex = true) : rv l = hval l ∧ re l = 0 := by simp [rv, re, rS, h, hl]
theorem or16 (m c : Nat) (hm : m ≤ 1152921504606846975) (hc : c < 16) : bits .or .u64 ((m : Int) * 16) (c : Int) = ((16 * m + c : Nat) : Int) := by
  have e : ((m : Int) * 16) = ((m * 16 : Nat) : Int) := by omega
  rw [e, u64_or_nat _ _ (by omega) (by omega), nat_join 4 (m * 16) c (by omega) (by omega)]
  omega
theorem hval15 (l : List UInt8) (k : Nat) (hk : k ≤ 15) (h : (l.take k).all isHex = true) : hval (l.take k) ≤ 1152921504606846975 := by
  have h1 := hval_lt _ h
  have h2 : (16 : Nat) ^ (l.take k).length ≤ 16 ^ 15 := Nat.pow_le_pow_right (by omega) (by rw [List.length_take]; omega)
  have h3 : (16 : Nat) ^ 15 = 1152921504606846976 := by decide
  omega
theorem ret2h {a b a' b' : Int} {k k' : IntKind} (h : a' = a) (h' : b' = b) : Ending.returned (.tuple #[.int k a, .int k' b]) = .returned (.tuple #[.int k a', .int k' b']) := by rw [h, h']
end Go.Proofs.Ytonadchibakaeaa
