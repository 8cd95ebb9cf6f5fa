/- num.ReadHex and the document's Hex by contract. -/
import Derived.Test.YtdnjhaplofakbaaHex
import Derived.Test.YtdnjhaplofakbaaNumSpec
import Derived.Lib.Strings
import Derived.Lib.Slices
import Derived.Lib.Walk
import Derived.Lib.Bytealg
namespace Go.Proofs.Ytdnjhaplofakbaa
set_option linter.unusedVariables false
set_option linter.unusedSimpArgs false
open Go.RowKit
open NumS
set_option maxHeartbeats 1000000 in
set_option maxRecDepth 100000 in
theorem sl_indexByte (s : ByteArray) (c : Int) (w : World) :
    Calls Try.prog 27 #[.string s, .int .u8 c] w fun e w' => e = .returned (.int .i64 (Lib.indexByte s.data.toList c.toNat.toUInt8)) ∧ w' = w := by
  go_enter Try.func27, Try.ntmps27
  go_wp2
  rw [run_callFunc_extern Try.func28 (by kernel_rfl) (by kernel_rfl) (by kernel_rfl) (e := Extern.BytealgIndexByte.indexByte) (by kernel_rfl), Lib.run_indexByteString]
  simp only [Result.andThen]
  rw [Oper.upon_value]
  go_wp2
  go_ret
  exact ⟨rfl, rfl⟩
set_option maxHeartbeats 1000000 in
theorem indexByte_any (s : ByteArray) (c : Int) (w : World) :
    Calls Try.prog 25 #[.string s, .int .u8 c] w fun e w' => e = .returned (.int .i64 (Lib.indexByte s.data.toList c.toNat.toUInt8)) ∧ w = w' := by
  go_enter Try.func25, Try.ntmps25
  go_wp2_with (go_at_call 27; refine (sl_indexByte _ _ _).mono ?_; rintro e w' ⟨rfl, rfl⟩)
  go_ret
  exact ⟨rfl, rfl⟩
def isHex (c : UInt8) : Bool := decide ((48 ≤ c.toNat ∧ c.toNat ≤ 57) ∨ (97 ≤ c.toNat ∧ c.toNat ≤ 102))
def hv (c : UInt8) : Nat := if c.toNat ≤ 57 then c.toNat - 48 else c.toNat - 87
theorem all256 (p : UInt8 → Bool) (h : ∀ i : Fin 256, p (UInt8.ofNat i.1) = true) (c : UInt8) : p c = true := by
  have := h ⟨c.toNat, c.toNat_lt⟩
  simpa using this
theorem idx_hex (c : UInt8) : Lib.indexByte [48, 49, 50, 51, 52, 53, 54, 55, 56, 57, 97, 98, 99, 100, 101, 102] c = if isHex c = true then (hv c : Int) else -1 := by
  have := all256 (fun c => decide (Lib.indexByte [48, 49, 50, 51, 52, 53, 54, 55, 56, 57, 97, 98, 99, 100, 101, 102] c = if isHex c = true then (hv c : Int) else -1)) (by decide +kernel) c
  simpa using this
theorem hv_lt (c : UInt8) (h : isHex c = true) : hv c < 16 := by
  have := all256 (fun c => !isHex c || decide (hv c < 16)) (by decide +kernel) c
  simp [h] at this; exact this
theorem hc_hv (c : UInt8) (h : isHex c = true) : hc (hv c) = c := by
  have := all256 (fun c => !isHex c || decide (hc (hv c) = c)) (by decide +kernel) c
  simp [h] at this; exact this
theorem hv_hc (d : Nat) (h : d < 16) : hv (hc d) = d ∧ isHex (hc d) = true := by
  have : ∀ d : Fin 16, hv (hc d.1) = d.1 ∧ isHex (hc d.1) = true := by decide +kernel
  exact this ⟨d, h⟩
def hvalF (n : Nat) (l : List UInt8) : Nat := l.foldl (fun n c => 16 * n + hv c) n
def hval (l : List UInt8) : Nat := hvalF 0 l
theorem hval_snoc (l : List UInt8) (c : UInt8) : hval (l ++ [c]) = 16 * hval l + hv c := by simp [hval, hvalF, List.foldl_append]
theorem hval_take (l : List UInt8) (k : Nat) (h : k < l.length) : hval (l.take (k + 1)) = 16 * hval (l.take k) + hv (l[k]) := by
  rw [List.take_succ_eq_append_getElem h, hval_snoc]
theorem hex_take (l : List UInt8) (k : Nat) (h : k < l.length) (hl : (l.take k).all isHex = true) (hc : isHex l[k] = true) : (l.take (k + 1)).all isHex = true := by
  rw [List.take_succ_eq_append_getElem h, List.all_append, hl]; simp [hc]
theorem hvalF_lt (n : Nat) (l : List UInt8) (h : l.all isHex = true) : hvalF n l + 1 ≤ (n + 1) * 16 ^ l.length := by
  induction l generalizing n with
  | nil => simp [hvalF]
  | cons c l ih =>
    have hc : isHex c = true ∧ l.all isHex = true := by simpa using h
    have := ih (16 * n + hv c) hc.2
    have h1 := hv_lt c hc.1
    simp only [hvalF, List.foldl_cons, List.length_cons] at this ⊢
    refine Nat.le_trans this ?_
    rw [Nat.pow_succ, Nat.mul_comm (16 ^ l.length) 16, ← Nat.mul_assoc]
    exact Nat.mul_le_mul_right _ (by omega)
theorem hval_lt (l : List UInt8) (h : l.all isHex = true) : hval l < 16 ^ l.length := by have := hvalF_lt 0 l h; simp [hval] at this ⊢; omega
def rS (l : List UInt8) : Option Nat := if l.length = 16 ∧ l.all isHex = true then some (hval l) else none
def rv (l : List UInt8) : Int := ((rS l).getD 0 : Nat)
def re (l : List UInt8) : Int := if (rS l).isSome then 0 else 11
theorem rS_len (l : List UInt8) (h : l.length ≠ 16) : rv l = 0 ∧ re l = 11 := by simp [rv, re, rS, h]
theorem rS_bad (s : ByteArray) (k : Nat) (h : k < s.size) (hb : isHex s[k] = false) : rv s.data.toList = 0 ∧ re s.data.toList = 11 := by
  have hk : s.data.toList[k]? = some s[k] := by rw [List.getElem?_eq_getElem (by simpa using h)]; rfl
  have hn : s.data.toList.all isHex = false := by
    simp only [List.all_eq_false]; exact ⟨_, List.mem_of_getElem? hk, by simp [hb]⟩
  simp [rv, re, rS, hn]
theorem rS_ok (l : List UInt8) (h : l.length = 16) (hl : l.all isHex = true) : rv l = hval l ∧ re l = 0 := by simp [rv, re, rS, h, hl]
theorem or16 (m c : Nat) (hm : m ≤ 1152921504606846975) (hc : c < 16) : bits .or .u64 ((m : Int) * 16) (c : Int) = ((16 * m + c : Nat) : Int) := by
  have e : ((m : Int) * 16) = ((m * 16 : Nat) : Int) := by omega
  rw [e, u64_or_nat _ _ (by omega) (by omega), nat_join 4 (m * 16) c (by omega) (by omega)]
  omega
theorem hval15 (l : List UInt8) (k : Nat) (hk : k ≤ 15) (h : (l.take k).all isHex = true) : hval (l.take k) ≤ 1152921504606846975 := by
  have h1 := hval_lt _ h
  have h2 : (16 : Nat) ^ (l.take k).length ≤ 16 ^ 15 := Nat.pow_le_pow_right (by omega) (by rw [List.length_take]; omega)
  have h3 : (16 : Nat) ^ 15 = 1152921504606846976 := by decide
  omega
theorem ret2h {a b a' b' : Int} {k k' : IntKind} (h : a' = a) (h' : b' = b) : Ending.returned (.tuple #[.int k a, .int k' b]) = .returned (.tuple #[.int k a', .int k' b']) := by rw [h, h']
set_option maxHeartbeats 400000 in
theorem readhex_len (s : ByteArray) (w : World) (h : ((s.size : Int) != 16) = true) (hr : Hid (rv s.data.toList = 0 ∧ re s.data.toList = 11)) :
    Calls Try.prog 15 #[.string s] w fun e w' => e = .returned (.tuple #[.int .u64 (rv s.data.toList), .int .i64 (re s.data.toList)]) ∧ w = w' := by
  go_enter Try.func15, Try.ntmps15
  go_wp2
  go_ret2
  exact ⟨ret2h hr.out.1 hr.out.2, rfl⟩
set_option maxHeartbeats 400000 in
theorem readhex_16 (s : ByteArray) (w : World) (hs : Hid (s.size = 16)) (h : ((s.size : Int) != 16) = false) (h1 : s.size ≤ 16) (h2 : 16 ≤ s.size) :
    Calls Try.prog 15 #[.string s] w fun e w' => e = .returned (.tuple #[.int .u64 (rv s.data.toList), .int .i64 (re s.data.toList)]) ∧ w = w' := by
  go_enter Try.func15, Try.ntmps15
  go_wp2
  go_loop [4, 12] (fun v i => ∃ k m : Nat, k ≤ s.size ∧ i = .int .i64 k ∧ v = .int .u64 m ∧ Hid (m = hval (s.data.toList.take k) ∧ (s.data.toList.take k).all isHex = true)) (fun _ i => s.size - (intOf i).toNat)
  case atStart => exact ⟨0, 0, Nat.zero_le _, rfl, rfl, rfl, rfl⟩
  case round =>
    obtain ⟨k, m, hk, rfl, rfl, HM⟩ := hrel
    by_cases hlt : k < s.size
    · have HI := Lib.hid (idx_hex s[k])
      by_cases hx : isHex s[k] = true
      · have hm : m ≤ 1152921504606846975 := by rw [HM.out.1]; exact hval15 _ k (by omega) HM.out.2
        have hd := hv_lt _ hx
        have HV := Lib.hid (hval_take s.data.toList k hlt)
        have HH := Lib.hid (hex_take s.data.toList k hlt HM.out.2 hx)
        have HC : Lib.indexByte [48, 49, 50, 51, 52, 53, 54, 55, 56, 57, 97, 98, 99, 100, 101, 102] s[k] = (hv s[k] : Int) := by rw [HI.out, if_pos hx]
        clear hx
        go_wp2_with (go_at_call 25; refine (indexByte_any _ _ _).mono ?_; rintro e w' ⟨rfl, rfl⟩)
        go_round
        case rel => exact ⟨k + 1, 16 * m + hv s[k], by omega, by go_num, by rw [or16 m _ hm hd], by rw [HV.out, HM.out.1]; rfl, HH.out⟩
        case measure => simp [intOf]; omega
      · have HR := Lib.hid (rS_bad s k hlt (by simpa using hx))
        have HC : Lib.indexByte [48, 49, 50, 51, 52, 53, 54, 55, 56, 57, 97, 98, 99, 100, 101, 102] s[k] = -1 := by rw [HI.out, if_neg hx]
        clear hx
        go_wp2_with (go_at_call 25; refine (indexByte_any _ _ _).mono ?_; rintro e w' ⟨rfl, rfl⟩)
        go_ret2
        exact ⟨ret2h HR.out.1 HR.out.2, rfl⟩
    · have HR : Hid (rv s.data.toList = (m : Int) ∧ re s.data.toList = 0) := by
        have h3 := HM.out
        rw [List.take_of_length_le (show s.data.toList.length ≤ k from by simpa using (by omega : s.size ≤ k))] at h3
        have h4 := rS_ok s.data.toList hs.out h3.2
        rw [← h3.1] at h4
        exact h4
      go_wp2
      go_ret2
      exact ⟨ret2h HR.out.1 HR.out.2, rfl⟩
theorem readhex_any (s : ByteArray) (w : World) :
    Calls Try.prog 15 #[.string s] w fun e w' => e = .returned (.tuple #[.int .u64 (rv s.data.toList), .int .i64 (re s.data.toList)]) ∧ w = w' := by
  by_cases h : s.size = 16
  · exact readhex_16 s w h (by simp [h]) (by omega) (by omega)
  · exact readhex_len s w (by simp; omega) (rS_len _ h)
end Go.Proofs.Ytdnjhaplofakbaa
