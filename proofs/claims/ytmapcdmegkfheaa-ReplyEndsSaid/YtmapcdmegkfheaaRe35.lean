/- reply: a byte stored into a row of the call's own; what an answer's bytes need; secrets fit. -/
import Derived.Test.YtmapcdmegkfheaaRe34
import Derived.Test.YtmapcdmegkfheaaRe17
namespace Go.Proofs.Ytmapcdmegkfheaa
set_option linter.unusedVariables false
set_option linter.unusedSimpArgs false
open Go.RowKit
theorem len_few {w : World} {op m : Int} {a : An} {L : List Snt} {M : List Evt} (h : AnR w a L M) (hma : mayB op m a L M = true) : (encW op m a L M).length = (lenN op m).toNat ∧ (lenN op m).toNat ≤ 800 := by
  obtain ⟨q1, q2, q3, q4, q5, q6, q7⟩ := may_few h hma
  obtain ⟨r1, r2, r3⟩ := wr_fit h hma
  refine ⟨by unfold encW; rw [List.length_append, List.length_replicate]; omega, ?_⟩
  rw [len_eq q1 q2 q3 q4, Int.toNat_natCast]
  have a5 := onceN_le op.toNat
  have a6 := eachN_le op.toNat
  have a7 : m.toNat * eachN op.toNat ≤ 64 * 11 := Nat.mul_le_mul (by omega) a6
  omega
theorem anr_sec (op : Int) (R : Bs) (sA : Option Addr) (sn sc : Nat) (eA : Option Addr) (en ec : Nat) : (anR op R sA sn sc eA en ec).sec ≤ 18446744073709551615 := by
  have hs : secR R ≤ 18446744073709551615 := by
    unfold secR
    have h1 := getB_lt ((R.drop 3).take 8)
    have h2 : (256 : Nat) ^ ((R.drop 3).take 8).length ≤ 256 ^ 8 := Nat.pow_le_pow_right (by omega) (by rw [List.length_take]; omega)
    have h3 : (256 : Nat) ^ 8 = 18446744073709551616 := by decide
    omega
  unfold anR; simp only
  split
  · exact hs
  · omega
/-- A row of one's own, told with its block. -/
theorem fby_block {w0 w : World} {v : Value} {R : Bs} (h : FBy w0 v R w) (hp : 0 < R.length) : ∃ g c cur, v = .slice (some ⟨g, 0, none⟩) R.length c ∧ R.length ≤ c ∧ c ≤ maxLen ∧ w0.heap.size ≤ g ∧ Blk w g 5 cur ∧ ∀ (j : Nat) (x : UInt8), R[j]? = some x → cur[j]? = some (.int .u8 (x.toNat : Int)) := by
  have hf := h.far
  rcases h.own with ⟨_, rfl⟩ | ⟨g, cap, rfl, cur, h1, h2, h3, h4, h5⟩
  · simp at hp
  · refine ⟨g, cap, cur, rfl, h3, h4, hf g rfl, h1, fun j x hx => ?_⟩
    have hk : elB.k = 1 := rfl
    rw [hk, Nat.mul_one, rbv_encs] at h5
    have e1 : (bv R)[j]? = some (.int .u8 (x.toNat : Int)) := by simp [bv, hx]
    rw [← h5, List.getElem?_take] at e1
    split at e1
    · simpa using e1
    · cases e1
theorem set_rb {w : World} {g : Nat} {t : TypeId} {cur : Array Value} {R : Bs} (hb : Blk w g t cur) (hc : ∀ (j : Nat) (x : UInt8), R[j]? = some x → cur[j]? = some (.int .u8 (x.toNat : Int))) (i : Nat) (hi : i < R.length) (x : UInt8) :
    RB (w.setCell ⟨g, i, none⟩ (.int .u8 (x.toNat : Int))) (some ⟨g, 0, none⟩) R.length (R.set i x) := by
  have h2 := hb.set_ i (.int .u8 (x.toNat : Int))
  refine ⟨by simp [bv_length], fun _ => ⟨_, rfl, h2.lt, fun j u hu => ?_⟩⟩
  have ha : (⟨g, 0, none⟩ : Addr).add j = ⟨g, j, none⟩ := by unfold Addr.add; split <;> simp_all
  rw [ha, h2.cell]
  have hil : i < cur.size := by
    have := hc i _ (List.getElem?_eq_getElem hi)
    exact (Array.getElem?_eq_some_iff.1 this).1
  simp only [bv, List.getElem?_map, List.getElem?_set] at hu
  rw [Array.getElem?_setIfInBounds]
  by_cases hij : i = j
  · subst hij
    rw [if_pos rfl, if_pos hi] at hu
    rw [if_pos rfl, if_pos hil]
    simpa using hu
  · rw [if_neg hij] at hu
    rw [if_neg hij]
    cases hx : R[j]? with
    | none => rw [hx] at hu; simp at hu
    | some y =>
      rw [hx] at hu
      simp at hu
      rw [hc j y hx, ← hu]
end Go.Proofs.Ytmapcdmegkfheaa
