/- Texts: Re33, Re34, Re35. -/
import Derived.Test.YtmapcdmegkfheaaZbRe27M
import Derived.Test.YtmapcdmegkfheaaZbRe17
namespace Go.Proofs.Ytmapcdmegkfheaa
section
set_option linter.unusedVariables false
set_option linter.unusedSimpArgs false
open Go.RowKit
/-- How many bytes an answer has. -/
def nN (op : Int) (a : An) : Nat := if a.st = 0 then 3 + onceN op.toNat + (a.sn + a.en) * eachN op.toNat else 3
theorem midF_len {op : Int} (h1 : 1 ≤ op) (h2 : op ≤ 19) (a : An) : (midF op a).length = onceN op.toNat := by
  unfold midF
  by_cases h4 : op = 4 ∨ op = 5
  · rw [if_pos h4, be_length]
    rcases h4 with rfl | rfl <;> rfl
  · rw [if_neg h4]
    by_cases h12 : op = 12
    · rw [if_pos h12]; subst h12
      simp only [List.length_append, be_length]; rfl
    · rw [if_neg h12]
      by_cases h10 : op = 10
      · rw [if_pos h10]; subst h10
        rw [rectE_len]; rfl
      · rw [if_neg h10]
        have : op = 1 ∨ op = 2 ∨ op = 3 ∨ op = 6 ∨ op = 7 ∨ op = 8 ∨ op = 9 ∨ op = 11 ∨ op = 13 ∨ op = 14 ∨ op = 15 ∨ op = 16 ∨ op = 17 ∨ op = 18 ∨ op = 19 := by omega
        rcases this with rfl | rfl | rfl | rfl | rfl | rfl | rfl | rfl | rfl | rfl | rfl | rfl | rfl | rfl | rfl <;> rfl
theorem items_len {op : Int} {a : An} {L : List Snt} {M : List Evt} (F : Fine op a L M) (hsl : L.length = a.sn) (hel : M.length = a.en) : L.length * 11 + M.length * 8 = (a.sn + a.en) * eachN op.toNat := by
  by_cases hs : op = 13 ∨ op = 14 ∨ op = 15 ∨ op = 16
  · have hM := F.en (by omega)
    subst hM
    have e : eachN op.toNat = 11 := by rcases hs with rfl | rfl | rfl | rfl <;> rfl
    rw [e]; simp at hel ⊢; omega
  · have hL := F.sn hs
    subst hL
    by_cases he : op = 17 ∨ op = 18
    · have e : eachN op.toNat = 8 := by rcases he with rfl | rfl <;> rfl
      rw [e]; simp at hsl ⊢; omega
    · have hM := F.en he
      subst hM
      simp at hsl hel
      rw [← hsl, ← hel]; simp
theorem zero_behind {w : World} {op m : Int} {a : An} {L : List Snt} {M : List Evt} (h : AnR w a L M) (hma : mayB op m a L M = true) (hs : a.sec ≤ 18446744073709551615) :
    ∃ P : Bs, P.length = nN op a ∧ encW op m a L M = P ++ List.replicate ((lenN op m).toNat - nN op a) 0 := by
  obtain ⟨q1, q2, q3, q4, q5, q6, q7⟩ := may_few h hma
  obtain ⟨r1, r2, r3⟩ := wr_fit h hma
  have F := fine h hma
  have hit := items_len F h.sl h.el
  have hW := wr_form h hma hs
  have hml := midF_len q1 q2 a
  unfold nN
  by_cases hst : a.st = 0
  · rw [if_pos hst]
    have hl : (wrW op a L M).length = 3 + onceN op.toNat + (a.sn + a.en) * eachN op.toNat := by
      rw [hW, ← hit, ← hml]
      simp only [List.length_append, seenE_len, evtE_len]
      have : (headE op a).length = 3 := rfl
      omega
    exact ⟨wrW op a L M, hl, by unfold encW; rw [hl]⟩
  · rw [if_neg hst]
    have hb : bareB a = true := by
      unfold mayB at hma
      simp only [Bool.and_eq_true] at hma
      have hr := hma.2.2.2
      unfold restB at hr
      rwa [if_neg hst] at hr
    obtain ⟨z1, ⟨z2, z3, z4, z5⟩, ⟨z6, z7, z8, z9⟩, z10, z11⟩ := bare_z hb
    have hL : L = [] := List.eq_nil_of_length_eq_zero (by have := h.sl; omega)
    have hM : M = [] := List.eq_nil_of_length_eq_zero (by have := h.el; omega)
    subst hL; subst hM
    have hmz : midF op a = List.replicate (onceN op.toNat) 0 := by
      unfold midF
      rw [z1, z3, z4, z5, z6, z7, z8, z9]
      by_cases h4 : op = 4 ∨ op = 5
      · rw [if_pos h4]
        rcases h4 with rfl | rfl <;> rfl
      · rw [if_neg h4]
        by_cases h12 : op = 12
        · rw [if_pos h12]; subst h12; rfl
        · rw [if_neg h12]
          by_cases h10 : op = 10
          · rw [if_pos h10]; subst h10; rfl
          · rw [if_neg h10]
            have e : (midF op a).length = 0 := by unfold midF; rw [if_neg h4, if_neg h12, if_neg h10]; rfl
            rw [hml] at e
            rw [e]; rfl
    refine ⟨headE op a, rfl, ?_⟩
    have hW2 : wrW op a [] [] = headE op a ++ midF op a := by rw [hW]; simp
    unfold encW
    rw [hW2]
    refine pad_eq (headE op a) (midF op a) (lenN op m).toNat (onceN op.toNat) hmz ?_
    rw [len_eq q1 q2 q3 q4, Int.toNat_natCast]
    have : (headE op a).length = 3 := rfl
    omega
end
section
set_option linter.unusedVariables false
set_option linter.unusedSimpArgs false
open Go.RowKit
theorem gI_set (R : Bs) (i a k : Nat) (v : UInt8) (h : a + k ≤ i) : gI (R.set i v) a k = gI R a k := by
  have e : ((R.set i v).drop a).take k = (R.drop a).take k := by
    apply List.ext_getElem?
    intro j
    rw [List.getElem?_take, List.getElem?_take, List.getElem?_drop, List.getElem?_drop]
    split
    · rw [List.getElem?_set_ne (by omega)]
    · rfl
  unfold gI; rw [e]
theorem items_set (R : Bs) (i : Nat) (v : UInt8) (h : 3 ≤ i) : itemsR (R.set i v) = itemsR R := by unfold itemsR; rw [gI_set R i 2 1 v (by omega)]
theorem nN_ge (op : Int) (a : An) : 3 ≤ nN op a := by unfold nN; split <;> omega
/-- Bytes of which one behind the last item is 1 are no answer's. -/
theorem ends_bad {w w' : World} {op m : Int} {a a' : An} {L L' : List Snt} {M M' : List Evt} {i : Nat} (h : AnR w a L M) (hma : mayB op m a L M = true) (hs : a.sec ≤ 18446744073709551615)
    (h' : AnR w' a' L' M') (hma' : mayB op m a' L' M' = true) (hs' : a'.sec ≤ 18446744073709551615) (hi : nN op a ≤ i) (hl : i < (encW op m a L M).length) (he : encW op m a' L' M' = (encW op m a L M).set i 1) : False := by
  obtain ⟨b1, _, _, b4⟩ := back_all h hma hs
  obtain ⟨c1, _, _, c4⟩ := back_all h' hma' hs'
  obtain ⟨P', hP, hZ⟩ := zero_behind h' hma' hs'
  have h3 := nN_ge op a
  have s1 : gI (encW op m a L M) 0 1 = a.st := congrArg An.st (b1 none 0 none 0)
  have s2 : gI (encW op m a' L' M') 0 1 = a'.st := congrArg An.st (c1 none 0 none 0)
  rw [he, gI_set _ i 0 1 1 (by omega), s1] at s2
  rw [he, items_set _ i 1 (by omega), b4] at c4
  have hn : nN op a' = nN op a := by unfold nN; rw [← s2, c4]
  have g1 : ((encW op m a L M).set i 1)[i]? = some 1 := by rw [List.getElem?_set_self hl]
  rw [← he, hZ, List.getElem?_append_right (by rw [hP, hn]; exact hi), List.getElem?_replicate] at g1
  split at g1
  · injection g1 with g1; exact absurd g1 (by decide)
  · cases g1
end
section
set_option linter.unusedVariables false
set_option linter.unusedSimpArgs false
open Go.RowKit
theorem len_few {w : World} {op m : Int} {a : An} {L : List Snt} {M : List Evt} (h : AnR w a L M) (hma : mayB op m a L M = true) : (encW op m a L M).length = (lenN op m).toNat ∧ (lenN op m).toNat ≤ 800 := by
  obtain ⟨q1, q2, q3, q4, q5, q6, q7⟩ := may_few h hma
  obtain ⟨r1, r2, r3⟩ := wr_fit h hma
  refine ⟨by unfold encW; rw [List.length_append, List.length_replicate]; omega, ?_⟩
  rw [len_eq q1 q2 q3 q4, Int.toNat_natCast]
  have a5 := onceN_le op.toNat
  have a6 := eachN_le op.toNat
  have a7 : m.toNat * eachN op.toNat ≤ 64 * 11 := Nat.mul_le_mul (by omega) a6
  omega
theorem anr_sec (op : Int) (R : Bs) (sA : Option Addr) (sn sc : Nat) (eA : Option Addr) (en ec : Nat) : (anR op R sA sn sc eA en ec).sec ≤ 18446744073709551615 := by
  have hs : secR R ≤ 18446744073709551615 := by
    unfold secR
    have h1 := getB_lt ((R.drop 3).take 8)
    have h2 : (256 : Nat) ^ ((R.drop 3).take 8).length ≤ 256 ^ 8 := Nat.pow_le_pow_right (by omega) (by rw [List.length_take]; omega)
    have h3 : (256 : Nat) ^ 8 = 18446744073709551616 := by decide
    omega
  unfold anR; simp only
  split
  · exact hs
  · omega
/-- A row of one's own, told with its block. -/
theorem fby_block {w0 w : World} {v : Value} {R : Bs} (h : FBy w0 v R w) (hp : 0 < R.length) : ∃ g c cur, v = .slice (some ⟨g, 0, none⟩) R.length c ∧ R.length ≤ c ∧ c ≤ maxLen ∧ w0.heap.size ≤ g ∧ Blk w g 5 cur ∧ ∀ (j : Nat) (x : UInt8), R[j]? = some x → cur[j]? = some (.int .u8 (x.toNat : Int)) := by
  have hf := h.far
  rcases h.own with ⟨_, rfl⟩ | ⟨g, cap, rfl, cur, h1, h2, h3, h4, h5⟩
  · simp at hp
  · refine ⟨g, cap, cur, rfl, h3, h4, hf g rfl, h1, fun j x hx => ?_⟩
    have hk : elB.k = 1 := rfl
    rw [hk, Nat.mul_one, rbv_encs] at h5
    have e1 : (bv R)[j]? = some (.int .u8 (x.toNat : Int)) := by simp [bv, hx]
    rw [← h5, List.getElem?_take] at e1
    split at e1
    · simpa using e1
    · cases e1
theorem set_rb {w : World} {g : Nat} {t : TypeId} {cur : Array Value} {R : Bs} (hb : Blk w g t cur) (hc : ∀ (j : Nat) (x : UInt8), R[j]? = some x → cur[j]? = some (.int .u8 (x.toNat : Int))) (i : Nat) (hi : i < R.length) (x : UInt8) :
    RB (w.setCell ⟨g, i, none⟩ (.int .u8 (x.toNat : Int))) (some ⟨g, 0, none⟩) R.length (R.set i x) := by
  have h2 := hb.set_ i (.int .u8 (x.toNat : Int))
  refine ⟨by simp [bv_length], fun _ => ⟨_, rfl, h2.lt, fun j u hu => ?_⟩⟩
  have ha : (⟨g, 0, none⟩ : Addr).add j = ⟨g, j, none⟩ := by unfold Addr.add; split <;> simp_all
  rw [ha, h2.cell]
  have hil : i < cur.size := by
    have := hc i _ (List.getElem?_eq_getElem hi)
    exact (Array.getElem?_eq_some_iff.1 this).1
  simp only [bv, List.getElem?_map, List.getElem?_set] at hu
  rw [Array.getElem?_setIfInBounds]
  by_cases hij : i = j
  · subst hij
    rw [if_pos rfl, if_pos hi] at hu
    rw [if_pos rfl, if_pos hil]
    simpa using hu
  · rw [if_neg hij] at hu
    rw [if_neg hij]
    cases hx : R[j]? with
    | none => rw [hx] at hu; simp at hu
    | some y =>
      rw [hx] at hu
      simp at hu
      rw [hc j y hx, ← hu]
end
end Go.Proofs.Ytmapcdmegkfheaa
