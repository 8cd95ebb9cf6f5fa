/- token: rows of tickets, cells set at once; what is gone; the closures, by contract. -/
import Derived.Test.YtmlmndaflgfdkaaTo5
namespace Go.Proofs.Ytmlmndaflgfdkaa
set_option linter.unusedVariables false
set_option linter.unusedSimpArgs false
open Go.RowKit
theorem Blk.setCells {g : Nat} {t : TypeId} : ∀ (vs : List Value) (o : Nat) (cur : Array Value) (w : World), Blk w g t cur → o + vs.length ≤ cur.size → Blk (w.setCells g o vs) g t (cur.toList.take o ++ vs ++ cur.toList.drop (o + vs.length)).toArray
  | [], o, cur, w, h, _ => by
    simp only [World.setCells, List.append_nil, List.length_nil, Nat.add_zero, List.take_append_drop, Array.toArray_toList]
    exact h
  | v :: r, o, cur, w, h, hl => by
    simp only [List.length_cons] at hl
    have ih := Blk.setCells r (o + 1) (cur.setIfInBounds o v) (w.setCell ⟨g, o, none⟩ v) (h.set_ o v) (by simp; omega)
    have e := list_seg_step cur.toList o v r (by simp; omega)
    rw [Array.toList_setIfInBounds, e] at ih
    exact ih
theorem But.setCells {g : Nat} : ∀ (vs : List Value) (o : Nat) (w : World), But g w (w.setCells g o vs)
  | [], o, w => But.refl g w
  | v :: r, o, w => (But.set w o v).trans (But.setCells r (o + 1) _)
theorem ERow.put {α : Type} {E : El α} (hE : E.Ok) {w : World} {g cap : Nat} {M N : List α} {a : Nat} (h : ERow E w g cap M) (ha : a + N.length ≤ M.length) : ERow E (w.setCells g (a * E.k) (E.encs N)) g cap (M.take a ++ N ++ M.drop (a + N.length)) := by
  obtain ⟨cur, h1, h2, h3, h4, h5⟩ := h
  have hk : (a + N.length) * E.k ≤ M.length * E.k := Nat.mul_le_mul_right _ ha
  have hk2 : M.length * E.k ≤ cap * E.k := Nat.mul_le_mul_right _ h3
  have hN := El.encs_length hE N
  have hM := El.encs_length hE M
  rw [Nat.add_mul] at hk
  have hb := h1.setCells (E.encs N) (a * E.k) cur w (by rw [hN, h2]; omega)
  have hlen : (M.take a ++ N ++ M.drop (a + N.length)).length = M.length := by simp; omega
  refine ⟨_, hb, ?_, by rw [hlen]; exact h3, h4, ?_⟩
  · rw [List.size_toArray, List.length_append, List.length_append, List.length_take, List.length_drop, Array.length_toList, h2, hN]; omega
  · rw [hlen]
    have e1 : ∀ (X : List α) (n : Nat), E.encs (X.take n) = (E.encs X).take (n * E.k) := fun X n => by
      induction X generalizing n with
      | nil => simp [El.encs]
      | cons x r ih =>
        cases n with
        | zero => simp [El.encs]
        | succ n =>
          have e2 : ∀ (y : α) (Y : List α), E.encs (y :: Y) = E.enc y ++ E.encs Y := fun y Y => by simp [El.encs]
          have hx := hE.len x
          rw [List.take_succ_cons, e2, e2, ih, List.take_append, Nat.add_mul, Nat.one_mul, show (E.enc x).take (n * E.k + E.k) = E.enc x from List.take_of_length_le (by omega), hx, show n * E.k + E.k - E.k = n * E.k by omega]
    have e3 : ∀ (X : List α) (n : Nat), E.encs (X.drop n) = (E.encs X).drop (n * E.k) := fun X n => by
      have h := congrArg E.encs (List.take_append_drop n X)
      rw [El.encs_append, e1] at h
      have h2 := List.take_append_drop (n * E.k) (E.encs X)
      exact List.append_cancel_left (h.trans h2.symm)
    rw [El.encs_append, El.encs_append, e1, e3, ← h5]
    simp only
    have hcl : cur.toList.length = cap * E.k := by simp [h2]
    apply List.ext_getElem?
    intro j
    simp only [List.getElem?_take, List.getElem?_append, List.length_append, List.length_take, List.getElem?_drop, hN, hcl]
    rw [Nat.add_mul]
    have m1 : min (a * E.k) (cap * E.k) = a * E.k := by omega
    have m2 : min (a * E.k) (min (M.length * E.k) (cap * E.k)) = a * E.k := by omega
    rw [m1, m2]
    by_cases hj : j < M.length * E.k
    · rw [if_pos hj]
      by_cases hj2 : j < a * E.k + N.length * E.k
      · rw [if_pos hj2, if_pos hj2]
        by_cases hj3 : j < a * E.k
        · rw [if_pos hj3, if_pos hj3, if_pos hj3, if_pos hj3, if_pos hj]
        · rw [if_neg hj3, if_neg hj3]
      · rw [if_neg hj2, if_neg hj2]
        have : a * E.k + N.length * E.k + (j - (a * E.k + N.length * E.k)) = j := by omega
        rw [this, if_pos hj]
    · rw [if_neg hj]
      rw [if_neg (by omega)]
      have : a * E.k + N.length * E.k + (j - (a * E.k + N.length * E.k)) = j := by omega
      rw [this, if_neg hj]
/-- What is gone: secrets in a row that the variable at c holds; neither is the row of the block g. -/
structure GN (W : World) (c : Nat) (v : Value) (G : List Nat) : Prop where
  ex : ∃ A cap, Blk W c 86 #[.slice A G.length cap] ∧ RU W A G.length G ∧ ∀ ad, A = some ad → v.ownBlock ≠ some ad.block
  ne : v.ownBlock ≠ some c
theorem GN.below {W W' : World} {c : Nat} {v : Value} {G : List Nat} (h : GN W c v G) (hb : Below W.heap.size W W') : GN W' c v G := by
  obtain ⟨⟨A, cap, h1, h2, h3⟩, h4⟩ := h
  exact ⟨⟨A, cap, Blk.thru0 h1 hb, h2.below hb, h3⟩, h4⟩
theorem RU.but {w w' : World} {A : Option Addr} {n g : Nat} {l : List Nat} (h : RU w A n l) (hb : But g w w') (hA : ∀ ad, A = some ad → ad.block ≠ g) : RU w' A n l := by
  refine ⟨⟨h.rd.1, fun hn => ?_⟩, h.le⟩
  obtain ⟨ad, e, hl, hc⟩ := h.rd.2 hn
  refine ⟨ad, e, Nat.lt_of_lt_of_le hl hb.size, fun j u hu => ?_⟩
  rw [← hc j u hu]
  exact World.cell?_of_block (hb.block _ (by rw [block_of_add]; exact hl) (by rw [block_of_add]; exact hA ad e))
theorem GN.but {W W' : World} {c g : Nat} {v : Value} {G : List Nat} (h : GN W c v G) (hg : v.ownBlock = some g) (hb : But g W W') : GN W' c v G := by
  obtain ⟨⟨A, cap, h1, h2, h3⟩, h4⟩ := h
  exact ⟨⟨A, cap, h1.but hb (fun e => h4 (by rw [hg, e])), h2.but hb (fun ad e hb => h3 ad e (by rw [hg, hb])), h3⟩, h4⟩
set_option maxHeartbeats 2000000 in
theorem dropc_any (w : World) (c : Nat) (v : Value) (G : List Nat) (k : Tk) (h : GN w c v G) (hl : G.length ≤ 1000) (hk : k.sec ≤ 18446744073709551615) :
    Calls Try.prog 55 #[k.V, ptrA c] w fun e w' => e = .returned (.bool (hasN G k.sec)) ∧ Below w.heap.size w w' := by
  obtain ⟨⟨A, cap, h1, h2, h3⟩, h4⟩ := h
  have HB := Lib.hid h1
  have HR := Lib.hid h2
  clear h1 h2 h3 h4
  obtain ⟨xs, xp, ⟨g0, g1, g2, g3, g4, g5, g6, g7⟩⟩ := k
  simp only [Tk.V] at hk ⊢
  have hz := HB.out.lt
  go_enter Try.func55, Try.ntmps55
  have t0 : (w.alloc (.cells #[.int .u64 xs, .int .u64 xp, .int .i64 g0, .int .i64 g1, .int .i64 g2, .int .i64 g3, .int .i64 g4, .int .i64 g5, .bool g6, .int .i64 g7] 35)).cell? ⟨c, 0, none⟩ = some (.slice A G.length cap) := (HB.out.alloc _).cell 0
  go_wp2_with fail
  refine (thas_any _ A cap G xs hk (HR.out.below ((Below.refl _ _).alloc (Nat.le_refl _) _)) hl).mono ?_
  rintro e w2 ⟨rfl, hb2⟩
  have HB2 := Lib.hid (below_trans ((Below.refl _ _).alloc (Nat.le_refl _) _) hb2)
  clear hb2
  go_wp2
  go_ret
  exact ⟨rfl, HB2.out⟩
end Go.Proofs.Ytmlmndaflgfdkaa
