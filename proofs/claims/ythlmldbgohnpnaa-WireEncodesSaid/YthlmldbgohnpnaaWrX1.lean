/- wire: the document's bytes, plainly (WrX, WrY: never import these beside it). -/
import Derived.Test.YthlmldbgohnpnaaWrU1
import Derived.Test.YthlmldbgohnpnaaWrT
import Derived.Test.YthlmldbgohnpnaaWrJ
namespace Go.Proofs.Ythlmldbgohnpnaa
section
set_option linter.unusedVariables false
set_option linter.unusedSimpArgs false
open Go.RowKit
/-- The bytes that are put for a number. -/
def wputB (x : Int) (k : Nat) : Bs := if x < 0 then [] else be k (toU x)
/-- A number has so many bytes. -/
def wputK (x : Int) (k : Nat) : Bool := if x < 0 then false else decide (toU x < 256 ^ k)
theorem wputB_le (x : Int) (k : Nat) : (wputB x k).length ≤ k := by
  unfold wputB
  split
  · simp
  · rw [be_length]; exact Nat.le_refl _
theorem wput_any (w0 w : World) (v : Value) (R : Bs) (x : Int) (k : Nat) (h1 : 1 ≤ k) (h8 : k ≤ 8) (h : FBy w0 v R w) (hl : R.length ≤ 2000) :
    Calls Try.prog 27 #[v, .int .i64 x, .int .i64 (k : Int)] w fun e w' => ∃ v', e = .returned (.tuple #[v', .bool (wputK x k)]) ∧ Ap w0 w v (R ++ wputB x k) v' w' := by
  unfold wputB wputK
  by_cases hx : x < 0
  · rw [if_pos hx, if_pos hx, List.append_nil]
    exact wput_neg w0 w v R x k hx h
  · rw [if_neg hx, if_neg hx]
    exact wput_pos w0 w v R x (toU x) k (by omega) rfl h1 h8 (toU_le x) h hl
/-- What is put fits just if the code's bytes are the document's. -/
theorem wputK_iff {x : Int} {k : Nat} (hx : x ≤ 9223372036854775807) : wputK x k = true ↔ 0 ≤ x ∧ x < ((256 ^ k : Nat) : Int) := by
  unfold wputK
  by_cases h : x < 0
  · rw [if_pos h]; constructor
    · intro h2; cases h2
    · intro h2; omega
  · rw [if_neg h, decide_eq_true_eq]
    have e : toU x = x.toNat := by unfold toU; omega
    rw [e]
    generalize (256 : Nat) ^ k = b
    omega
end
section
set_option linter.unusedVariables false
set_option linter.unusedSimpArgs false
open Go.RowKit
theorem gN_k (L : Bs) (a k : Nat) : gN L a k < 256 ^ k := by
  have h1 := getB_lt ((L.drop a).take k)
  have h2 : (256 : Nat) ^ ((L.drop a).take k).length ≤ 256 ^ k := Nat.pow_le_pow_right (by omega) (by rw [List.length_take]; omega)
  unfold gN; omega
theorem wputK_gN (L : Bs) (a k : Nat) (h : k ≤ 4) : wputK (gN L a k : Int) k = true := by
  have h1 := gN_small L a k h
  unfold i64ok at h1
  refine (wputK_iff h1.2).2 ⟨by omega, ?_⟩
  have h2 := gN_k L a k
  omega
theorem wputB_pI {x : Int} {k : Nat} (h : wputK x k = true) : wputB x k = pI x k := by
  unfold wputK at h
  unfold wputB pI putL
  by_cases hx : x < 0
  · rw [if_pos hx] at h; cases h
  · rw [if_neg hx] at h ⊢
    rw [if_pos (of_decide_eq_true h)]
/-- The numbers of an operation's fields with their widths. -/
def prsN (r : Rq) (k : Nat) : List (Int × Nat) := (valsN r).zip (widL k)
def datB (l : List (Int × Nat)) : Bs := l.flatMap fun p => wputB p.1 p.2
def datK (l : List (Int × Nat)) : Bool := l.all fun p => wputK p.1 p.2
theorem datB_snoc (l : List (Int × Nat)) (p : Int × Nat) : datB (l ++ [p]) = datB l ++ wputB p.1 p.2 := by simp [datB]
theorem datK_snoc (l : List (Int × Nat)) (p : Int × Nat) : datK (l ++ [p]) = (datK l && wputK p.1 p.2) := by simp [datK]
theorem datB_le (l : List (Int × Nat)) (h : ∀ p ∈ l, p.2 ≤ 8) : (datB l).length ≤ 8 * l.length := by
  induction l with
  | nil => simp [datB]
  | cons p l ih =>
    have e : datB (p :: l) = wputB p.1 p.2 ++ datB l := rfl
    have h1 := wputB_le p.1 p.2
    have h2 := h p (by simp)
    have h3 := ih fun q hq => h q (by simp [hq])
    rw [e, List.length_append, List.length_cons]; omega
def datI (l : List (Int × Nat)) : Bs := l.flatMap fun p => pI p.1 p.2
theorem datB_I (l : List (Int × Nat)) (h : datK l = true) : datB l = datI l := by
  induction l with
  | nil => rfl
  | cons p l ih =>
    have e : datB (p :: l) = wputB p.1 p.2 ++ datB l := rfl
    have e2 : datI (p :: l) = pI p.1 p.2 ++ datI l := rfl
    have e3 : datK (p :: l) = (wputK p.1 p.2 && datK l) := rfl
    rw [e3, Bool.and_eq_true] at h
    rw [e, e2, ih h.2, wputB_pI h.1]
/-- What stands behind the numbers. -/
def tailW (k : Nat) (r : Rq) : Bs := (if k = 6 ∨ k = 7 then be 8 (if k = 6 then r.oth else r.area) else []) ++ (if k = 3 then r.text else [])
def headK (r : Rq) : Bool := wputK r.op 1 && wputK r.ten 1 && wputK r.usr 2 && wputK r.m 1
def headB (r : Rq) : Bs := wputB r.op 1 ++ (wputB r.ten 1 ++ (wputB r.usr 2 ++ (be 8 r.sec ++ wputB r.m 1)))
/-- The document's bytes. -/
def refW (r : Rq) : Bs := headB r ++ (datB (prsN r r.op.toNat) ++ tailW r.op.toNat r)
def refK (r : Rq) : Bool := headK r && datK (prsN r r.op.toNat)
def refOk (r : Rq) : Bool := decide (1 ≤ r.op ∧ r.op ≤ 19) && (decide (r.m ≤ 64) && (decide (r.text.length ≤ 512) && (refK r && (decide ((decR (refW r)).1 = 0) && eqQ (decR (refW r)).2 r))))
theorem putL_be8 {n : Nat} (h : n ≤ 18446744073709551615) : putL n 8 = be 8 n := by
  unfold putL
  rw [if_pos (by have : (256 : Nat) ^ 8 = 18446744073709551616 := by decide
                 omega)]
theorem head_same {r : Rq} (hr : r.Ok) (h : headK r = true) : headB r = hdW r := by
  simp only [headK, Bool.and_eq_true] at h
  obtain ⟨⟨⟨h1, h2⟩, h3⟩, h4⟩ := h
  simp only [headB, hdW, wputB_pI h1, wputB_pI h2, wputB_pI h3, wputB_pI h4, putL_be8 hr.sec]
theorem prs_1 {r : Rq} (h : r.op = 1) : prsN r 1 = [(r.who, 2), (r.role, 1), (r.tier, 1), (r.quota, 2)] := by
  unfold prsN valsN
  rw [h]
  rfl
theorem prs_2 {r : Rq} (h : r.op = 2) : prsN r 2 = [(r.who, 2)] := by
  unfold prsN valsN
  rw [h]
  rfl
theorem prs_3 {r : Rq} (h : r.op = 3) : prsN r 3 = [] := by
  unfold prsN valsN
  rw [h]
  rfl
theorem prs_4 {r : Rq} (h : r.op = 4) : prsN r 4 = [(r.who, 2), (r.rights, 1), (r.til, 4)] := by
  unfold prsN valsN
  rw [h]
  rfl
theorem prs_5 {r : Rq} (h : r.op = 5) : prsN r 5 = [(r.rights, 1), (r.zoom, 1), (r.x0, 2), (r.y0, 2), (r.x1, 2), (r.y1, 2), (r.til, 4)] := by
  unfold prsN valsN
  rw [h]
  rfl
theorem prs_6 {r : Rq} (h : r.op = 6) : prsN r 6 = [] := by
  unfold prsN valsN
  rw [h]
  rfl
theorem prs_7 {r : Rq} (h : r.op = 7) : prsN r 7 = [(r.k, 2)] := by
  unfold prsN valsN
  rw [h]
  rfl
theorem prs_8 {r : Rq} (h : r.op = 8) : prsN r 8 = [(r.px, 2), (r.py, 2), (r.lab, 1)] := by
  unfold prsN valsN
  rw [h]
  rfl
theorem prs_9 {r : Rq} (h : r.op = 9) : prsN r 9 = [] := by
  unfold prsN valsN
  rw [h]
  rfl
theorem prs_10 {r : Rq} (h : r.op = 10) : prsN r 10 = [] := by
  unfold prsN valsN
  rw [h]
  rfl
theorem prs_11 {r : Rq} (h : r.op = 11) : prsN r 11 = [] := by
  unfold prsN valsN
  rw [h]
  rfl
theorem prs_12 {r : Rq} (h : r.op = 12) : prsN r 12 = [] := by
  unfold prsN valsN
  rw [h]
  rfl
theorem prs_13 {r : Rq} (h : r.op = 13) : prsN r 13 = [(r.x0, 2), (r.y0, 2), (r.x1, 2), (r.y1, 2)] := by
  unfold prsN valsN
  rw [h]
  rfl
theorem prs_14 {r : Rq} (h : r.op = 14) : prsN r 14 = [(r.px, 2), (r.py, 2)] := by
  unfold prsN valsN
  rw [h]
  rfl
theorem prs_15 {r : Rq} (h : r.op = 15) : prsN r 15 = [(r.x0, 2), (r.y0, 2), (r.x1, 2), (r.y1, 2)] := by
  unfold prsN valsN
  rw [h]
  rfl
theorem prs_16 {r : Rq} (h : r.op = 16) : prsN r 16 = [(r.px, 2), (r.py, 2)] := by
  unfold prsN valsN
  rw [h]
  rfl
theorem prs_17 {r : Rq} (h : r.op = 17) : prsN r 17 = [(r.fro, 2)] := by
  unfold prsN valsN
  rw [h]
  rfl
theorem prs_18 {r : Rq} (h : r.op = 18) : prsN r 18 = [] := by
  unfold prsN valsN
  rw [h]
  rfl
theorem prs_19 {r : Rq} (h : r.op = 19) : prsN r 19 = [(r.who, 2), (r.quota, 2)] := by
  unfold prsN valsN
  rw [h]
  rfl
theorem fd_same (k : Nat) (h1 : 1 ≤ k) (h19 : k ≤ 19) {r : Rq} (hr : r.Ok) (hk : r.op = (k : Int)) (ht : r.text.length ≤ 512) : datI (prsN r k) ++ tailW k r = fdW k r := by
  have hk9 : k = 1 ∨ k = 2 ∨ k = 3 ∨ k = 4 ∨ k = 5 ∨ k = 6 ∨ k = 7 ∨ k = 8 ∨ k = 9 ∨ k = 10 ∨ k = 11 ∨ k = 12 ∨ k = 13 ∨ k = 14 ∨ k = 15 ∨ k = 16 ∨ k = 17 ∨ k = 18 ∨ k = 19 := by omega
  have e1 := putL_be8 hr.oth
  have e2 := putL_be8 hr.area
  have e3 : r.text.take 512 = r.text := List.take_of_length_le ht
  rcases hk9 with rfl | rfl | rfl | rfl | rfl | rfl | rfl | rfl | rfl | rfl | rfl | rfl | rfl | rfl | rfl | rfl | rfl | rfl | rfl
  · rw [prs_1 hk]; simp [datI, tailW, fdW, boxW, e1, e2, e3]
  · rw [prs_2 hk]; simp [datI, tailW, fdW, boxW, e1, e2, e3]
  · rw [prs_3 hk]; simp [datI, tailW, fdW, boxW, e1, e2, e3]
  · rw [prs_4 hk]; simp [datI, tailW, fdW, boxW, e1, e2, e3]
  · rw [prs_5 hk]; simp [datI, tailW, fdW, boxW, e1, e2, e3]
  · rw [prs_6 hk]; simp [datI, tailW, fdW, boxW, e1, e2, e3]
  · rw [prs_7 hk]; simp [datI, tailW, fdW, boxW, e1, e2, e3]
  · rw [prs_8 hk]; simp [datI, tailW, fdW, boxW, e1, e2, e3]
  · rw [prs_9 hk]; simp [datI, tailW, fdW, boxW, e1, e2, e3]
  · rw [prs_10 hk]; simp [datI, tailW, fdW, boxW, e1, e2, e3]
  · rw [prs_11 hk]; simp [datI, tailW, fdW, boxW, e1, e2, e3]
  · rw [prs_12 hk]; simp [datI, tailW, fdW, boxW, e1, e2, e3]
  · rw [prs_13 hk]; simp [datI, tailW, fdW, boxW, e1, e2, e3]
  · rw [prs_14 hk]; simp [datI, tailW, fdW, boxW, e1, e2, e3]
  · rw [prs_15 hk]; simp [datI, tailW, fdW, boxW, e1, e2, e3]
  · rw [prs_16 hk]; simp [datI, tailW, fdW, boxW, e1, e2, e3]
  · rw [prs_17 hk]; simp [datI, tailW, fdW, boxW, e1, e2, e3]
  · rw [prs_18 hk]; simp [datI, tailW, fdW, boxW, e1, e2, e3]
  · rw [prs_19 hk]; simp [datI, tailW, fdW, boxW, e1, e2, e3]
theorem ref_wr {r : Rq} (hr : r.Ok) (hop : 1 ≤ r.op ∧ r.op ≤ 19) (ht : r.text.length ≤ 512) (h : refK r = true) : refW r = wrR r := by
  simp only [refK, Bool.and_eq_true] at h
  obtain ⟨k, hk⟩ : ∃ k : Nat, r.op = (k : Int) := ⟨r.op.toNat, by omega⟩
  unfold refW wrR
  rw [head_same hr h.1, datB_I _ h.2]
  have e : r.op.toNat = k := by omega
  rw [e]
  rw [fd_same k (by omega) (by omega) hr hk ht]
theorem dec_text {L : Bs} {z : Rq} (h : decR L = (0, z)) : z.text.length ≤ 512 ∧ z.m ≤ 64 := by
  unfold decR at h
  by_cases h1 : L.length < 13
  · rw [if_pos h1] at h; cases h
  rw [if_neg h1] at h
  by_cases h2 : 1 ≤ (hdR L).op ∧ (hdR L).op ≤ 19
  rotate_left
  · rw [if_pos h2] at h; cases h
  rw [if_neg (not_not_intro h2)] at h
  by_cases h3 : 64 < (hdR L).m
  · rw [if_pos h3] at h; cases h
  rw [if_neg h3] at h
  obtain ⟨k, hk⟩ : ∃ k : Nat, (hdR L).op = (k : Int) := ⟨(hdR L).op.toNat, by omega⟩
  rw [hk, Int.toNat_natCast] at h
  by_cases h4 : enoughN k (L.length - 13) = 0
  rotate_left
  · rw [if_pos h4] at h
    injection h with h5
    exact absurd h5 h4
  rw [if_neg (not_not_intro h4)] at h
  by_cases h5 : badR k (fdR k (L.drop 13) (hdR L)) = true
  · rw [if_pos h5] at h; cases h
  rw [if_neg h5] at h
  injection h with _ h
  subst h
  have hm : (fdR k (L.drop 13) (hdR L)).m = (hdR L).m := by unfold fdR boxR; split <;> rfl
  refine ⟨?_, by rw [hm]; omega⟩
  by_cases hk3 : k = 3
  · subst hk3
    have : (fdR 3 (L.drop 13) (hdR L)).text = L.drop 13 := rfl
    rw [this, List.length_drop]
    unfold enoughN at h4
    by_cases ha : L.length - 13 < fieldsN 3
    · rw [if_pos ha] at h4; cases h4
    · rw [if_neg ha, if_pos rfl] at h4
      by_cases hb : 512 < L.length - 13
      · rw [if_pos hb] at h4; cases h4
      · omega
  · have : (fdR k (L.drop 13) (hdR L)).text = (hdR L).text := by
      unfold fdR boxR
      split <;> first | rfl | (exfalso; exact hk3 rfl)
    rw [this]
    simp [hdR, Rq.z]
theorem dec_fine {L : Bs} {z : Rq} (h : decR L = (0, z)) : refK z = true := by
  unfold decR at h
  by_cases h1 : L.length < 13
  · rw [if_pos h1] at h; cases h
  rw [if_neg h1] at h
  by_cases h2 : 1 ≤ (hdR L).op ∧ (hdR L).op ≤ 19
  rotate_left
  · rw [if_pos h2] at h; cases h
  rw [if_neg (not_not_intro h2)] at h
  by_cases h3 : 64 < (hdR L).m
  · rw [if_pos h3] at h; cases h
  rw [if_neg h3] at h
  obtain ⟨k, hk⟩ : ∃ k : Nat, (hdR L).op = (k : Int) := ⟨(hdR L).op.toNat, by omega⟩
  rw [hk, Int.toNat_natCast] at h
  by_cases h4 : enoughN k (L.length - 13) = 0
  rotate_left
  · rw [if_pos h4] at h
    injection h with h5
    exact absurd h5 h4
  rw [if_neg (not_not_intro h4)] at h
  by_cases h5 : badR k (fdR k (L.drop 13) (hdR L)) = true
  · rw [if_pos h5] at h; cases h
  rw [if_neg h5] at h
  injection h with _ h
  have hop : z.op = (k : Int) := by rw [← h, (fdR_head k _ _).1, hk]
  have hkk : z.op.toNat = k := by omega
  have hh : headK z = true := by
    have e : z.op = (hdR L).op ∧ z.ten = (hdR L).ten ∧ z.usr = (hdR L).usr ∧ z.m = (hdR L).m := by
      rw [← h]; unfold fdR boxR; split <;> exact ⟨rfl, rfl, rfl, rfl⟩
    unfold headK
    rw [e.1, e.2.1, e.2.2.1, e.2.2.2]
    simp only [hdR, wputK_gN L 0 1 (by decide), wputK_gN L 1 1 (by decide), wputK_gN L 2 2 (by decide), wputK_gN L 12 1 (by decide), Bool.and_self]
  unfold refK
  rw [hh, hkk, Bool.true_and]
  have hk9 : k = 1 ∨ k = 2 ∨ k = 3 ∨ k = 4 ∨ k = 5 ∨ k = 6 ∨ k = 7 ∨ k = 8 ∨ k = 9 ∨ k = 10 ∨ k = 11 ∨ k = 12 ∨ k = 13 ∨ k = 14 ∨ k = 15 ∨ k = 16 ∨ k = 17 ∨ k = 18 ∨ k = 19 := by omega
  have K := fun a k hk => wputK_gN (L.drop 13) a k hk
  generalize L.drop 13 = M at *
  generalize hdR L = y at *
  clear h1 h2 h3 h4 h5 hh
  rcases hk9 with rfl | rfl | rfl | rfl | rfl | rfl | rfl | rfl | rfl | rfl | rfl | rfl | rfl | rfl | rfl | rfl | rfl | rfl | rfl
  · rw [prs_1 hop]; subst h; simp [datK, fdR, boxR, K _ 1 (by decide), K _ 2 (by decide)]
  · rw [prs_2 hop]; subst h; simp [datK, fdR, boxR, K _ 2 (by decide)]
  · rw [prs_3 hop]; subst h; simp [datK, fdR, boxR]
  · rw [prs_4 hop]; subst h; simp [datK, fdR, boxR, K _ 1 (by decide), K _ 2 (by decide), K _ 4 (by decide)]
  · rw [prs_5 hop]; subst h; simp [datK, fdR, boxR, K _ 1 (by decide), K _ 2 (by decide), K _ 4 (by decide)]
  · rw [prs_6 hop]; subst h; simp [datK, fdR, boxR]
  · rw [prs_7 hop]; subst h; simp [datK, fdR, boxR, K _ 2 (by decide)]
  · rw [prs_8 hop]; subst h; simp [datK, fdR, boxR, K _ 1 (by decide), K _ 2 (by decide)]
  · rw [prs_9 hop]; subst h; simp [datK, fdR, boxR]
  · rw [prs_10 hop]; subst h; simp [datK, fdR, boxR]
  · rw [prs_11 hop]; subst h; simp [datK, fdR, boxR]
  · rw [prs_12 hop]; subst h; simp [datK, fdR, boxR]
  · rw [prs_13 hop]; subst h; simp [datK, fdR, boxR, K _ 2 (by decide)]
  · rw [prs_14 hop]; subst h; simp [datK, fdR, boxR, K _ 2 (by decide)]
  · rw [prs_15 hop]; subst h; simp [datK, fdR, boxR, K _ 2 (by decide)]
  · rw [prs_16 hop]; subst h; simp [datK, fdR, boxR, K _ 2 (by decide)]
  · rw [prs_17 hop]; subst h; simp [datK, fdR, boxR, K _ 2 (by decide)]
  · rw [prs_18 hop]; subst h; simp [datK, fdR, boxR]
  · rw [prs_19 hop]; subst h; simp [datK, fdR, boxR, K _ 2 (by decide)]
theorem ref_ok {r : Rq} (hr : r.Ok) (hop : 1 ≤ r.op ∧ r.op ≤ 19) : refOk r = wrOk r := by
  rw [Bool.eq_iff_iff]
  constructor
  · intro h
    simp only [refOk, Bool.and_eq_true, decide_eq_true_eq] at h
    obtain ⟨_, _, ht, hK, hd, hq⟩ := h
    rw [ref_wr hr hop ht hK] at hd hq
    simp only [wrOk, Bool.and_eq_true, decide_eq_true_eq]
    exact ⟨hd, hq⟩
  · intro h
    have h2 := h
    simp only [wrOk, Bool.and_eq_true, decide_eq_true_eq, eqQ_iff] at h2
    have hd : decR (wrR r) = (0, r) := Prod.ext h2.1 h2.2
    obtain ⟨ht, hm⟩ := dec_text hd
    have hK := dec_fine hd
    simp only [refOk, Bool.and_eq_true, decide_eq_true_eq]
    rw [ref_wr hr hop ht hK]
    exact ⟨hop, hm, ht, hK, h2.1, (eqQ_iff _ _).2 h2.2⟩
end
end Go.Proofs.Ythlmldbgohnpnaa
