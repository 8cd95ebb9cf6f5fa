/- reply: the document's bytes are the code's. -/
import Derived.Test.YtmapcdmegkfheaaZbRe20
namespace Go.Proofs.Ytmapcdmegkfheaa
set_option linter.unusedVariables false
set_option linter.unusedSimpArgs false
open Go.RowKit
theorem put_be {x : Int} {k b : Nat} (hb : b < 256 ^ k) (h0 : 0 ≤ x) (h1 : x ≤ (b : Int)) : putL (toU x) k = be k (toU x) := by
  unfold putL
  have h2 : toU x ≤ b := by unfold toU; omega
  rw [if_pos (by omega)]
theorem rowB1 (k : Nat) (x : Int) : rowB k [x] = putL (toU x) k := by simp [rowB]
theorem rowB2 (k : Nat) (x y : Int) : rowB k [x, y] = putL (toU x) k ++ putL (toU y) k := by simp [rowB]
theorem rowB3 (k : Nat) (x y z : Int) : rowB k [x, y, z] = putL (toU x) k ++ (putL (toU y) k ++ putL (toU z) k) := by simp [rowB]
theorem rowB4 (k : Nat) (x y z t : Int) : rowB k [x, y, z, t] = putL (toU x) k ++ (putL (toU y) k ++ (putL (toU z) k ++ putL (toU t) k)) := by simp [rowB]
theorem be1 {x : Int} (h0 : 0 ≤ x) (h1 : x ≤ 255) : be 1 (toU x) = [UInt8.ofNat x.toNat] := by
  have : toU x = x.toNat := by unfold toU; omega
  rw [this]
  have h256 : x.toNat % 256 = x.toNat := by omega
  show [UInt8.ofNat (bN 0 x.toNat)] = _
  unfold bN
  rw [Nat.pow_zero, Nat.div_one, h256]
theorem within_iff {n a b : Int} : withinB n a b = true ↔ a ≤ n ∧ n ≤ b := by simp [withinB]
theorem rect_be {a b c d : Int} (h : rightB a b c d = true) : rowB 2 [a, b, c, d] = rectE a b c d := by
  rw [rightB_iff] at h
  rw [rowB4, put_be (b := 65535) (by decide) (by omega) (by omega), put_be (b := 65535) (by decide) (by omega) (by omega), put_be (b := 65535) (by decide) (by omega) (by omega), put_be (b := 65535) (by decide) (by omega) (by omega)]
  rfl
theorem seen_be {s : Snt} (h : snB s = true) : seenW s = seenE s := by
  unfold snB at h
  simp only [Bool.and_eq_true, within_iff] at h
  obtain ⟨h1, h2, h3⟩ := h
  unfold seenW seenE
  rw [rect_be h3, rowB1, rowB1, put_be (b := 65535) (by decide) h1.1 h1.2, put_be (b := 255) (by decide) h2.1 (by omega)]
theorem evt_be {e : Evt} (h : evB e = true) : evtW e = evtE e := by
  unfold evB at h
  simp only [Bool.and_eq_true, within_iff] at h
  obtain ⟨h1, h2, h3, h4⟩ := h
  unfold evtW evtE
  rw [rowB1, rowB2, rowB1, put_be (b := 65535) (by decide) h1.1 h1.2, put_be (b := 255) (by decide) h2.1 h2.2, put_be (b := 255) (by decide) h3.1 h3.2, put_be (b := 4294967295) (by decide) h4.1 h4.2]
  simp only [List.append_assoc]
theorem flat_congr {α : Type} {f g : α → Bs} {L : List α} (h : ∀ x ∈ L, f x = g x) : L.flatMap f = L.flatMap g := by
  induction L with
  | nil => rfl
  | cons x L ih =>
    rw [List.flatMap_cons, List.flatMap_cons, h x (by simp), ih fun y hy => h y (by simp [hy])]
theorem head_be {op : Int} {a : An} (h1 : 1 ≤ op) (h2 : op ≤ 19) (h3 : 0 ≤ a.st) (h4 : a.st ≤ 12) (h5 : a.sn + a.en ≤ 128) : rowB 1 [a.st, op, (a.sn : Int) + (a.en : Int)] = headE op a := by
  have e : ((a.sn : Int) + (a.en : Int)).toNat = a.sn + a.en := by omega
  rw [rowB3, put_be (b := 255) (by decide) (by omega) (by omega), put_be (b := 255) (by decide) (by omega) (by omega), put_be (b := 255) (by decide) (by omega) (by omega), be1 h3 (by omega), be1 (by omega) (by omega), be1 (by omega) (by omega), e]
  rfl
theorem pad_eq (H Z : Bs) (n k : Nat) (hz : Z = List.replicate k 0) (hn : H.length + k ≤ n) : H ++ Z ++ List.replicate (n - (H ++ Z).length) 0 = H ++ List.replicate (n - H.length) 0 := by
  subst hz
  rw [List.append_assoc, List.replicate_append_replicate, List.length_append, List.length_replicate]
  congr 2
  omega
end Go.Proofs.Ytmapcdmegkfheaa
