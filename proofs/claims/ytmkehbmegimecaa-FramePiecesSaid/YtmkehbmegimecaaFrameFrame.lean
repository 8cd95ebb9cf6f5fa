/- frame.Frame and Next by contract. -/
import Derived.Test.YtmkehbmegimecaaFrameConcat
namespace Go.Proofs.Ytmkehbmegimecaa
set_option linter.unusedVariables false
set_option linter.unusedSimpArgs false
open Go.RowKit
def FramePost (m : Nat) (l : List UInt8) (w : World) (e : Ending) (w' : World) : Prop := ∃ B c', e = .returned (.tuple #[.slice B (2 + m) c', .int .i64 0]) ∧ Wt w' B (2 + m) c' (be 2 m ++ l) ∧ Below w.heap.size w w' ∧ ∀ g, B.map (·.block) = some g → w.heap.size ≤ g
set_option maxHeartbeats 1000000 in
theorem frame_yes (m c : Nat) (A : Option Addr) (l : List UInt8) (w : World) (hr : RB w A m l) (hm : m ≤ 600) : Calls Try.prog 20 #[.slice A m c] w fun e w' => FramePost m l w e w' := by
  have HR := Lib.hid hr; clear hr
  have hm2 : (m : Int) ≤ 600 := by omega
  have hput := put_any m (by omega) 2 (by omega) (by omega) 
  have HPUT := Lib.hid hput; clear hput
  go_enter Try.func20, Try.ntmps20
  go_wp2_with fail
  refine (HPUT.out _).mono ?_
  rintro e w1 (⟨hlt, P, c1, rfl, hP, hb⟩ | ⟨hge, _, _⟩)
  · have HP := Lib.hid hP; have HB := Lib.hid hb; clear hP hb hlt
    go_wp2_with fail
    refine (concat_two _ 2 m c1 c _ P A (be 2 m) l _ (Blk.new _ _ _) (HP.out.later ((Below.refl _ _).alloc (Nat.le_refl _) _)) ((HR.out.later HB.out).later ((Below.refl _ _).alloc (Nat.le_refl _) _)) (by omega) (by omega) (by omega)).mono ?_
    rintro e w2 ⟨B, c2, rfl, ht, hb, hG⟩
    have HT := Lib.hid ht; have HB2 := Lib.hid hb; have HG := Lib.hid hG
    clear ht hb hG
    go_wp2
    go_ret2
    have hs := HB.out.size
    refine ⟨B, c2, rfl, HT.out, ?_, fun g hg => ?_⟩
    · have h1 := HB.out
      have h2 := HB2.out
      exact below_trans (by go_grown) h2
    · have := HG.out g hg
      simp at this
      omega
  · exfalso
    have : (256 : Nat) ^ 2 = 65536 := by decide
    omega
set_option maxHeartbeats 400000 in
theorem frame_no (m c : Nat) (A : Option Addr) (w : World) (hm : 600 < m) (hm2 : m ≤ maxLen) : Calls Try.prog 20 #[.slice A m c] w fun e w' => e = .returned (.tuple #[.slice none 0 0, .int .i64 2]) ∧ w = w' := by
  unfold maxLen at hm2
  have hm3 : (600 : Int) < (m : Int) := by omega
  go_enter Try.func20, Try.ntmps20
  go_wp2
  go_ret2
  exact ⟨rfl, rfl⟩
theorem Fed.refl (p : Nat) (A : Option Addr) (w : World) : Fed p A w w := ⟨rfl, rfl, rfl, Nat.le_refl _, fun _ _ _ _ => rfl⟩
theorem Fed.trans {p : Nat} {A : Option Addr} {a b c : World} (h : Fed p A a b) (k : Fed p A b c) : Fed p A a c :=
  ⟨k.1.trans h.1, k.2.1.trans h.2.1, k.2.2.1.trans h.2.2.1, Nat.le_trans h.2.2.2.1 k.2.2.2.1, fun i hi hp hA => (k.2.2.2.2 i (Nat.lt_of_lt_of_le hi h.2.2.2.1) hp hA).trans (h.2.2.2.2 i hi hp hA)⟩
theorem Fed.of_below {p : Nat} {A : Option Addr} {a b : World} (h : Below a.heap.size a b) : Fed p A a b := ⟨h.os, h.tape, h.output, h.size, fun i hi _ _ => h.block i hi⟩
theorem Fed.set {p : Nat} {A : Option Addr} (w : World) (i : Nat) (u : Value) : Fed p A w (w.setCell ⟨p, i, none⟩ u) := ⟨rfl, rfl, rfl, by simp, fun b hb hne _ => Below.heap_setCell _ _ _ _ (by simpa using hne)⟩
theorem RB.take {w : World} {A : Option Addr} {n : Nat} {l : List UInt8} (h : RB w A n l) (k : Nat) (hk : k ≤ n) : RB w A k (l.take k) := by
  have hl := h.len
  refine ⟨by simp [bv_length]; omega, fun h0 => ?_⟩
  obtain ⟨ad, e, hb, hc⟩ := h.2 (by omega)
  refine ⟨ad, e, hb, fun j u hu => hc j u ?_⟩
  have : (bv l).take k = bv (l.take k) := by simp [bv, List.map_take]
  rw [← this] at hu
  rw [List.getElem?_take] at hu
  split at hu
  · exact hu
  · cases hu
def Over1 (p : Nat) (A : Option Addr) (room : Int) (l : List UInt8) (w : World) (e : Ending) (w' : World) : Prop :=
  ∃ A' cap' k, k = min (hdr l) (l.length - 2) ∧ e = .returned (.tuple #[.slice none 0 0, .int .i64 2]) ∧ Blk w' p 58 #[.int .i64 room, .slice A' (l.length - 2 - k) cap', .int .i64 ((hdr l : Nat) - (k : Nat) : Int)] ∧ Wt w' A' (l.length - 2 - k) cap' (l.drop (2 + k)) ∧ Fed p none w w' ∧ A'.map (·.block) = A.map (·.block)
def Whole1 (p : Nat) (A : Option Addr) (room ov : Int) (l : List UInt8) (w : World) (e : Ending) (w' : World) : Prop :=
  ∃ A' cap' B c', e = .returned (.tuple #[.slice B (hdr l) c', .int .i64 1]) ∧ Blk w' p 58 #[.int .i64 room, .slice A' (l.length - 2 - hdr l) cap', .int .i64 ov] ∧ Wt w' A' (l.length - 2 - hdr l) cap' (l.drop (2 + hdr l)) ∧ Wt w' B (hdr l) c' ((l.drop 2).take (hdr l)) ∧ Fed p none w w' ∧ A'.map (·.block) = A.map (·.block) ∧ ∀ g, B.map (·.block) = some g → w.heap.size ≤ g
theorem cut_set {p n cap k : Nat} {A : Option Addr} {room ov : Int} {l : List UInt8} {w : World} (hp : Blk w p 58 #[.int .i64 room, .slice A n cap, .int .i64 ov]) (ht : Wt w A n cap l) (hk : k ≤ n) :
    Blk (w.setCell ⟨p, 1, none⟩ (.slice (if cap = k then A else A.map (·.add k)) (n - k) (cap - k))) p 58 #[.int .i64 room, .slice (if cap = k then A else A.map (·.add k)) (n - k) (cap - k), .int .i64 ov] ∧
    Wt (w.setCell ⟨p, 1, none⟩ (.slice (if cap = k then A else A.map (·.add k)) (n - k) (cap - k))) (if cap = k then A else A.map (·.add k)) (n - k) (cap - k) (l.drop k) ∧
    RB (w.setCell ⟨p, 1, none⟩ (.slice (if cap = k then A else A.map (·.add k)) (n - k) (cap - k))) A k (l.take k) := by
  have hA := ht.ne hp (by decide)
  refine ⟨?_, ?_, ?_⟩
  · have h9 := hp.set_ 1 (.slice (if cap = k then A else A.map (·.add k)) (n - k) (cap - k))
    simpa using h9
  · refine (ht.cut hk).far (p := ⟨p, 1, none⟩) ?_ _
    split
    · exact hA
    · rw [map_block]; exact hA
  · exact (ht.rb.take k hk).far (p := ⟨p, 1, none⟩) (fun _ => hA) _
theorem cut_block (A : Option Addr) (cap k : Nat) : (if cap = k then A else A.map (·.add k)).map (·.block) = A.map (·.block) := by
  split
  · rfl
  · exact map_block A k
end Go.Proofs.Ytmkehbmegimecaa
