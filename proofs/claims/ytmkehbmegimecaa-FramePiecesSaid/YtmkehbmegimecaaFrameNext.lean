/- frame: a copy, a length, what is next, by contract. -/
import Derived.Test.YtmkehbmegimecaaFrameFeed
import Derived.Lib.SliceRun
namespace Go.Proofs.Ytmkehbmegimecaa
set_option linter.unusedVariables false
set_option linter.unusedSimpArgs false
open Go.RowKit
def hdr (l : List UInt8) : Nat := 256 * (l.getD 0 0).toNat + (l.getD 1 0).toNat
theorem hdr_lt (l : List UInt8) : hdr l < 65536 := by
  unfold hdr
  have h0 := (l.getD 0 0).toNat_lt
  have h1 := (l.getD 1 0).toNat_lt
  omega
theorem Wt.two {w : World} {A : Option Addr} {n cap : Nat} {l : List UInt8} (h : Wt w A n cap l) (hn : 2 ≤ n) : ∃ g off, A = some ⟨g, off, none⟩ ∧ g < w.heap.size ∧ w.cell? ⟨g, off, none⟩ = some (.int .u8 ((l.getD 0 0).toNat : Int)) ∧ w.cell? ⟨g, off + 1, none⟩ = some (.int .u8 ((l.getD 1 0).toNat : Int)) := by
  obtain ⟨h1, h2, h3⟩ := h
  rcases h3 with ⟨_, h4⟩ | ⟨g, off, cur, rfl, hb, hs, hc⟩
  · omega
  · match l, h1 with
    | [], h1 => simp at h1; omega
    | [_], h1 => simp at h1; omega
    | a :: b :: l, h1 =>
      refine ⟨g, off, rfl, hb.lt, ?_, ?_⟩
      · rw [hb.cell]; exact hc 0 _ (by simp [bv])
      · rw [hb.cell]; exact hc 1 _ (by simp [bv])
theorem getB_two (a b : UInt8) : getB [a, b] = 256 * a.toNat + b.toNat := by simp [getB, getF]
theorem RB_two (w : World) (g : Nat) (t : TypeId) (a b : UInt8) (h : Blk w g t #[.int .u8 (a.toNat : Int), .int .u8 (b.toNat : Int)]) : RB w (some ⟨g, 0, none⟩) 2 [a, b] := by
  refine ⟨by simp [bv], fun _ => ⟨_, rfl, h.lt, fun j u hu => ?_⟩⟩
  rw [add_mid, h.cell, ← hu]
  match j with
  | 0 => simp [bv]
  | 1 => simp [bv]
  | j + 2 => simp [bv]
set_option maxHeartbeats 400000 in
theorem length_any (g c : Nat) (t : TypeId) (a b : UInt8) (w : World) (h : Blk w g t #[.int .u8 (a.toNat : Int), .int .u8 (b.toNat : Int)]) : Calls Try.prog 30 #[.slice (some ⟨g, 0, none⟩) 2 c] w fun e w' => e = .returned (.int .i64 ((256 * a.toNat + b.toNat : Nat) : Int)) ∧ w = w' := by
  have hr := RB_two w g t a b h
  have ha := a.toNat_lt
  have hb := b.toNat_lt
  have hg := get_any (some ⟨g, 0, none⟩) 2 c [a, b] w hr (by omega) (by omega)
  rw [getB_two] at hg
  have hle : ((256 * a.toNat + b.toNat : Nat) : Int) ≤ 65535 := by omega
  have h0 : 0 ≤ ((256 * a.toNat + b.toNat : Nat) : Int) := by omega
  generalize 256 * a.toNat + b.toNat = N at hg hle h0 ⊢
  have HG := Lib.hid hg; clear hg
  go_enter Try.func30, Try.ntmps30
  go_wp2_with fail
  refine (HG.out).mono ?_
  rintro e w1 ⟨rfl, rfl⟩
  go_wp2
  go_ret
  exact ⟨rfl, rfl⟩
def ClonePost (k : Nat) (l : List UInt8) (w : World) (e : Ending) (w' : World) : Prop := ∃ B c', e = .returned (.slice B k c') ∧ Wt w' B k c' l ∧ Below w.heap.size w w' ∧ ∀ g, B.map (·.block) = some g → w.heap.size ≤ g
set_option maxHeartbeats 1000000 in
theorem clone_any (A : Option Addr) (k c : Nat) (l : List UInt8) (w : World) (hr : RB w A k l) (hk : k ≤ 549755813888) : Calls Try.prog 27 #[.slice A k c] w fun e w' => ClonePost k l w e w' := by
  cases A with
  | none =>
    have hl := hr.len
    have hk0 : k = 0 := by
      rcases Nat.eq_zero_or_pos k with h | h
      · exact h
      · obtain ⟨ad, h9, _⟩ := hr.2 h
        cases h9
    subst hk0
    have hn : l = [] := List.eq_nil_of_length_eq_zero hl
    subst hn
    clear hr hl
    have hck := fun W : World => Lib.run_eql_slice_nil (P := Try.prog) W 28 5 none 0 c 0 0 Try.underlying28
    go_enter Try.func27, Try.ntmps27
    go_wp2
    go_ret
    exact ⟨none, 0, rfl, Wt.nil_ _, Below.refl _ _, fun g hg => by simp at hg⟩
  | some ad =>
    have HR := Lib.hid hr; clear hr
    have hck := fun W : World => Lib.run_eql_slice_nil (P := Try.prog) W 28 5 (some ad) k c 0 0 Try.underlying28
    go_enter Try.func27, Try.ntmps27
    go_wp2_with ((at_builtin; refine wpList_append_wt _ rfl (.tmp 5) (.tmp 6) rfl (some ⟨w.heap.size, 0, none⟩) (some ad) 0 0 k c [] l rfl rfl (by exact ⟨rfl, Nat.le_refl _, .inr ⟨w.heap.size, 0, #[], rfl, Blk.new _ _ _, by simp, fun j u hu => by simp [bv] at hu⟩⟩) (by exact Reads.keep (B := w.heap.size) HR.out (fun p hp => World.cell?_alloc_lt w _ p (by omega)) |>.more (by simp)) (by omega) ?_; intro A' cap' w1 ht1 hg1 hl1; have HT1 := Lib.hid ht1; have HG1 := Lib.hid hg1; have HL1 := Lib.hid hl1; clear ht1 hg1 hl1))
    go_ret
    refine ⟨A', cap', by first | rfl | simp, by have h9 := HT1.out; simpa using h9, ?_, fun g hg => ?_⟩
    · exact ((Below.refl _ _).alloc (Nat.le_refl _) _).grown HG1.out (by simp) (fun g hg => by simp at hg; omega)
    · have h9 := HL1.out
      rw [hg] at h9
      simp at h9
      omega
end Go.Proofs.Ytmkehbmegimecaa
