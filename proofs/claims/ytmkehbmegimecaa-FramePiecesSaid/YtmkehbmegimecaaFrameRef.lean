/- The document's frame by contract; rows of bytes. -/
import Derived.Test.YtmkehbmegimecaaFrameJoin
import Derived.Test.YtmkehbmegimecaaFrame
namespace Go.Proofs.Ytmkehbmegimecaa
set_option linter.unusedVariables false
set_option linter.unusedSimpArgs false
open Go.RowKit
/-- Rows of bytes that came in. -/
def IsRows (w : World) (a : Option Addr) (len cap : Nat) : Prop :=
  (a = none ∧ len = 0 ∧ cap = 0) ∨ ∃ x, a = some x ∧ len ≤ cap ∧ cap ≤ maxLen ∧ ∀ r, r < cap → ∃ A L C Z, w.cell? (x.add r) = some (.slice A L C) ∧ IsRow .u8 w A L C Z
theorem IsRows.at {w : World} {a : Option Addr} {len cap : Nat} (h : IsRows w a len cap) (k : Nat) (hk : k < len) : ∃ x A L C, ∃ l : List UInt8, a = some x ∧ w.cell? (x.add k) = some (.slice A L C) ∧ RB w A L l ∧ L ≤ C ∧ L ≤ maxLen := by
  rcases h with ⟨_, h1, _⟩ | ⟨x, rfl, h1, h2, h3⟩
  · omega
  · obtain ⟨A, L, C, Z, hc, hr⟩ := h3 k (by omega)
    obtain ⟨hm, l, hl⟩ := hr.rb
    refine ⟨x, A, L, C, l, rfl, hc, hl, ?_, hm⟩
    rcases hr with ⟨_, rfl, rfl, _⟩ | ⟨_, _, h, _⟩
    · exact Nat.le_refl _
    · exact h
theorem be_two (m : Nat) (h : m ≤ 65535) : be 2 m = [UInt8.ofNat (m / 256), UInt8.ofNat (m % 256)] := by
  simp [be, bN]
  rw [Nat.mod_eq_of_lt (by omega)]
theorem hdr_be (m : Nat) (l : List UInt8) (h : m ≤ 65535) : hdr (be 2 m ++ l) = m := by
  rw [be_two m h]
  simp [hdr]
  omega
set_option maxHeartbeats 1000000 in
theorem rframe_any (A : Option Addr) (m c : Nat) (l : List UInt8) (w : World) (hr : RB w A m l) (hm : m ≤ 600) : Calls Try.prog 21 #[.slice A m c] w fun e w' => JoinPost (2 + m) (be 2 m ++ l) w e w' := by
  have hb2 := be_two m (by omega)
  have ea : (m : Int) / 256 = ((UInt8.ofNat (m / 256)).toNat : Int) := by simp; omega
  have eb : (m : Int) % 256 = ((UInt8.ofNat (m % 256)).toNat : Int) := by simp
  have la := (UInt8.ofNat (m / 256)).toNat_lt
  have lb := (UInt8.ofNat (m % 256)).toNat_lt
  rw [hb2]
  generalize UInt8.ofNat (m / 256) = a at *
  generalize UInt8.ofNat (m % 256) = b at *
  have la2 : (a.toNat : Int) ≤ 255 := by omega
  have lb2 : (b.toNat : Int) ≤ 255 := by omega
  have HR := Lib.hid hr; clear hr hb2 la lb
  have hm2 : (m : Int) ≤ 600 := by omega
  go_enter Try.func21, Try.ntmps21
  go_wp2_with fail
  refine (join_any _ A 2 _ m c [a, b] l _ (RB_pair _ _ a b) (HR.out.later ((Below.refl _ _).alloc (Nat.le_refl _) _)) (by omega) (by omega)).mono ?_
  rintro e w2 ⟨v, rfl, G, c2, rfl, ht, hb, hG⟩
  have HT := Lib.hid ht; have HB := Lib.hid hb; have HG := Lib.hid hG; clear ht hb hG
  go_wp2
  go_ret
  refine ⟨_, rfl, G, c2, rfl, HT.out, ?_, fun g hg => ?_⟩
  · have h1 := HB.out
    exact below_trans (by go_grown) h1
  · have := HG.out g hg
    simp at this
    omega
end Go.Proofs.Ytmkehbmegimecaa
