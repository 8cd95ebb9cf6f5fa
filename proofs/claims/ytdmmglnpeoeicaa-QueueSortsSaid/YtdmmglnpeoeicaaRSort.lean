/- The document's Sort of entries, by contract. -/
import Derived.Test.YtdmmglnpeoeicaaQRd
import Derived.Test.YtdmmglnpeoeicaaQPut
import Derived.Test.YtdmmglnpeoeicaaQPush
namespace Go.Proofs.Ytdmmglnpeoeicaa
set_option linter.unusedVariables false
set_option linter.unusedSimpArgs false
open Go.RowKit
theorem srt_nil : Srt [] := List.Pairwise.nil
def RSt (w : World) (A : Option Addr) (k c : Nat) (S : List En) (wr : World) : Prop := ∃ T, T.Perm (S.take k) ∧ Srt T ∧ T.length = k ∧ QOwn wr (.slice A k c) T ∧ Below w.heap.size w wr
def RSortP (w : World) (n : Nat) (S : List En) (e : Ending) (w' : World) : Prop :=
  ∃ B c' T, e = .returned (.slice B n c') ∧ QOwn w' (.slice B n c') T ∧ T.Perm S ∧ Srt T ∧ Below w.heap.size w w'
set_option maxHeartbeats 4000000 in
theorem rsort_any (A : Option Addr) (n c : Nat) (S : List En) (w : World) (h : Rd w A n c S) (hn : n ≤ 1000000) :
    Calls Try.prog 19 #[.slice A n c] w fun e w' => RSortP w n S e w' := by
  have HH := Lib.hid h
  have hn9 : (n : Int) ≤ 1000000 := by omega
  have HR := Lib.hid (show RSt w none 0 0 S w from ⟨[], by simp, srt_nil, rfl, QOwn.nil_ _, Below.refl _ _⟩)
  clear h
  go_enter Try.func19, Try.ntmps19
  go_wp2
  go_loopw [3, 4] (fun vo vi wr => ∃ (k c : Nat) (A : Option Addr), vi = .int .i64 k ∧ vo = .slice A k c ∧ k ≤ n ∧ Hid (RSt w A k c S wr)) (fun _ vi _ => n - (intOf vi).toNat)
  case atStart => exact ⟨0, 0, none, rfl, rfl, Nat.zero_le _, HR⟩
  case round =>
    clear HR
    obtain ⟨k, c1, A1, rfl, rfl, hk, hrel⟩ := hrel
    obtain ⟨T, hp, hs, hl, ho, hb⟩ := hrel.out
    by_cases hlt : k < n
    · have hki : (k : Int) < (n : Int) := by omega
      obtain ⟨g, off, rfl, b0, b1, b2⟩ := HH.out.cell hlt
      have a0 := cell_later hb b0
      have a1 := cell_later hb b1
      have a2 := cell_later hb b2
      have hT1 : S.take (k + 1) = S.take k ++ [at_ S k] := take_more (by rw [HH.out.1]; exact hlt)
      generalize at_ S k = y at *
      have HT1 := Lib.hid hT1; have HP := Lib.hid hp; have HS := Lib.hid hs; have HB := Lib.hid hb; have HL := Lib.hid hl
      have HC := Lib.hid (rput_any A1 k c1 T y wr ho.hv (by omega))
      clear hT1 hp hs hb ho hrel hl b0 b1 b2
      go_wp2_with fail
      refine HC.out.mono ?_
      rintro e w2 ⟨B, c2, rfl, ho2, hb2, hx⟩
      have hil : (ins y T).length = k + 1 := by rw [ins_length, HL.out]
      rw [hil] at ho2 ⊢
      have HN := Lib.hid (show RSt w B (k + 1) c2 S w2 from ⟨ins y T, by rw [HT1.out]; exact (ins_perm y T).trans ((List.Perm.cons y HP.out).trans (List.perm_append_singleton y (S.take k)).symm), ins_srt y T HS.out, hil, ho2, below_trans HB.out hb2⟩)
      clear ho2 hb2 hx hil HC
      go_wp2
      go_roundw
      case rel => exact ⟨k + 1, c2, B, by go_num, rfl, by omega, HN⟩
      case measure => simp [intOf]; omega
    · obtain rfl : k = n := by omega
      have HE := Lib.hid (show RSortP w k S (.returned (.slice A1 k c1)) wr from ⟨A1, c1, T, rfl, ho, by rw [List.take_of_length_le (by rw [HH.out.1]; exact Nat.le_refl _)] at hp; exact hp, hs, hb⟩)
      clear hp hs hl ho hb hrel
      go_wp2
      go_ret
      exact HE.out
/-- A copy under way. -/
def WasSt (w : World) (v : Value) (L : List En) (wr : World) : Prop := QOwn wr v L ∧ Below w.heap.size w wr ∧ ∀ i, v.ownBlock = some i → w.heap.size ≤ i
theorem WasSt.append {w wr X w' : World} {y : En} {v v' : Value} {L : List En} (h : WasSt w v L wr) (hX : Below wr.heap.size wr X) (ha : Appended v (L ++ [y]) X v' w') : WasSt w v' (L ++ [y]) w' := by
  obtain ⟨h1, h2, h4⟩ := h
  obtain ⟨g, cap, rfl, hr, hg, ho⟩ := ha
  have hB : Below w.heap.size w X := below_trans h2 hX
  have hg9 : w.heap.size ≤ g := by
    rcases ho with ho | ho
    · exact h4 g ho
    · have := hB.size; omega
  refine ⟨.inr ⟨g, cap, rfl, hr⟩, ⟨hg.os.trans hB.os, hg.tape.trans hB.tape, hg.output.trans hB.output, Nat.le_trans hB.size hg.size, fun i hi => ?_⟩, fun i hi => ?_⟩
  · rw [hg.block i (Nat.lt_of_lt_of_le hi hB.size) (fun e => by have := h4 i e.symm; omega)]
    exact hB.block i hi
  · simp [Value.ownBlock] at hi; omega
theorem WasSt.below {w wr X : World} {v : Value} {L : List En} (h : WasSt w v L wr) (hX : Below wr.heap.size wr X) : WasSt w v L X :=
  ⟨h.1.below hX, below_trans h.2.1 hX, h.2.2⟩
theorem srt_at {T : List En} (h : Srt T) {p k : Nat} (hpk : p < k) (hk : k < T.length) : ltE (at_ T k) (at_ T p) = false := by
  have := List.pairwise_iff_getElem.1 h p k (by omega) hk hpk
  rw [at_get hk, at_get (show p < T.length by omega)]
  exact ltE_false.2 this
end Go.Proofs.Ytdmmglnpeoeicaa
