/- queue: the library's heap over *entries, by contract. -/
import Derived.Test.YtdmmglnpeoeicaaQLess
import Derived.Deep.RegionLaw
import Derived.Deep.DeepCutAuto
namespace Go.Proofs.Ytdmmglnpeoeicaa
set_option linter.unusedVariables false
set_option linter.unusedSimpArgs false
open Go.RowKit
/-- The queue at q has the entries L, in its own row. -/
def HQ (w : World) (q : Nat) (v : Value) (L : List En) : Prop :=
  Blk w q 48 #[v] ∧ ((v = .slice none 0 0 ∧ L = []) ∨ ∃ g cap, v = .slice (some ⟨g, 0, none⟩) L.length cap ∧ QRow w g cap L)
theorem HQ.keep {w w' : World} {q : Nat} {v : Value} {L : List En} (h : HQ w q v L) (hk : ∀ i, i < w.heap.size → (i = q ∨ v.ownBlock = some i) → w'.heap[i]? = w.heap[i]?) : HQ w' q v L := by
  obtain ⟨h1, h2⟩ := h
  refine ⟨(hk q h1.lt (.inl rfl)).trans h1, ?_⟩
  rcases h2 with h3 | ⟨g, cap, rfl, h3⟩
  · exact .inl h3
  · exact .inr ⟨g, cap, rfl, h3.keep (hk g h3.lt (.inr rfl))⟩
theorem HQ.below {w w' : World} {q : Nat} {v : Value} {L : List En} (h : HQ w q v L) (hb : Below w.heap.size w w') : HQ w' q v L := h.keep fun i hi _ => hb.block i hi
theorem HQ.row {w : World} {q : Nat} {v : Value} {L : List En} (h : HQ w q v L) (h0 : 0 < L.length) : ∃ g cap, v = .slice (some ⟨g, 0, none⟩) L.length cap ∧ QRow w g cap L := by
  rcases h.2 with ⟨_, rfl⟩ | h3
  · simp at h0
  · exact h3
/-- All but block q and the row r are kept. -/
def Turned (q : Nat) (r : Option Nat) (w w' : World) : Prop := w'.os = w.os ∧ w'.tape = w.tape ∧ w'.output = w.output ∧ w.heap.size ≤ w'.heap.size ∧ ∀ i, i < w.heap.size → i ≠ q → r ≠ some i → w'.heap[i]? = w.heap[i]?
theorem Turned.of_below {q : Nat} {r : Option Nat} {w w' : World} (h : Below w.heap.size w w') : Turned q r w w' := ⟨h.os, h.tape, h.output, h.size, fun i hi _ _ => h.block i hi⟩
theorem Turned.of_grown {q : Nat} {r : Option Nat} {w w' : World} (h : w.grownBy w' r) : Turned q r w w' := ⟨h.os, h.tape, h.output, h.size, fun i hi _ hr => h.block i hi (fun e => hr e.symm)⟩
theorem Turned.trans {q : Nat} {r r' : Option Nat} {a b c : World} (h : Turned q r a b) (k : Turned q r' b c) (hr : r' = r ∨ ∀ i, i < a.heap.size → r' ≠ some i) : Turned q r a c :=
  ⟨k.1.trans h.1, k.2.1.trans h.2.1, k.2.2.1.trans h.2.2.1, Nat.le_trans h.2.2.2.1 k.2.2.2.1, fun i hi hq hr' => (k.2.2.2.2 i (Nat.lt_of_lt_of_le hi h.2.2.2.1) hq (by rcases hr with rfl | hr; exact hr'; exact hr i hi)).trans (h.2.2.2.2 i hi hq hr')⟩
theorem Turned.refl (q : Nat) (r : Option Nat) (w : World) : Turned q r w w := ⟨rfl, rfl, rfl, Nat.le_refl _, fun _ _ _ _ => rfl⟩
theorem meth_len0 (F : Nat) (a : Addr) (w : World) : (method (F + 1) 52 (.pointer (some a)) "Len").run Try.prog w = ((loadVar 46 a) >>= fun v => (pure (64, v) : Sem (FuncId × Value))).run Try.prog w := by kernel_rfl
theorem meth_len (F : Nat) (q : Nat) (w : World) (v : Value) (h : w.cell? ⟨q, 0, none⟩ = some v) : (method (F + 1) 52 (.pointer (some ⟨q, 0, none⟩)) "Len").run Try.prog w = .ok (64, v) w := by
  rw [meth_len0]
  simp [go_sem, h]
theorem meth_less0 (F : Nat) (a : Addr) (w : World) : (method (F + 1) 52 (.pointer (some a)) "Less").run Try.prog w = ((loadVar 46 a) >>= fun v => (pure (65, v) : Sem (FuncId × Value))).run Try.prog w := by kernel_rfl
theorem meth_less (F : Nat) (q : Nat) (w : World) (v : Value) (h : w.cell? ⟨q, 0, none⟩ = some v) : (method (F + 1) 52 (.pointer (some ⟨q, 0, none⟩)) "Less").run Try.prog w = .ok (65, v) w := by
  rw [meth_less0]
  simp [go_sem, h]
theorem meth_swap0 (F : Nat) (a : Addr) (w : World) : (method (F + 1) 52 (.pointer (some a)) "Swap").run Try.prog w = ((loadVar 46 a) >>= fun v => (pure (66, v) : Sem (FuncId × Value))).run Try.prog w := by kernel_rfl
theorem meth_swap (F : Nat) (q : Nat) (w : World) (v : Value) (h : w.cell? ⟨q, 0, none⟩ = some v) : (method (F + 1) 52 (.pointer (some ⟨q, 0, none⟩)) "Swap").run Try.prog w = .ok (66, v) w := by
  rw [meth_swap0]
  simp [go_sem, h]
theorem meth_push (F : Nat) (a : Addr) (w : World) : (method (F + 1) 52 (.pointer (some a)) "Push").run Try.prog w = .ok (68, .pointer (some a)) w := by kernel_rfl
theorem meth_pop (F : Nat) (a : Addr) (w : World) : (method (F + 1) 52 (.pointer (some a)) "Pop").run Try.prog w = .ok (67, .pointer (some a)) w := by kernel_rfl
def SV (g n cap : Nat) : Value := .slice (some ⟨g, 0, none⟩) n cap
/-- The queue at q, its row in block g. -/
def HG (w : World) (q g cap : Nat) (L : List En) : Prop := Blk w q 48 #[.slice (some ⟨g, 0, none⟩) L.length cap] ∧ QRow w g cap L
theorem HG.below {w w' : World} {q g cap : Nat} {L : List En} (h : HG w q g cap L) (hb : Below w.heap.size w w') : HG w' q g cap L := ⟨h.1.below hb h.1.lt, h.2.below hb⟩
theorem HG.cell {w : World} {q g cap : Nat} {L : List En} (h : HG w q g cap L) : w.cell? ⟨q, 0, none⟩ = some (.slice (some ⟨g, 0, none⟩) L.length cap) := by
  have := h.1.cell 0
  simpa using this
theorem HG.ne {w : World} {q g cap : Nat} {L : List En} (h : HG w q g cap L) : q ≠ g := by
  obtain ⟨cur, h1, _⟩ := h.2
  exact Blk.ne_ h.1 h1 (by decide)
/-- What a swap leaves. -/
theorem HG.swapped {w w' : World} {q g cap : Nat} {L L' : List En} (h : HG w q g cap L) (hl : L'.length = L.length) (hq : QRow w' g cap L') (hg : w.grownBy w' (some g)) : HG w' q g cap L' :=
  ⟨by rw [hl]; exact h.1.grown hg (fun e => h.ne (by injection e)), hq⟩
def HeapPost (q g cap : Nat) (L : List En) (w : World) (e : Ending) (w' : World) : Prop :=
  e = .returned (.tuple #[]) ∧ ∃ L', L'.Perm L ∧ HeapTo L'.length L' ∧ HG w' q g cap L' ∧ Turned q (some g) w w'
set_option maxHeartbeats 2000000 in
theorem up_any (q g cap : Nat) (L : List En) (w : World) (j : Nat) (h : HG w q g cap L) (hu : UpInv L j) (hlen : L.length ≤ 4611686018427387904) : Calls Try.prog 27 #[.iface 52 (.pointer (some ⟨q, 0, none⟩)), .int .i64 (j : Int)] w fun e w' => HeapPost q g cap L w e w' := by
  have hst : ∃ L', L'.Perm L ∧ UpInv L' j ∧ HG w q g cap L' ∧ Turned q (some g) w w := ⟨L, List.Perm.refl _, hu, h, Turned.refl _ _ _⟩
  have HST := Lib.hid hst; clear hst h hu
  go_enter Try.func27, Try.ntmps27
  go_wp2
  go_loopw [1] (fun j wr => ∃ k : Nat, j = .int .i64 k ∧ Hid (∃ L', L'.Perm L ∧ UpInv L' k ∧ HG wr q g cap L' ∧ Turned q (some g) w wr)) (fun j _ => (intOf j).toNat)
  case atStart => exact ⟨j, rfl, HST⟩
  case round =>
    clear HST
    obtain ⟨k, rfl, hrel⟩ := hrel
    obtain ⟨L', hperm, hinv, hg, htu⟩ := hrel.out
    clear hrel
    have hll := hperm.length_eq
    have hkl : k < L'.length := hinv.1
    have HP := Lib.hid hperm; have HI := Lib.hid hinv; have HG0 := Lib.hid hg; have HT := Lib.hid htu
    clear hperm hinv hg htu
    by_cases h0 : k = 0
    · subst h0
      have hh := HI.out.done0
      have HE := Lib.hid (show HeapPost q g cap L w (.returned (.tuple #[])) wr from ⟨rfl, L', HP.out, hh, HG0.out, HT.out⟩)
      clear hh hll
      go_wp2
      go_end0
      exact HE.out
    · have h1 : (1 : Int) ≤ (k : Int) := by omega
      have hk9 : (k : Int) ≤ 4611686018427387904 := by omega
      have hpl : (k - 1) / 2 < L'.length := by omega
      have hcast : ((k : Int) - 1) / 2 = (((k - 1) / 2 : Nat) : Int) := by omega
      have hpk : (k - 1) / 2 < k := by omega
      have HST2 := Lib.hid (fun hl => HI.out.step (by omega) hl)
      have HDN := Lib.hid (fun hl => HI.out.done hl)
      generalize (k - 1) / 2 = p at *
      have hne : ((p : Int) == (k : Int)) = false := by simp; omega
      have hm := fun F => meth_less F q wr _ HG0.out.cell
      clear hll
      by_cases hl : LtE (at_ L' k) (at_ L' p)
      · have hE := eless_any g cap k p L' wr HG0.out.2 hkl hpl
        rw [ltE_true.2 hl] at hE
        have HE := Lib.hid hE; clear hE
        go_wp2_with fail
        refine HE.out.mono ?_
        rintro e w2 ⟨rfl, hb⟩
        have HG2 := Lib.hid (HG0.out.below hb)
        have HT2 := Lib.hid (HT.out.trans (Turned.of_below (q := q) (r := some g) hb) (.inl rfl))
        clear hm hb
        have hm := fun F => meth_swap F q w2 _ HG2.out.cell
        go_wp2_with fail
        refine (eswap_any g cap p k L' w2 HG2.out.2 hpl hkl).mono ?_
        rintro e w3 ⟨rfl, hq3, hg3⟩
        have HS := Lib.hid (HST2.out hl)
        have HG3 := Lib.hid (HG2.out.swapped (sw_length L' p k) hq3 hg3)
        have HT3 := Lib.hid (HT2.out.trans (Turned.of_grown (q := q) hg3) (.inl rfl))
        have HP3 := Lib.hid ((sw_perm hpl hkl).trans HP.out)
        clear hm hq3 hg3
        go_wp2
        go_roundw
        case rel => exact ⟨p, rfl, Lib.hid ⟨_, HP3.out, HS.out, HG3.out, HT3.out⟩⟩
        case measure => simp [intOf]; omega
      · have hE := eless_any g cap k p L' wr HG0.out.2 hkl hpl
        rw [ltE_false.2 hl] at hE
        have HE := Lib.hid hE; clear hE
        go_wp2_with fail
        refine HE.out.mono ?_
        rintro e w2 ⟨rfl, hb⟩
        have HE2 := Lib.hid (show HeapPost q g cap L w (.returned (.tuple #[])) w2 from ⟨rfl, L', HP.out, HDN.out hl, HG0.out.below hb, HT.out.trans (Turned.of_below (q := q) (r := some g) hb) (.inl rfl)⟩)
        clear hm hb
        go_wp2
        go_end0
        exact HE2.out
end Go.Proofs.Ytdmmglnpeoeicaa
