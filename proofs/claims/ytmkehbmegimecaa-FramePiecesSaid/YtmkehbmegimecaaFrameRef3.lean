/- The document's buffer by contract: Next. -/
import Derived.Test.YtmkehbmegimecaaFrameRef2
namespace Go.Proofs.Ytmkehbmegimecaa
set_option linter.unusedVariables false
set_option linter.unusedSimpArgs false
open Go.RowKit
theorem RB.far3 {w : World} {B : Option Addr} {m g : Nat} {l : List UInt8} (h : RB w B m l) (hne : 0 < m → B.map (·.block) ≠ some g) (a b c : Value) : RB (((w.setCell ⟨g, 0, none⟩ a).setCell ⟨g, 1, none⟩ b).setCell ⟨g, 2, none⟩ c) B m l :=
  ((h.far (p := ⟨g, 0, none⟩) hne a).far (p := ⟨g, 1, none⟩) hne b).far (p := ⟨g, 2, none⟩) hne c
theorem RB.old_ne {w : World} {A : Option Addr} {n g : Nat} {l : List UInt8} (h : RB w A n l) (hg : w.heap.size ≤ g) : 0 < n → A.map (·.block) ≠ some g := fun h0 => by
  obtain ⟨ad, rfl, hlt, _⟩ := h.2 h0
  simp; omega
theorem RB.two {w : World} {A : Option Addr} {n : Nat} {l : List UInt8} (h : RB w A n l) (hn : 2 ≤ n) : ∃ ad, A = some ad ∧ w.cell? (ad.add 0) = some (.int .u8 ((l.getD 0 0).toNat : Int)) ∧ w.cell? (ad.add 1) = some (.int .u8 ((l.getD 1 0).toNat : Int)) := by
  obtain ⟨ad, rfl, _, h0⟩ := h.at 0 (by omega)
  obtain ⟨ad', e, _, h1⟩ := h.at 1 (by omega)
  cases e
  have hl := h.len
  refine ⟨ad, rfl, ?_, ?_⟩
  · rw [h0, List.getD_eq_getElem?_getD, List.getElem?_eq_getElem (by omega)]; rfl
  · rw [h1, List.getD_eq_getElem?_getD, List.getElem?_eq_getElem (by omega)]; rfl
set_option maxHeartbeats 1000000 in
theorem rnext_few (A : Option Addr) (n c ov : Nat) (room : Int) (l : List UInt8) (w : World) (hx : RB w A n l) (hn : n ≤ c) (hn2 : n ≤ 65536) (hov : ov ≤ 65535) (h2 : n < 2) : Calls Try.prog 12 #[.agg #[.int .i64 room, .slice A n c, .int .i64 (ov : Int)]] w fun e w' => RNextPost A 0 room n l (ov : Int) 0 [] w e w' := by
  have HX := Lib.hid hx; clear hx
  have h2i : (n : Int) < 2 := by omega
  go_enter Try.func12, Try.ntmps12
  go_wp2_with fail
  have hr := HX.out
  refine bodyPost_ret (v := .tuple #[.agg #[.int .i64 room, .slice A n c, .int .i64 (ov : Int)], .slice none 0 0, .int .i64 0]) ?_ rfl ⟨A, c, none, 0, rfl, ?_, hn, ?_, by go_grown, rfl, fun h => by omega⟩
  · simp [results, Try.results12, go_sem, *]
  · first | exact (((hr.later (by go_grown : Below w.heap.size w _)))) | exact RB.far3 (hr.later (by go_grown)) (hr.old_ne (by omega)) _ _ _
  · exact RB.nil_ _
end Go.Proofs.Ytmkehbmegimecaa
