/- pyramid: points that came in. -/
import Derived.Test.YtdbiaijpbkmfhaaPyA
import Derived.Test.YtdbiaijpbkmfhaaSl
namespace Go.Proofs.Ytdbiaijpbkmfhaa
set_option linter.unusedVariables false
set_option linter.unusedSimpArgs false
open Go.RowKit
def PntOk (w : World) (cs : List Value) : Prop := ∃ (x y : Int), cs = [.int .i64 x, .int .i64 y]
theorem pntOk_of {H : Type} {enc : TypeId × Value → H} {w : World} {sp : Nat → Bool} {hd : Bool} : ∀ fuel cs (y : DataW H × List MemPlace), DataW.trod enc Try.prog w 0 sp hd fuel 29 cs = some y → (∀ m ∈ y.1.weights Try.prog 29, m ≤ reachBytes) → PntOk w cs := by
  intro fuel cs y h hsz
  obtain ⟨_, _, _, _, hl, _, _⟩ := DataW.trod_struct Try.underlying29 h
  have hC : Try.prog.cellsOf 29 = 2 := by kernel_rfl
  rw [hC] at hl
  obtain ⟨a0, h0, _⟩ := leaf_int (o := 0) (u := 3) (by kernel_rfl) Try.underlying3 h
  obtain ⟨a1, h1, _⟩ := leaf_int (o := 1) (u := 3) (by kernel_rfl) Try.underlying3 h
  have h2 : ∀ l : List Value, l.length = 2 → ∃ v0 v1, l = [v0, v1] := by
    intro l hl
    match l, hl with
    | [v0, v1], _ => exact ⟨v0, v1, rfl⟩
  obtain ⟨v0, v1, rfl⟩ := h2 cs hl
  simp at h0 h1
  subst h0; subst h1
  exact ⟨_, _, rfl⟩
theorem rd_of {w : World} {a : Option Addr} {len cap : Nat} (h : IsSl w 2 (PntOk w) a len cap) : ∃ S, Rd w a len cap S := by
  have hx : ∀ i, ∃ e : Pn, i < len → ∃ g off, a = some ⟨g, off, none⟩ ∧ w.cell? ⟨g, off + i * 2, none⟩ = some (.int .i64 e.1) ∧ w.cell? ⟨g, off + i * 2 + 1, none⟩ = some (.int .i64 e.2) := fun i => by
    by_cases hi : i < len
    · obtain ⟨xb, xo, cs, rfl, hcl, hcell, px, py, rfl⟩ := h.at2 i hi (by omega)
      exact ⟨(px, py), fun _ => ⟨xb, xo, rfl, hcell 0 _ rfl, hcell 1 _ rfl⟩⟩
    · exact ⟨(0, 0), fun hj => absurd hj hi⟩
  refine ⟨(List.range len).map (fun i => Classical.choose (hx i)), by simp, h.le.1, h.le.2, fun i hi => ?_⟩
  · have := Classical.choose_spec (hx i) hi
    have ha : at_ ((List.range len).map (fun i => Classical.choose (hx i))) i = Classical.choose (hx i) := by
      rw [at_get (by simpa using hi)]; simp
    rw [ha]; exact this
end Go.Proofs.Ytdbiaijpbkmfhaa
