/- policy: the form of a declaration, by contract. -/
import Derived.Test.YtmgamlpjgghieaaGreatDoorZbPo9
import Derived.StillTailTactics
namespace Go.Proofs.YtmgamlpjgghieaaGreatDoor
set_option linter.unusedVariables false
set_option linter.unusedSimpArgs false
open Go.RowKit
def numsOf (b : Bx) : List Int := [b.x0, b.y0, b.x1, b.y1]
def bxForm : List Bx → List Bs
  | [] => []
  | b :: l => (numsOf b).map Lib.itoa ++ l.flatMap fun b => mAnd :: (numsOf b).map Lib.itoa
def formL (d : Dc) : List Bs :=
  if d.k = 1 then [wRole, d.nm, mIs, Lib.itoa d.n]
  else if d.k = 2 then [wLabel, d.nm, mIs, Lib.itoa d.n]
  else if d.k = 3 then [wRegion, d.nm, mIs] ++ bxForm d.bx
  else if d.k = 4 then [wAllow, wRole, txWho d.role wAny, wTier, txTiers d.lo d.hi, wLabel, txWho d.label wAny, wIn, txWho d.wh wAll, wZoom, Lib.itoa d.zoom]
  else if d.k = 5 then [wCap, wRole, txWho d.role wAny, wTier, txTiers d.lo d.hi, wLabel, txWho d.label wAny, wIn, txWho d.wh wAll, wZoom, Lib.itoa d.zoom]
  else if d.k = 6 then [wCloak, wRole, txWho d.role wAny]
  else []
/-- Whole numbers of a declaration are such. -/
structure DI (d : Dc) : Prop where
  k : I64 d.k
  n : I64 d.n
  role : I64 d.role.n
  lo : I64 d.lo
  hi : I64 d.hi
  label : I64 d.label.n
  wh : I64 d.wh.n
  zoom : I64 d.zoom
  bx : ∀ b ∈ d.bx, I64 b.x0 ∧ I64 b.y0 ∧ I64 b.x1 ∧ I64 b.y1
/-- Elements that can be read. -/
def ERd {α : Type} (E : El α) (w : World) (v : Value) (L : List α) : Prop := ∃ A c, v = .slice A L.length c ∧ L.length ≤ c ∧ c ≤ maxLen ∧ ∀ i x, L[i]? = some x → ∃ g o, A = some ⟨g, o, none⟩ ∧ ∀ j u, (E.enc x)[j]? = some u → w.cell? ⟨g, o + i * E.k + j, none⟩ = some u
theorem ERd.of_own {α : Type} {E : El α} (hE : E.Ok) {w : World} {v : Value} {L : List α} (h : EOwn E w v L) : ERd E w v L := by
  obtain ⟨A, c, rfl, h1, h2⟩ := h.slice
  refine ⟨A, c, rfl, h1, h2, fun i x hx => ?_⟩
  obtain ⟨_, g, rfl, hc⟩ := EOwn.cell hE h hx
  exact ⟨g, 0, rfl, fun j u hu => by have := hc j u hu; simpa using this⟩
theorem ERd.below {α : Type} {E : El α} {w w' : World} {v : Value} {L : List α} (h : ERd E w v L) (hb : Below w.heap.size w w') : ERd E w' v L := by
  obtain ⟨A, c, rfl, h1, h2, h3⟩ := h
  refine ⟨A, c, rfl, h1, h2, fun i x hx => ?_⟩
  obtain ⟨g, o, rfl, hc⟩ := h3 i x hx
  exact ⟨g, o, rfl, fun j u hu => cell_block (hc j u hu) fun hl => hb.block g hl⟩
def FormP (d : Dc) (w : World) (e : Ending) (w' : World) : Prop := ∃ v, e = .returned v ∧ EOwn elS w' v (formL d) ∧ (∀ i, v.ownBlock = some i → w.heap.size ≤ i) ∧ Below w.heap.size w w'
abbrev dV (d : Dc) (bv : Value) : Value := .agg (dcells d bv).toArray
theorem bx_snoc (l : List Bx) (b : Bx) : bxForm (l ++ [b]) = bxForm l ++ ((if l = [] then [] else [mAnd]) ++ (numsOf b).map Lib.itoa) := by
  cases l with
  | nil => simp [bxForm]
  | cons c l => simp [bxForm]
theorem bx_len (l : List Bx) : (bxForm l).length ≤ 5 * l.length := by
  cases l with
  | nil => simp [bxForm]
  | cons c l =>
    have h : ∀ l : List Bx, (l.flatMap fun b => mAnd :: (numsOf b).map Lib.itoa).length = 5 * l.length := by
      intro l
      induction l with
      | nil => rfl
      | cons c l ih => simp [numsOf] at ih ⊢; omega
    have := h l
    simp [bxForm, numsOf] at this ⊢
    omega
end Go.Proofs.YtmgamlpjgghieaaGreatDoor
