/- lex: the document's Same, places off. -/
import Derived.Test.YtplkcbbbcflngaaDoorLrSame
namespace Go.Proofs.YtplkcbbbcflngaaDoor
set_option linter.unusedVariables false
set_option linter.unusedSimpArgs false
open Go.RowKit
set_option maxRecDepth 100000 in
set_option maxHeartbeats 4000000 in
theorem same2_any (A B : Option Addr) (ca cb : Nat) (L M : List Tk) (hLM : L.map (fun x => (x.k, x.t, x.n)) = M.map (fun x => (x.k, x.t, x.n))) (w : World) (ha : EOwn elT w (.slice A L.length ca) L) (hb : EOwn elT w (.slice B M.length cb) M) (hl : L.length ≤ 1000000) : Calls Tryd.prog 10 #[.slice A L.length ca, .slice B L.length cb, .bool false] w fun e w' => e = .returned (.bool true) ∧ Below w.heap.size w w' := by
  have hlen : L.length = M.length := by have := congrArg List.length hLM; simpa using this
  rw [← hlen] at hb
  have HLEN := Lib.hid hlen
  clear hlen
  have HLM := Lib.hid hLM
  clear hLM
  have HA := Lib.hid ha
  have HB := Lib.hid hb
  clear ha hb
  go_enter Tryd.func10, Tryd.ntmps10
  go_wp2_with fail
  go_loopw [7] (fun i wr => ∃ j : Nat, j ≤ L.length ∧ i = .int .i64 j ∧ Hid (Below w.heap.size w wr)) (fun i _ => L.length - (intOf i).toNat)
  case atStart => exact ⟨0, by omega, rfl, Lib.hid (Below.refl _ _)⟩
  case round =>
    rename_i wr
    obtain ⟨j, hj, rfl, HR⟩ := hrel
    have HA2 := Lib.hid (HA.out.below HR.out)
    have HB2 := Lib.hid (HB.out.below HR.out)
    by_cases hlt : j < L.length
    · have hji : (j : Int) < (L.length : Int) := by omega
      have hj0 : (0 : Int) ≤ (j : Int) := by omega
      obtain ⟨x, hx⟩ : ∃ x, L[j]? = some x := ⟨L[j], List.getElem?_eq_getElem hlt⟩
      obtain ⟨_, g, rfl, hc⟩ := EOwn.cell elT_ok HA2.out hx
      obtain ⟨y, hy⟩ : ∃ y, M[j]? = some y := ⟨M[j]'(by have := HLEN.out; omega), List.getElem?_eq_getElem (by have := HLEN.out; omega)⟩
      have hxy := congrArg (·[j]?) HLM.out
      simp only [List.getElem?_map, hx, hy, Option.map_some, Option.some.injEq, Prod.mk.injEq] at hxy
      obtain ⟨k1, k2, k3⟩ := hxy
      obtain ⟨hlm, g2, rfl, hd⟩ := EOwn.cell elT_ok HB2.out hy
      clear hlm
      have c0 : wr.cell? ⟨g, j * 5, none⟩ = some (.int .i64 x.k) := by simpa [elT] using hc 0 _ rfl
      have c1 : wr.cell? ⟨g, j * 5 + 1, none⟩ = some (.string (bs x.t)) := by simpa [elT] using hc 1 _ rfl
      have c2 : wr.cell? ⟨g, j * 5 + 2, none⟩ = some (.int .i64 x.n) := by simpa [elT] using hc 2 _ rfl
      have d0 : wr.cell? ⟨g2, j * 5, none⟩ = some (.int .i64 x.k) := by rw [k1]; simpa [elT] using hd 0 _ rfl
      have d1 : wr.cell? ⟨g2, j * 5 + 1, none⟩ = some (.string (bs x.t)) := by rw [k2]; simpa [elT] using hd 1 _ rfl
      have d2 : wr.cell? ⟨g2, j * 5 + 2, none⟩ = some (.int .i64 x.n) := by rw [k3]; simpa [elT] using hd 2 _ rfl
      clear hc hd hx hy k1 k2 k3
      have e1 : (x.k != x.k) = false := by simp
      have e2 : (x.n != x.n) = false := by simp
      have e3 : ((bs x.t).toList == (bs x.t).toList) = true := by simp
      go_wp2_with fail
      go_quiet (fail)
      go_wp2_with fail
      go_roundw
      case rel => exact ⟨j + 1, by omega, by go_num, Lib.hid ⟨HR.out.os, HR.out.tape, HR.out.output, HR.out.size, HR.out.block⟩⟩
      case measure => simp [intOf]; omega
    · obtain rfl : j = L.length := by omega
      go_wp2
      go_ret
      exact ⟨rfl, HR.out⟩
/-- Texts, something between two. -/
def jnX (b : Bs) : List Tk → Bs
  | [] => []
  | [x] => x.t
  | x :: y :: L => x.t ++ (b ++ jnX b (y :: L))
theorem jn_snoc (b : Bs) (x : Tk) : ∀ (L : List Tk), L ≠ [] → jnX b (L ++ [x]) = jnX b L ++ (b ++ x.t) := by
  intro L
  induction L with
  | nil => intro h; exact absurd rfl h
  | cons y L ih =>
    intro _
    cases L with
    | nil => simp [jnX]
    | cons z L =>
      have := ih (by simp)
      simp only [List.cons_append] at this ⊢
      rw [jnX, this, jnX]
      simp
end Go.Proofs.YtplkcbbbcflngaaDoor
