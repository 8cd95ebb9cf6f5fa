/- lex: joined, by contract; joined texts have the same tokens. -/
import Derived.Test.YtplkcbbbcflngaaDoorLrTrip
import Derived.Test.YtplkcbbbcflngaaDoorLr5
namespace Go.Proofs.YtplkcbbbcflngaaDoor
set_option linter.unusedVariables false
set_option linter.unusedSimpArgs false
open Go.RowKit
theorem bs_app (a b : Bs) : bs a ++ bs b = bs (a ++ b) := by
  apply ByteArray.ext
  simp [bs, ByteArray.data_append]
theorem good_len {x : Tk} (h : Good x) : x.t.length ≤ 16 := by
  obtain ⟨l, h1, h2, h3, h4, h5⟩ := h
  rw [h4]
  by_cases a1 : on isLet l = true
  · rw [tkE, if_pos a1] at h2
    unfold nameE at h2
    split at h2
    · rename_i hw; exact word_short hw
    · split at h2
      · cases h2
      · omega
  · by_cases a2 : on isDg l = true
    · rw [tkE, if_neg a1, if_pos a2] at h2
      unfold numE at h2
      split at h2
      · cases h2
      · rename_i hb
        have : ¬ 5 < (tkA l).length := fun h => hb (by simp [numBad, h])
        omega
    · rw [tkA, if_neg a1, if_neg a2]
      unfold mkTx
      split
      · rename_i k hk
        have hk4 := List.mem_range.1 (List.mem_of_find?_eq_some hk)
        have hk2 : k = 0 ∨ k = 1 ∨ k = 2 ∨ k = 3 := by omega
        rcases hk2 with rfl | rfl | rfl | rfl <;> decide
      · simp
theorem jn_len (b : Bs) : ∀ (L : List Tk), (∀ x ∈ L, Good x) → (jnX b L).length ≤ L.length * (16 + b.length) := by
  intro L
  induction L with
  | nil => intro _; simp [jnX]
  | cons x L ih =>
    intro hg
    have hx := good_len (hg x (by simp))
    have := ih fun z hz => hg z (by simp [hz])
    have e : (x :: L).length * (16 + b.length) = L.length * (16 + b.length) + (16 + b.length) := by rw [List.length_cons, Nat.add_mul, Nat.one_mul]
    rw [e]
    cases L with
    | nil => simp [jnX]; omega
    | cons y L =>
      show (x.t ++ (b ++ jnX b (y :: L))).length ≤ _
      rw [List.length_append, List.length_append]
      omega
theorem jn_take (b : Bs) : ∀ (L : List Tk) (j : Nat), (jnX b (L.take j)).length ≤ (jnX b L).length := by
  intro L
  induction L with
  | nil => intro j; simp
  | cons x L ih =>
    intro j
    match j with
    | 0 => simp [jnX]
    | j + 1 =>
      cases L with
      | nil => simp
      | cons y L =>
        match j with
        | 0 => simp [jnX]
        | j + 1 =>
          have := ih (j + 1)
          simp only [List.take_succ_cons] at this ⊢
          show (x.t ++ (b ++ jnX b (y :: L.take j))).length ≤ (x.t ++ (b ++ jnX b (y :: L))).length
          simp only [List.length_append] at this ⊢
          omega
theorem toks_trip (b : Bs) (hb : on isBl b = true) (hskip : ∀ (x : Bs) (p : Pl), on isBl x = false → nx x ≠ 35 → (skp false (b ++ x) p).1 = x) (L : List Tk) (hg : ∀ x ∈ L, Good x) (hl : (jnX b L).length ≤ 512) : (toks (jnX b L)).2 = none ∧ (toks (jnX b L)).1.map ktn = L.map ktn := by
  unfold toks
  rw [if_neg (by omega)]
  have hs : (skp false (jnX b L) (1, 1)) = (jnX b L, (1, 1)) := by
    cases L with
    | nil => rfl
    | cons x L =>
      obtain ⟨h1, h2, _⟩ := jn_head b hb (L := L) (hg x (by simp))
      exact skp_stop _ h1 h2
  rw [hs]
  exact trip b hb hskip L hg _ _ (by omega)
theorem skip_blank (x : Bs) (p : Pl) (h1 : on isBl x = false) (h2 : nx x ≠ 35) : (skp false ([32] ++ x) p).1 = x := by
  show (skp false (32 :: x) p).1 = x
  rw [skp]
  simp only [isBl]
  show (skp ((false || (32 : UInt8).toNat == 35) && !((32 : UInt8).toNat == 10)) x (adv p 32)).1 = x
  show (skp false x (adv p 32)).1 = x
  rw [skp_stop _ h1 h2]
set_option maxRecDepth 100000 in
set_option maxHeartbeats 2000000 in
theorem joined_any (A : Option Addr) (c : Nat) (L : List Tk) (b : Bs) (w : World) (ha : EOwn elT w (.slice A L.length c) L) (hl : L.length ≤ 1000000) (hjl : (jnX b L).length ≤ 1000000000) : Calls Tryd.prog 14 #[.slice A L.length c, .string (bs b)] w fun e w' => e = .returned (.string (bs (jnX b L))) ∧ w = w' := by
  have HA := Lib.hid ha
  clear ha
  have e0 : (⟨#[]⟩ : ByteArray) = bs [] := rfl
  go_enter Tryd.func14, Tryd.ntmps14
  go_wp2_with fail
  go_loopw [5, 6] (fun v i wr => ∃ j : Nat, j ≤ L.length ∧ i = .int .i64 j ∧ v = .string (bs (jnX b (L.take j))) ∧ w = wr) (fun _ i _ => L.length - (intOf i).toNat)
  case atStart => exact ⟨0, by omega, rfl, rfl, rfl⟩
  case round =>
    obtain ⟨j, hj, rfl, rfl, hw9⟩ := hrel
    subst hw9
    by_cases hlt : j < L.length
    · have hji : (j : Int) < (L.length : Int) := by omega
      have hj0 : (0 : Int) ≤ (j : Int) := by omega
      have htk : L.take (j + 1) = L.take j ++ [L[j]] := List.take_succ_eq_append_getElem hlt
      have hx : L[j]? = some L[j] := List.getElem?_eq_getElem hlt
      generalize L[j] = x at *
      obtain ⟨_, g, rfl, hc⟩ := EOwn.cell elT_ok HA.out hx
      have c1 : w.cell? ⟨g, j * 5 + 1, none⟩ = some (.string (bs x.t)) := by simpa [elT] using hc 1 _ rfl
      clear hc hx
      by_cases hz : j = 0
      · subst hz
        have HN := Lib.hid (show bs (jnX b (L.take (0 + 1))) = bs (jnX b (L.take 0)) ++ bs x.t by rw [htk]; simp [jnX, bs_app])
        have hsz : ¬ 9223372036854775807 < (bs (jnX b (L.take 0))).size + (bs x.t).size := by
          have h1 := jn_take b L (0 + 1)
          have h2 := congrArg ByteArray.size HN.out
          rw [ByteArray.size_append, bs_size] at h2
          omega
        clear htk
        generalize bs (jnX b (L.take 0)) = acc at *
        go_wp2_with fail
        go_roundw
        case rel => exact ⟨0 + 1, by omega, by go_num, by rw [HN.out], (by first | rfl | trivial)⟩
        case measure => simp [intOf]; omega
      · have hjp : (0 : Int) < (j : Int) := by omega
        have HN := Lib.hid (show bs (jnX b (L.take (j + 1))) = bs (jnX b (L.take j)) ++ bs b ++ bs x.t by
          rw [htk, jn_snoc b x _ (by intro e; have h9 := congrArg List.length e; rw [List.length_take, Nat.min_eq_left (by omega)] at h9; exact hz h9), bs_app, bs_app, List.append_assoc])
        have hsz2 : ¬ 9223372036854775807 < (bs (jnX b (L.take j))).size + (bs b).size + (bs x.t).size := by
          have h1 := jn_take b L (j + 1)
          have h2 := congrArg ByteArray.size HN.out
          rw [ByteArray.size_append, ByteArray.size_append, bs_size] at h2
          omega
        have hsz1 : ¬ 9223372036854775807 < (bs (jnX b (L.take j))).size + (bs b).size := by omega
        clear htk hz
        generalize bs (jnX b (L.take j)) = acc at *
        go_wp2_with fail
        go_roundw
        case rel => exact ⟨j + 1, by omega, by go_num, by rw [HN.out], (by first | rfl | trivial)⟩
        case measure => simp [intOf]; omega
    · obtain rfl : j = L.length := by omega
      rw [List.take_length]
      go_wp2
      go_ret
      exact ⟨rfl, rfl⟩
end Go.Proofs.YtplkcbbbcflngaaDoor
