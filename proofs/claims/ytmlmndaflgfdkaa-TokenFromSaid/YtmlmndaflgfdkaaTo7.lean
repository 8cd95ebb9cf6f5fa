/- token: slices.IndexFunc, slices.DeleteFunc of tickets whose secret is gone, by contract. -/
import Derived.Test.YtmlmndaflgfdkaaTo6
namespace Go.Proofs.Ytmlmndaflgfdkaa
set_option linter.unusedVariables false
set_option linter.unusedSimpArgs false
open Go.RowKit
/-- The tickets that stay. -/
def keepT (G : List Nat) (L : List Tk) : List Tk := L.filter fun k => !hasN G k.sec
theorem keepT_take (G : List Nat) (L : List Tk) (k : Nat) (hk : k < L.length) : keepT G (L.take (k + 1)) = keepT G (L.take k) ++ if hasN G L[k].sec = true then [] else [L[k]] := by
  rw [keepT, keepT, List.take_succ_eq_append_getElem hk, List.filter_append]
  cases h : hasN G L[k].sec <;> simp [h]
theorem keepT_len (G : List Nat) (L : List Tk) (k : Nat) : (keepT G (L.take k)).length ≤ k := by
  have h1 := List.length_filter_le (fun x : Tk => !hasN G x.sec) (L.take k)
  have h2 : (L.take k).length ≤ k := List.length_take_le _ _
  exact Nat.le_trans h1 h2
def IxP (G : List Nat) (L : List Tk) (w : World) (e : Ending) (w' : World) : Prop := Below w.heap.size w w' ∧ ((e = .returned (.int .i64 (-1)) ∧ keepT G L = L) ∨ ∃ k : Nat, ∃ h : k < L.length, e = .returned (.int .i64 k) ∧ hasN G L[k].sec = true ∧ keepT G (L.take k) = L.take k)
set_option maxRecDepth 100000 in
set_option maxHeartbeats 4000000 in
theorem index_any (w : World) (v : Value) (c : Nat) (G : List Nat) (L : List Tk) (h : EOwn elT w v L) (hG : GN w c v G) (hl : G.length ≤ 1000) (hL : L.length ≤ 1000) (hs : SecOk L) :
    Calls Try.prog 63 #[v, .func (.func 55) #[] #[ptrA c]] w (IxP G L w) := by
  obtain ⟨A1, c1, rfl, hc1, hc2⟩ := h.slice
  have HO := Lib.hid h
  have HG := Lib.hid hG
  clear h hG
  obtain ⟨n, hn⟩ : ∃ n, n = L.length := ⟨_, rfl⟩
  rw [← hn] at HO HG hL hc1 ⊢
  have HN := Lib.hid hn; clear hn
  go_enter Try.func63, Try.ntmps63
  go_wp2_with fail
  go_loopw [5, 8] (fun _ i wr => ∃ k : Nat, k ≤ n ∧ i = .int .i64 k ∧ Hid (Below w.heap.size w wr) ∧ Hid (keepT G (L.take k) = L.take k)) (fun _ i _ => n - (intOf i).toNat)
  case atStart => exact ⟨0, Nat.zero_le _, rfl, Below.refl _ _, by simp [Hid, keepT]⟩
  case round =>
    rename_i wr
    obtain ⟨k, hk, rfl, HW, HK⟩ := hrel
    by_cases hlt : k < n
    · have hkl : k < L.length := by rw [← HN.out]; exact hlt
      have hx : L[k]? = some L[k] := List.getElem?_eq_getElem hkl
      have HTK := Lib.hid (keepT_take G L k hkl)
      have HT2 := Lib.hid (show L.take (k + 1) = L.take k ++ [L[k]] from List.take_succ_eq_append_getElem hkl)
      have hsx := (hs _ (List.getElem_mem hkl)).1
      have HGW := Lib.hid (HG.out.below HW.out)
      obtain ⟨g, rfl, a0, a1, a2, a3, a4, a5, a6, a7, a8, a9⟩ := (HO.out.below HW.out).ten hx
      have HE : Hid (∀ b, hasN G L[k].sec = b → L[k].sec = L[k].sec) := fun _ _ => rfl
      have HIX : Hid (hasN G L[k].sec = true → ∃ k' : Nat, ∃ h : k' < L.length, Ending.returned (.int .i64 (k : Int)) = .returned (.int .i64 k') ∧ hasN G L[k'].sec = true ∧ keepT G (L.take k') = L.take k') := fun h => ⟨k, hkl, rfl, h, HK.out⟩
      have hlt2 : (k : Int) < n := by omega
      have HD := Lib.hid (fun W (h : GN W c (.slice (some ⟨g, 0, none⟩) n c1) G) => dropc_any W c _ G L[k] h hl hsx)
      generalize L[k] = x at *
      clear hx hsx HE
      obtain ⟨xs, xp, ⟨g0, g1, g2, g3, g4, g5, g6, g7⟩⟩ := x
      simp only at a0 a1 a2 a3 a4 a5 a6 a7 a8 a9 HTK HIX HD
      obtain ⟨b, hb⟩ : ∃ b, hasN G xs = b := ⟨_, rfl⟩
      rw [hb] at HTK HIX HD
      clear hb
      go_wp2_with fail
      refine (HD.out _ HGW.out).mono ?_
      rintro e w2 ⟨rfl, hb2⟩
      have HB2 := Lib.hid (below_trans HW.out hb2)
      clear hb2 a0 a1 a2 a3 a4 a5 a6 a7 a8 a9
      cases b with
      | true =>
        have HI := Lib.hid (HIX.out rfl)
        go_wp2
        go_ret
        exact ⟨HB2.out, .inr HI.out⟩
      | false =>
        have HK2 := Lib.hid (show keepT G (L.take (k + 1)) = L.take (k + 1) by rw [HTK.out, HT2.out, HK.out]; rfl)
        go_wp2
        go_roundw
        case rel => exact ⟨k + 1, by omega, by go_num, HB2, HK2⟩
        case measure => simp [intOf]; omega
    · obtain rfl : k = n := by omega
      have HZ := Lib.hid (show keepT G L = L by have h9 := HK.out; rw [List.take_of_length_le (by rw [← HN.out]; omega)] at h9; exact h9)
      go_wp2
      go_ret
      exact ⟨HW.out, .inl ⟨rfl, HZ.out⟩⟩
end Go.Proofs.Ytmlmndaflgfdkaa
