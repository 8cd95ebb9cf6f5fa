/- The document's Without, by contract. -/
import Derived.Test.YtmlmndaflgfdkaaTo19
namespace Go.Proofs.Ytmlmndaflgfdkaa
set_option linter.unusedVariables false
set_option linter.unusedSimpArgs false
open Go.RowKit
/-- The tickets but the one with that secret and all that were made of it. -/
def woR (L : List Tk) (s : Nat) : List Tk := L.filter fun k => !unR L s (L.length + 1) k
theorem take_fil (p : Tk → Bool) (L : List Tk) (k : Nat) (hk : k < L.length) : (L.take (k + 1)).filter p = (L.take k).filter p ++ if p L[k] = true then [L[k]] else [] := by
  rw [List.take_succ_eq_append_getElem hk, List.filter_append]
  cases h : p L[k] <;> simp [h]
theorem fil_len (p : Tk → Bool) (L : List Tk) (k : Nat) (h : L.length ≤ 1000000) : ((L.take k).filter p).length ≤ 1000000 := by
  have h1 := List.length_filter_le p (L.take k)
  rw [List.length_take] at h1; omega
theorem cell_keep {w w' : World} {a : Addr} {u : Value} (hb : Below w.heap.size w w') (h : w.cell? a = some u) : w'.cell? a = some u := by
  have hl := World.block_lt_of_cell? w _ h
  have := hb.cell (p := a) hl
  rw [this]; exact h
set_option maxRecDepth 100000 in
set_option maxHeartbeats 8000000 in
theorem without_any (w : World) (v : Value) (L : List Tk) (s : Nat) (h : ERd elT w v L) (hl : L.length ≤ 1000) (hs : SecOk L) (hss : s ≤ 18446744073709551615) :
    Calls Try.prog 17 #[v, .int .u64 s] w fun e w' => ∃ v', e = .returned v' ∧ FE elT w v' (woR L s) w' := by
  obtain ⟨A1, c1, rfl, -, -⟩ := h.shape
  have HL := Lib.hid h
  clear h
  have HTY := Lib.hid (show Try.prog.underlying 25 = some (.slice elT.T) from Try.underlying25)
  obtain ⟨p, hp⟩ : ∃ p : Tk → Bool, (fun k => !unR L s (L.length + 1) k) = p := ⟨_, rfl⟩
  have HPE := Lib.hid (show L.filter p = woR L s by rw [← hp]; rfl)
  have HPK := Lib.hid (fun k => congrFun hp k)
  clear hp
  obtain ⟨n, hn⟩ : ∃ n, n = L.length := ⟨_, rfl⟩
  rw [← hn] at HL hl ⊢
  have HN := Lib.hid hn; clear hn
  go_enter Try.func17, Try.ntmps17
  go_wp2_with fail
  go_loopw [5, 6] (fun v i wr => ∃ (k : Nat) (v0 : Value), k ≤ n ∧ v = v0 ∧ i = .int .i64 k ∧ Hid (FE elT w v0 ((L.take k).filter p) wr)) (fun _ i _ => n - (intOf i).toNat)
  case atStart => exact ⟨0, _, Nat.zero_le _, rfl, rfl, by simpa [Hid] using FE.nil_ (E := elT) w w (Below.refl _ _)⟩
  case round =>
    rename World => wr
    obtain ⟨k, v0, hk, hv, rfl, HF⟩ := hrel
    have hv' := hv.symm
    clear hv
    subst hv'
    by_cases hlt : k < n
    · have hkl : k < L.length := by rw [← HN.out]; exact hlt
      have hx : L[k]? = some L[k] := List.getElem?_eq_getElem hkl
      have HTK := Lib.hid (take_fil p L k hkl)
      have HLE := Lib.hid (fil_len p L k (by rw [← HN.out]; omega))
      have hsx := hs _ (List.getElem_mem hkl)
      have HC := Lib.hid (HPK.out L[k])
      have hbw := HF.out.bel
      obtain ⟨g, o, rfl, hgz, a0, a1, a2, a3, a4, a5, a6, a7, a8, a9⟩ := (HL.out.below hbw).ten hx
      have HCA := Lib.hid (under_any wr _ L L[k] s (HL.out.below hbw) (by rw [← HN.out]; omega) hs hsx hss)
      generalize L[k] = x at *
      clear hx hsx
      obtain ⟨A5, c5, rfl, -, -⟩ := HF.out.own.slice
      obtain ⟨xs, xp, ⟨g0, g1, g2, g3, g4, g5, g6, g7⟩⟩ := x
      simp only [Tk.V] at a0 a1 a2 a3 a4 a5 a6 a7 a8 a9 HTK HC HCA
      obtain ⟨b, hb⟩ : ∃ b, p ⟨xs, xp, ⟨g0, g1, g2, g3, g4, g5, g6, g7⟩⟩ = b := ⟨_, rfl⟩
      rw [hb] at HC HTK
      clear hb
      have hlt2 : (k : Int) < n := by omega
      have HCE := Lib.hid (show unR L s (n + 1) ⟨xs, xp, ⟨g0, g1, g2, g3, g4, g5, g6, g7⟩⟩ = !b by have h9 := HC.out; rw [← h9, HN.out]; simp)
      rw [← HN.out, HCE.out] at HCA
      cases b with
      | false =>
        have HS := Lib.hid (show (L.take (k + 1)).filter p = (L.take k).filter p by rw [HTK.out]; simp)
        simp only [Bool.not_false] at HCA
        go_wp2_with fail
        refine HCA.out.mono ?_
        rintro e w2 ⟨rfl, hb2⟩
        have HF2 := Lib.hid (show FE elT w _ ((L.take (k + 1)).filter p) w2 by rw [HS.out]; exact HF.out.below hb2)
        clear hb2 a0 a1 a2 a3 a4 a5 a6 a7 a8 a9 HF HCA hbw
        go_wp2
        go_roundw
        case rel => exact ⟨k + 1, _, by omega, rfl, by go_num, HF2⟩
        case measure => simp [intOf]; omega
      | true =>
        have HS := Lib.hid (show (L.take (k + 1)).filter p = (L.take k).filter p ++ [⟨xs, xp, ⟨g0, g1, g2, g3, g4, g5, g6, g7⟩⟩] by rw [HTK.out]; simp)
        simp only [Bool.not_true] at HCA
        go_wp2_with fail
        refine HCA.out.mono ?_
        rintro e w2 ⟨rfl, hb2⟩
        have HF2 := Lib.hid (HF.out.below hb2)
        have c0 := cell_keep hb2 a0
        have c1' := cell_keep hb2 a1
        have c2 := cell_keep hb2 a2
        have c3 := cell_keep hb2 a3
        have c4 := cell_keep hb2 a4
        have c5' := cell_keep hb2 a5
        have c6 := cell_keep hb2 a6
        have c7 := cell_keep hb2 a7
        have c8 := cell_keep hb2 a8
        have c9 := cell_keep hb2 a9
        clear hb2 a0 a1 a2 a3 a4 a5 a6 a7 a8 a9 HF HCA hbw hgz
        generalize hFL : (L.take k).filter p = FL at *
        have HFL := Lib.hid hFL
        clear hFL
        go_wp2_with ((at_builtin; refine wpList_epush elT_ok rfl (.tmp 21) (.tmp 26) _ rfl HTY.out _ FL ⟨xs, xp, ⟨g0, g1, g2, g3, g4, g5, g6, g7⟩⟩ w2.heap.size 1 rfl rfl (HF2.out.own.below ((Below.refl _ _).alloc (Nat.le_refl _) _)) (new_t w2 _ ⟨xs, xp, ⟨g0, g1, g2, g3, g4, g5, g6, g7⟩⟩) HLE.out ?_; intro v2 w3 hA2; have HP2 := Lib.hid (HF2.out.push hA2); clear hA2))
        go_roundw
        case rel => exact ⟨k + 1, _, by omega, rfl, by go_num, by have h9 := HP2.out; rw [← HS.out] at h9; exact h9⟩
        case measure => simp [intOf]; omega
    · obtain rfl : k = n := by omega
      have HZ := Lib.hid (show FE elT w v0 (woR L s) wr by rw [← HPE.out]; have h9 := HF.out; rw [List.take_of_length_le (by rw [← HN.out]; omega)] at h9; exact h9)
      clear HF
      go_wp2
      go_ret
      exact ⟨_, rfl, HZ.out⟩
end Go.Proofs.Ytmlmndaflgfdkaa
