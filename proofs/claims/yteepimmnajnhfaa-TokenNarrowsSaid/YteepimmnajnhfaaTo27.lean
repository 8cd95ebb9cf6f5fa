/- The document's Left, by contract. -/
import Derived.Test.YteepimmnajnhfaaTo26
namespace Go.Proofs.Yteepimmnajnhfaa
set_option linter.unusedVariables false
set_option linter.unusedSimpArgs false
open Go.RowKit
theorem fld_til (m0 m1 m2 m3 m4 m5 : Int) (m6 : Bool) (m7 : Int) (w : World) : (Instr.field 30 (.agg #[.int .i64 m0, .int .i64 m1, .int .i64 m2, .int .i64 m3, .int .i64 m4, .int .i64 m5, .bool m6, .int .i64 m7]) 4).run Try.prog w = .ok (.int .i64 m7) w := by kernel_rfl
/-- The tickets that are not over at a tick. -/
def leR (L : List Tk) (now : Int) : List Tk := L.filter fun k => decide (now ≤ (rGr L k).til)
theorem gra_til (L : List Tk) (now : Int) (f : Nat) : ∀ (g : Gt) (p : Tk) (b : Bool), now ≤ (graR L f g p b).til ↔ now ≤ g.til ∧ (b = true → upR (fun k => decide (k.g.til < now)) L f p = false) := by
  induction f with
  | zero => intro g p b; simp [graR, upR]
  | succ f ih =>
    intro g p b
    rw [graR]
    split
    · rename_i hb
      rw [ih, meetG_til, upR]
      by_cases h1 : p.g.til < now
      · rw [if_pos (by simpa using h1)]
        constructor
        · rintro ⟨h2, _⟩; omega
        · rintro ⟨_, h2⟩; exact absurd (h2 hb) (by simp)
      · rw [if_neg (by simpa using h1)]
        constructor
        · rintro ⟨h2, h3⟩
          refine ⟨by omega, fun _ => ?_⟩
          split
          · rename_i h4; exact h3 h4
          · rfl
        · rintro ⟨h2, h3⟩
          refine ⟨by omega, fun h4 => ?_⟩
          have h5 := h3 hb
          rw [if_pos h4] at h5
          exact h5
    · rename_i hb
      exact ⟨fun h => ⟨h, fun h2 => absurd h2 hb⟩, fun h => h.1⟩
theorem rgr_til (L : List Tk) (now : Int) (k : Tk) : decide (now ≤ (rGr L k).til) = !upR (fun k => decide (k.g.til < now)) L (L.length + 1) k := by
  rw [Bool.eq_iff_iff, decide_eq_true_eq, rGr, gra_til, upR]
  by_cases h1 : k.g.til < now
  · rw [if_pos (by simpa using h1)]
    simp; omega
  · rw [if_neg (by simpa using h1)]
    constructor
    · rintro ⟨_, h2⟩
      split
      · rename_i h3; rw [h2 h3]; rfl
      · rfl
    · intro h2
      refine ⟨by omega, fun h3 => ?_⟩
      rw [if_pos h3] at h2
      simpa using h2
theorem le_left {L : List Tk} (h : WF L) (now : Int) : leR L now = leftC now L := by
  unfold leR leftC dropT keepT
  refine fil_of_get fun i hi => ?_
  rw [rgr_til, up_gone h _ i hi _ (by omega)]
set_option maxRecDepth 100000 in
set_option maxHeartbeats 8000000 in
theorem left_any (w : World) (v : Value) (L : List Tk) (now : Int) (h : ERd elT w v L) (hl : L.length ≤ 1000) (hs : SecOk L) (hw : WF L) :
    Calls Try.prog 11 #[v, .int .i64 now] w fun e w' => ∃ v', e = .returned v' ∧ FE elT w v' (leR L now) w' := by
  obtain ⟨A1, c1, rfl, -, -⟩ := h.shape
  have HL := Lib.hid h
  clear h
  have HTY := Lib.hid (show Try.prog.underlying 25 = some (.slice elT.T) from Try.underlying25)
  obtain ⟨p, hp⟩ : ∃ p : Tk → Bool, (fun k => decide (now ≤ (rGr L k).til)) = p := ⟨_, rfl⟩
  have HPE := Lib.hid (show L.filter p = leR L now by rw [← hp]; rfl)
  have HPK := Lib.hid (fun k => congrFun hp k)
  clear hp
  obtain ⟨n, hn⟩ : ∃ n, n = L.length := ⟨_, rfl⟩
  rw [← hn] at HL hl ⊢
  have HN := Lib.hid hn; clear hn
  go_enter Try.func11, Try.ntmps11
  go_wp2_with fail
  go_loopw [5, 6] (fun v i wr => ∃ (k : Nat) (v0 : Value), k ≤ n ∧ v = v0 ∧ i = .int .i64 k ∧ Hid (FE elT w v0 ((L.take k).filter p) wr)) (fun _ i _ => n - (intOf i).toNat)
  case atStart => exact ⟨0, _, Nat.zero_le _, rfl, rfl, by simpa [Hid] using FE.nil_ (E := elT) w w (Below.refl _ _)⟩
  case round =>
    rename World => wr
    obtain ⟨k, v0, hk, hv, rfl, HF⟩ := hrel
    have hv' := hv.symm
    clear hv
    subst hv'
    by_cases hlt : k < n
    · have hkl : k < L.length := by rw [← HN.out]; exact hlt
      have hx : L[k]? = some L[k] := List.getElem?_eq_getElem hkl
      have HTK := Lib.hid (take_fil p L k hkl)
      have HLE := Lib.hid (fil_len p L k (by rw [← HN.out]; omega))
      have hsx := hs _ (List.getElem_mem hkl)
      have HC := Lib.hid (HPK.out L[k])
      have hbw := HF.out.bel
      obtain ⟨g, o, rfl, hgz, a0, a1, a2, a3, a4, a5, a6, a7, a8, a9⟩ := (HL.out.below hbw).ten hx
      have HCA := Lib.hid (grants_any wr _ L L[k] (HL.out.below hbw) (by rw [← HN.out]; omega) hs hw hsx.2 ((rt_iff _).1 (hw.right _ (List.getElem_mem hkl))))
      generalize L[k] = x at *
      clear hx hsx
      obtain ⟨A5, c5, rfl, -, -⟩ := HF.out.own.slice
      obtain ⟨xs, xp, ⟨g0, g1, g2, g3, g4, g5, g6, g7⟩⟩ := x
      simp only [Tk.V] at a0 a1 a2 a3 a4 a5 a6 a7 a8 a9 HTK HC HCA
      obtain ⟨b, hb⟩ : ∃ b, p ⟨xs, xp, ⟨g0, g1, g2, g3, g4, g5, g6, g7⟩⟩ = b := ⟨_, rfl⟩
      rw [hb] at HC HTK
      clear hb
      have hlt2 : (k : Int) < n := by omega
      obtain ⟨rg, hrg⟩ : ∃ rg, rGr L ⟨xs, xp, ⟨g0, g1, g2, g3, g4, g5, g6, g7⟩⟩ = rg := ⟨_, rfl⟩
      rw [hrg] at HC HCA
      clear hrg
      obtain ⟨m0, m1, m2, m3, m4, m5, m6, m7⟩ := rg
      simp only [Gt.V] at HCA HC
      have hdt : decide (now ≤ m7) = b := HC.out
      have hfd := fun w => fld_til m0 m1 m2 m3 m4 m5 m6 m7 w
      cases b with
      | false =>
        have HS := Lib.hid (show (L.take (k + 1)).filter p = (L.take k).filter p by rw [HTK.out]; simp)
        go_wp2_with fail
        refine HCA.out.mono ?_
        rintro e w2 ⟨rfl, hb2⟩
        have HF2 := Lib.hid (show FE elT w _ ((L.take (k + 1)).filter p) w2 by rw [HS.out]; exact HF.out.below hb2)
        clear hb2 a0 a1 a2 a3 a4 a5 a6 a7 a8 a9 HF HCA hbw
        go_wp2
        go_roundw
        case rel => exact ⟨k + 1, _, by omega, rfl, by go_num, HF2⟩
        case measure => simp [intOf]; omega
      | true =>
        have HS := Lib.hid (show (L.take (k + 1)).filter p = (L.take k).filter p ++ [⟨xs, xp, ⟨g0, g1, g2, g3, g4, g5, g6, g7⟩⟩] by rw [HTK.out]; simp)
        go_wp2_with fail
        refine HCA.out.mono ?_
        rintro e w2 ⟨rfl, hb2⟩
        have HF2 := Lib.hid (HF.out.below hb2)
        have c0 := cell_keep hb2 a0
        have c1' := cell_keep hb2 a1
        have c2 := cell_keep hb2 a2
        have c3 := cell_keep hb2 a3
        have c4 := cell_keep hb2 a4
        have c5' := cell_keep hb2 a5
        have c6 := cell_keep hb2 a6
        have c7 := cell_keep hb2 a7
        have c8 := cell_keep hb2 a8
        have c9 := cell_keep hb2 a9
        clear hb2 a0 a1 a2 a3 a4 a5 a6 a7 a8 a9 HF HCA hbw hgz
        generalize hFL : (L.take k).filter p = FL at *
        have HFL := Lib.hid hFL
        clear hFL
        go_wp2_with ((at_builtin; refine wpList_epush elT_ok rfl (.tmp 22) (.tmp 27) _ rfl HTY.out _ FL ⟨xs, xp, ⟨g0, g1, g2, g3, g4, g5, g6, g7⟩⟩ w2.heap.size 1 rfl rfl (HF2.out.own.below ((Below.refl _ _).alloc (Nat.le_refl _) _)) (new_t w2 _ ⟨xs, xp, ⟨g0, g1, g2, g3, g4, g5, g6, g7⟩⟩) HLE.out ?_; intro v2 w3 hA2; have HP2 := Lib.hid (HF2.out.push hA2); clear hA2))
        go_roundw
        case rel => exact ⟨k + 1, _, by omega, rfl, by go_num, by have h9 := HP2.out; rw [← HS.out] at h9; exact h9⟩
        case measure => simp [intOf]; omega
    · obtain rfl : k = n := by omega
      have HZ := Lib.hid (show FE elT w v0 (leR L now) wr by rw [← HPE.out]; have h9 := HF.out; rw [List.take_of_length_le (by rw [← HN.out]; omega)] at h9; exact h9)
      clear HF
      go_wp2
      go_ret
      exact ⟨_, rfl, HZ.out⟩
end Go.Proofs.Yteepimmnajnhfaa
