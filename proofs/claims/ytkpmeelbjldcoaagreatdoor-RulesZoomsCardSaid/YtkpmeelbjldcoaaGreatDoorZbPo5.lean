/- Texts: Po5. -/
import Derived.Test.YtkpmeelbjldcoaaGreatDoorZbPo4
namespace Go.Proofs.YtkpmeelbjldcoaaGreatDoor
set_option linter.unusedVariables false
set_option linter.unusedSimpArgs false
open Go.RowKit
/-- The words that heads holds. -/
structure Hs (w : World) : Prop where
  h : ∀ i, i < 7 → w.cell? ⟨0, i, none⟩ = some (.string (bs (headsL.getD i [])))
theorem headF_some {L : List Tk} {k : Nat} (hk : k < 7) (h : takesB (headsL.getD k []) L = true) (hn : ∀ j, j < k → takesB (headsL.getD j []) L = false) : headF L = some k := by
  unfold headF
  rw [List.find?_range_eq_some]
  exact ⟨h, List.mem_range.2 hk, fun j hj => by have := hn j hj; simp only [this]; rfl⟩
theorem headF_none {L : List Tk} (hn : ∀ j, j < 7 → takesB (headsL.getD j []) L = false) : headF L = none := by
  unfold headF
  rw [List.find?_eq_none]
  intro j hj
  have := hn j (List.mem_range.1 hj)
  simp only [this]; decide
theorem index_heads0 (a0 a1 a2 a3 a4 a5 a6 : ByteArray) (w : World) : (Instr.index 136 (.agg #[.string a0, .string a1, .string a2, .string a3, .string a4, .string a5, .string a6]) (.int .i64 0)).run Tryz.prog w = .ok (.string a0) w := by kernel_rfl
theorem index_heads1 (a0 a1 a2 a3 a4 a5 a6 : ByteArray) (w : World) : (Instr.index 136 (.agg #[.string a0, .string a1, .string a2, .string a3, .string a4, .string a5, .string a6]) (.int .i64 1)).run Tryz.prog w = .ok (.string a1) w := by kernel_rfl
theorem index_heads2 (a0 a1 a2 a3 a4 a5 a6 : ByteArray) (w : World) : (Instr.index 136 (.agg #[.string a0, .string a1, .string a2, .string a3, .string a4, .string a5, .string a6]) (.int .i64 2)).run Tryz.prog w = .ok (.string a2) w := by kernel_rfl
theorem index_heads3 (a0 a1 a2 a3 a4 a5 a6 : ByteArray) (w : World) : (Instr.index 136 (.agg #[.string a0, .string a1, .string a2, .string a3, .string a4, .string a5, .string a6]) (.int .i64 3)).run Tryz.prog w = .ok (.string a3) w := by kernel_rfl
theorem index_heads4 (a0 a1 a2 a3 a4 a5 a6 : ByteArray) (w : World) : (Instr.index 136 (.agg #[.string a0, .string a1, .string a2, .string a3, .string a4, .string a5, .string a6]) (.int .i64 4)).run Tryz.prog w = .ok (.string a4) w := by kernel_rfl
theorem index_heads5 (a0 a1 a2 a3 a4 a5 a6 : ByteArray) (w : World) : (Instr.index 136 (.agg #[.string a0, .string a1, .string a2, .string a3, .string a4, .string a5, .string a6]) (.int .i64 5)).run Tryz.prog w = .ok (.string a5) w := by kernel_rfl
theorem index_heads6 (a0 a1 a2 a3 a4 a5 a6 : ByteArray) (w : World) : (Instr.index 136 (.agg #[.string a0, .string a1, .string a2, .string a3, .string a4, .string a5, .string a6]) (.int .i64 6)).run Tryz.prog w = .ok (.string a6) w := by kernel_rfl
attribute [local go_sem] index_heads0 index_heads1 index_heads2 index_heads3 index_heads4 index_heads5 index_heads6
set_option maxRecDepth 100000 in
set_option maxHeartbeats 4000000 in
theorem phead_any (w : World) (r : Nat) (L : List Tk) (d : Dc) (bv : Value) (h : PRd w r L d bv) (hs : Hs w) :
    Calls Tryz.prog 85 #[ptr r] w (ActQ w r bv (headM (L, d))) := by
  have g0 : w.cell? ⟨0, 0, none⟩ = some (.string (bs [])) := hs.h 0 (by omega)
  have g1 : w.cell? ⟨0, 1, none⟩ = some (.string (bs wRole)) := hs.h 1 (by omega)
  have g2 : w.cell? ⟨0, 2, none⟩ = some (.string (bs wLabel)) := hs.h 2 (by omega)
  have g3 : w.cell? ⟨0, 3, none⟩ = some (.string (bs wRegion)) := hs.h 3 (by omega)
  have g4 : w.cell? ⟨0, 4, none⟩ = some (.string (bs wAllow)) := hs.h 4 (by omega)
  have g5 : w.cell? ⟨0, 5, none⟩ = some (.string (bs wCap)) := hs.h 5 (by omega)
  have g6 : w.cell? ⟨0, 6, none⟩ = some (.string (bs wCloak)) := hs.h 6 (by omega)
  have HS0 := Lib.hid (show PRd w r L d bv ∧ But r w w ∧ ∀ j, j < 0 → takesB (headsL.getD j []) L = false from ⟨h, But.refl _ _, fun j hj => absurd hj (by omega)⟩)
  clear h hs
  go_enter Tryz.func85, Tryz.ntmps85
  go_wp2_with fail
  go_loopw [6] (fun i wr => ∃ k : Nat, k ≤ 7 ∧ i = .int .i64 k ∧ Hid (PRd wr r L d bv ∧ But r w wr ∧ ∀ j, j < k → takesB (headsL.getD j []) L = false)) (fun i _ => 7 - (intOf i).toNat)
  case atStart => exact ⟨0, by omega, rfl, HS0⟩
  case round =>
    clear HS0 g0 g1 g2 g3 g4 g5 g6
    obtain ⟨k, hk, hi, HR⟩ := hrel
    have h7 : k = 0 ∨ k = 1 ∨ k = 2 ∨ k = 3 ∨ k = 4 ∨ k = 5 ∨ k = 6 ∨ k = 7 := by omega
    rcases h7 with rfl | rfl | rfl | rfl | rfl | rfl | rfl | rfl
    · replace hi : _ = Value.int .i64 0 := hi
      subst hi
      clear hk
      have hTK := takes_any wr r L d bv [] HR.out.1
      cases hT : takesB [] L with
      | true =>
        have HM := Lib.hid (show headM (L, d) = (true, (L.tail, { d with k := 0 })) by simp [headM, headF_some (k := 0) (by omega) hT HR.out.2.2])
        rw [takesL_t hT, hT] at hTK
        have HTK := Lib.hid hTK
        clear hTK hT
        go_wp2_with fail
        refine HTK.out.mono ?_
        rintro e w1 ⟨rfl, hP1, hB1⟩
        obtain ⟨lv1, hK, hL⟩ := id hP1
        have k0 := Blk.cell hK 1
        have f0 := hK.frozen 1
        simp only [rcells] at k0
        have HP1 := Lib.hid hP1
        have HB1 := Lib.hid (HR.out.2.1.trans hB1)
        clear hK hL hP1 hB1
        go_wp2_with fail
        go_ret
        rw [HM.out]
        exact ⟨rfl, HP1.out.store 1 _ fun lv => rfl, HB1.out.trans (But.set _ _ _)⟩
      | false =>
        have HT := Lib.hid hT
        rw [takesL_f hT, hT] at hTK
        have HTK := Lib.hid hTK
        clear hTK hT
        go_wp2_with fail
        refine HTK.out.mono ?_
        rintro e w1 ⟨rfl, hP1, hB1⟩
        have HN := Lib.hid (show PRd w1 r L d bv ∧ But r w w1 ∧ ∀ j, j < 1 → takesB (headsL.getD j []) L = false from ⟨hP1, HR.out.2.1.trans hB1, fun j hj => by
          rcases Nat.lt_or_eq_of_le (Nat.le_of_lt_succ hj) with h1 | rfl
          · exact HR.out.2.2 j h1
          · exact HT.out⟩)
        clear hP1 hB1 HTK HR HT
        go_wp2_with fail
        go_roundw
        case rel => exact ⟨1, by omega, by first | rfl | go_num, HN⟩
        case measure => simp [intOf]
    · replace hi : _ = Value.int .i64 1 := hi
      subst hi
      clear hk
      have hTK := takes_any wr r L d bv wRole HR.out.1
      cases hT : takesB wRole L with
      | true =>
        have HM := Lib.hid (show headM (L, d) = (true, (L.tail, { d with k := 1 })) by simp [headM, headF_some (k := 1) (by omega) hT HR.out.2.2])
        rw [takesL_t hT, hT] at hTK
        have HTK := Lib.hid hTK
        clear hTK hT
        go_wp2_with fail
        refine HTK.out.mono ?_
        rintro e w1 ⟨rfl, hP1, hB1⟩
        obtain ⟨lv1, hK, hL⟩ := id hP1
        have k0 := Blk.cell hK 1
        have f0 := hK.frozen 1
        simp only [rcells] at k0
        have HP1 := Lib.hid hP1
        have HB1 := Lib.hid (HR.out.2.1.trans hB1)
        clear hK hL hP1 hB1
        go_wp2_with fail
        go_ret
        rw [HM.out]
        exact ⟨rfl, HP1.out.store 1 _ fun lv => rfl, HB1.out.trans (But.set _ _ _)⟩
      | false =>
        have HT := Lib.hid hT
        rw [takesL_f hT, hT] at hTK
        have HTK := Lib.hid hTK
        clear hTK hT
        go_wp2_with fail
        refine HTK.out.mono ?_
        rintro e w1 ⟨rfl, hP1, hB1⟩
        have HN := Lib.hid (show PRd w1 r L d bv ∧ But r w w1 ∧ ∀ j, j < 2 → takesB (headsL.getD j []) L = false from ⟨hP1, HR.out.2.1.trans hB1, fun j hj => by
          rcases Nat.lt_or_eq_of_le (Nat.le_of_lt_succ hj) with h1 | rfl
          · exact HR.out.2.2 j h1
          · exact HT.out⟩)
        clear hP1 hB1 HTK HR HT
        go_wp2_with fail
        go_roundw
        case rel => exact ⟨2, by omega, by first | rfl | go_num, HN⟩
        case measure => simp [intOf]
    · replace hi : _ = Value.int .i64 2 := hi
      subst hi
      clear hk
      have hTK := takes_any wr r L d bv wLabel HR.out.1
      cases hT : takesB wLabel L with
      | true =>
        have HM := Lib.hid (show headM (L, d) = (true, (L.tail, { d with k := 2 })) by simp [headM, headF_some (k := 2) (by omega) hT HR.out.2.2])
        rw [takesL_t hT, hT] at hTK
        have HTK := Lib.hid hTK
        clear hTK hT
        go_wp2_with fail
        refine HTK.out.mono ?_
        rintro e w1 ⟨rfl, hP1, hB1⟩
        obtain ⟨lv1, hK, hL⟩ := id hP1
        have k0 := Blk.cell hK 1
        have f0 := hK.frozen 1
        simp only [rcells] at k0
        have HP1 := Lib.hid hP1
        have HB1 := Lib.hid (HR.out.2.1.trans hB1)
        clear hK hL hP1 hB1
        go_wp2_with fail
        go_ret
        rw [HM.out]
        exact ⟨rfl, HP1.out.store 1 _ fun lv => rfl, HB1.out.trans (But.set _ _ _)⟩
      | false =>
        have HT := Lib.hid hT
        rw [takesL_f hT, hT] at hTK
        have HTK := Lib.hid hTK
        clear hTK hT
        go_wp2_with fail
        refine HTK.out.mono ?_
        rintro e w1 ⟨rfl, hP1, hB1⟩
        have HN := Lib.hid (show PRd w1 r L d bv ∧ But r w w1 ∧ ∀ j, j < 3 → takesB (headsL.getD j []) L = false from ⟨hP1, HR.out.2.1.trans hB1, fun j hj => by
          rcases Nat.lt_or_eq_of_le (Nat.le_of_lt_succ hj) with h1 | rfl
          · exact HR.out.2.2 j h1
          · exact HT.out⟩)
        clear hP1 hB1 HTK HR HT
        go_wp2_with fail
        go_roundw
        case rel => exact ⟨3, by omega, by first | rfl | go_num, HN⟩
        case measure => simp [intOf]
    · replace hi : _ = Value.int .i64 3 := hi
      subst hi
      clear hk
      have hTK := takes_any wr r L d bv wRegion HR.out.1
      cases hT : takesB wRegion L with
      | true =>
        have HM := Lib.hid (show headM (L, d) = (true, (L.tail, { d with k := 3 })) by simp [headM, headF_some (k := 3) (by omega) hT HR.out.2.2])
        rw [takesL_t hT, hT] at hTK
        have HTK := Lib.hid hTK
        clear hTK hT
        go_wp2_with fail
        refine HTK.out.mono ?_
        rintro e w1 ⟨rfl, hP1, hB1⟩
        obtain ⟨lv1, hK, hL⟩ := id hP1
        have k0 := Blk.cell hK 1
        have f0 := hK.frozen 1
        simp only [rcells] at k0
        have HP1 := Lib.hid hP1
        have HB1 := Lib.hid (HR.out.2.1.trans hB1)
        clear hK hL hP1 hB1
        go_wp2_with fail
        go_ret
        rw [HM.out]
        exact ⟨rfl, HP1.out.store 1 _ fun lv => rfl, HB1.out.trans (But.set _ _ _)⟩
      | false =>
        have HT := Lib.hid hT
        rw [takesL_f hT, hT] at hTK
        have HTK := Lib.hid hTK
        clear hTK hT
        go_wp2_with fail
        refine HTK.out.mono ?_
        rintro e w1 ⟨rfl, hP1, hB1⟩
        have HN := Lib.hid (show PRd w1 r L d bv ∧ But r w w1 ∧ ∀ j, j < 4 → takesB (headsL.getD j []) L = false from ⟨hP1, HR.out.2.1.trans hB1, fun j hj => by
          rcases Nat.lt_or_eq_of_le (Nat.le_of_lt_succ hj) with h1 | rfl
          · exact HR.out.2.2 j h1
          · exact HT.out⟩)
        clear hP1 hB1 HTK HR HT
        go_wp2_with fail
        go_roundw
        case rel => exact ⟨4, by omega, by first | rfl | go_num, HN⟩
        case measure => simp [intOf]
    · replace hi : _ = Value.int .i64 4 := hi
      subst hi
      clear hk
      have hTK := takes_any wr r L d bv wAllow HR.out.1
      cases hT : takesB wAllow L with
      | true =>
        have HM := Lib.hid (show headM (L, d) = (true, (L.tail, { d with k := 4 })) by simp [headM, headF_some (k := 4) (by omega) hT HR.out.2.2])
        rw [takesL_t hT, hT] at hTK
        have HTK := Lib.hid hTK
        clear hTK hT
        go_wp2_with fail
        refine HTK.out.mono ?_
        rintro e w1 ⟨rfl, hP1, hB1⟩
        obtain ⟨lv1, hK, hL⟩ := id hP1
        have k0 := Blk.cell hK 1
        have f0 := hK.frozen 1
        simp only [rcells] at k0
        have HP1 := Lib.hid hP1
        have HB1 := Lib.hid (HR.out.2.1.trans hB1)
        clear hK hL hP1 hB1
        go_wp2_with fail
        go_ret
        rw [HM.out]
        exact ⟨rfl, HP1.out.store 1 _ fun lv => rfl, HB1.out.trans (But.set _ _ _)⟩
      | false =>
        have HT := Lib.hid hT
        rw [takesL_f hT, hT] at hTK
        have HTK := Lib.hid hTK
        clear hTK hT
        go_wp2_with fail
        refine HTK.out.mono ?_
        rintro e w1 ⟨rfl, hP1, hB1⟩
        have HN := Lib.hid (show PRd w1 r L d bv ∧ But r w w1 ∧ ∀ j, j < 5 → takesB (headsL.getD j []) L = false from ⟨hP1, HR.out.2.1.trans hB1, fun j hj => by
          rcases Nat.lt_or_eq_of_le (Nat.le_of_lt_succ hj) with h1 | rfl
          · exact HR.out.2.2 j h1
          · exact HT.out⟩)
        clear hP1 hB1 HTK HR HT
        go_wp2_with fail
        go_roundw
        case rel => exact ⟨5, by omega, by first | rfl | go_num, HN⟩
        case measure => simp [intOf]
    · replace hi : _ = Value.int .i64 5 := hi
      subst hi
      clear hk
      have hTK := takes_any wr r L d bv wCap HR.out.1
      cases hT : takesB wCap L with
      | true =>
        have HM := Lib.hid (show headM (L, d) = (true, (L.tail, { d with k := 5 })) by simp [headM, headF_some (k := 5) (by omega) hT HR.out.2.2])
        rw [takesL_t hT, hT] at hTK
        have HTK := Lib.hid hTK
        clear hTK hT
        go_wp2_with fail
        refine HTK.out.mono ?_
        rintro e w1 ⟨rfl, hP1, hB1⟩
        obtain ⟨lv1, hK, hL⟩ := id hP1
        have k0 := Blk.cell hK 1
        have f0 := hK.frozen 1
        simp only [rcells] at k0
        have HP1 := Lib.hid hP1
        have HB1 := Lib.hid (HR.out.2.1.trans hB1)
        clear hK hL hP1 hB1
        go_wp2_with fail
        go_ret
        rw [HM.out]
        exact ⟨rfl, HP1.out.store 1 _ fun lv => rfl, HB1.out.trans (But.set _ _ _)⟩
      | false =>
        have HT := Lib.hid hT
        rw [takesL_f hT, hT] at hTK
        have HTK := Lib.hid hTK
        clear hTK hT
        go_wp2_with fail
        refine HTK.out.mono ?_
        rintro e w1 ⟨rfl, hP1, hB1⟩
        have HN := Lib.hid (show PRd w1 r L d bv ∧ But r w w1 ∧ ∀ j, j < 6 → takesB (headsL.getD j []) L = false from ⟨hP1, HR.out.2.1.trans hB1, fun j hj => by
          rcases Nat.lt_or_eq_of_le (Nat.le_of_lt_succ hj) with h1 | rfl
          · exact HR.out.2.2 j h1
          · exact HT.out⟩)
        clear hP1 hB1 HTK HR HT
        go_wp2_with fail
        go_roundw
        case rel => exact ⟨6, by omega, by first | rfl | go_num, HN⟩
        case measure => simp [intOf]
    · replace hi : _ = Value.int .i64 6 := hi
      subst hi
      clear hk
      have hTK := takes_any wr r L d bv wCloak HR.out.1
      cases hT : takesB wCloak L with
      | true =>
        have HM := Lib.hid (show headM (L, d) = (true, (L.tail, { d with k := 6 })) by simp [headM, headF_some (k := 6) (by omega) hT HR.out.2.2])
        rw [takesL_t hT, hT] at hTK
        have HTK := Lib.hid hTK
        clear hTK hT
        go_wp2_with fail
        refine HTK.out.mono ?_
        rintro e w1 ⟨rfl, hP1, hB1⟩
        obtain ⟨lv1, hK, hL⟩ := id hP1
        have k0 := Blk.cell hK 1
        have f0 := hK.frozen 1
        simp only [rcells] at k0
        have HP1 := Lib.hid hP1
        have HB1 := Lib.hid (HR.out.2.1.trans hB1)
        clear hK hL hP1 hB1
        go_wp2_with fail
        go_ret
        rw [HM.out]
        exact ⟨rfl, HP1.out.store 1 _ fun lv => rfl, HB1.out.trans (But.set _ _ _)⟩
      | false =>
        have HT := Lib.hid hT
        rw [takesL_f hT, hT] at hTK
        have HTK := Lib.hid hTK
        clear hTK hT
        go_wp2_with fail
        refine HTK.out.mono ?_
        rintro e w1 ⟨rfl, hP1, hB1⟩
        have HN := Lib.hid (show PRd w1 r L d bv ∧ But r w w1 ∧ ∀ j, j < 7 → takesB (headsL.getD j []) L = false from ⟨hP1, HR.out.2.1.trans hB1, fun j hj => by
          rcases Nat.lt_or_eq_of_le (Nat.le_of_lt_succ hj) with h1 | rfl
          · exact HR.out.2.2 j h1
          · exact HT.out⟩)
        clear hP1 hB1 HTK HR HT
        go_wp2_with fail
        go_roundw
        case rel => exact ⟨7, by omega, by first | rfl | go_num, HN⟩
        case measure => simp [intOf]
    · replace hi : _ = Value.int .i64 7 := hi
      subst hi
      clear hk
      have HM := Lib.hid (show headM (L, d) = (false, (L, d)) by simp [headM, headF_none HR.out.2.2])
      go_wp2_with fail
      go_ret
      rw [HM.out]
      exact ⟨rfl, HR.out.1, HR.out.2.1⟩
theorem after_to {w : World} {r : Nat} {L : List Tk} {d : Dc} {bv : Value} {s : Bs} (M : PM) {e : Ending} {w'' : World} (h : if takesB s L = true then (∃ w', PRd w' r L.tail d bv ∧ But r w w' ∧ ActQ w' r bv (M (L.tail, d)) e w'') else (e = .returned (.bool false) ∧ PRd w'' r L d bv ∧ But r w w'')) : ActQ w r bv (afterM s M (L, d)) e w'' := by
  cases hT : takesB s L with
  | true =>
    rw [hT, if_pos rfl] at h
    obtain ⟨w', h1, h2, h3, h4, h5⟩ := h
    simp only [afterM, andM, takesM, takesL_t hT, hT, if_true]
    exact ⟨h3, h4, h2.trans h5⟩
  | false =>
    rw [hT, if_neg (by decide)] at h
    obtain ⟨h3, h4, h5⟩ := h
    simp only [afterM, andM, takesM, takesL_f hT, hT]
    exact ⟨h3, h4, h5⟩
theorem afterB_to {w : World} {r : Nat} {L : List Tk} {d : Dc} {s : Bs} (M : PM) {e : Ending} {w'' : World} (hd : d.bx = []) (h : if takesB s L = true then (∃ w', PRd w' r L.tail d (.slice none 0 0) ∧ But r w w' ∧ BodyP w' r (M (L.tail, d)) e w'') else (e = .returned (.bool false) ∧ PRd w'' r L d (.slice none 0 0) ∧ But r w w'')) : BodyP w r (afterM s M (L, d)) e w'' := by
  cases hT : takesB s L with
  | true =>
    rw [hT, if_pos rfl] at h
    obtain ⟨w', h1, h2, bv', h3, h4, h5, h6, h7⟩ := h
    simp only [afterM, andM, takesM, takesL_t hT, hT, if_true]
    exact ⟨bv', h3, h4, h5, fun i hi => by have := h6 i hi; have := h2.size; omega, h2.trans h7⟩
  | false =>
    rw [hT, if_neg (by decide)] at h
    obtain ⟨h3, h4, h5⟩ := h
    simp only [afterM, andM, takesM, takesL_f hT, hT]
    exact ⟨_, h3, h4, by show EOwn elR _ _ d.bx; rw [hd]; exact EOwn.nil_ _, fun i hi => by simp [Value.ownBlock] at hi, h5⟩
theorem pafterM_value (w : World) (r : Nat) (L : List Tk) (d : Dc) (bv : Value) (s : Bs) (h : PRd w r L d bv) :
    Calls Tryz.prog 122 #[ptr r, .string (bs s), .func (.func 123) #[ptr r] #[]] w (ActQ w r bv (afterM s valM (L, d))) :=
  (pafter_value w r L d bv s (fun w' => ActQ w' r bv (valM (L.tail, d))) h (fun hT w' hP hB => pvalue_any w' r L.tail d bv hP) (fun w' e w'' hq => ⟨_, hq.1⟩)).mono fun e w'' h => after_to valM h
theorem pafterM_role (w : World) (r : Nat) (L : List Tk) (d : Dc) (bv : Value) (s : Bs) (h : PRd w r L d bv) :
    Calls Tryz.prog 122 #[ptr r, .string (bs s), .func (.func 125) #[ptr r] #[]] w (ActQ w r bv (afterM s roleM (L, d))) :=
  (pafter_role w r L d bv s (fun w' => ActQ w' r bv (roleM (L.tail, d))) h (fun hT w' hP hB => prole_any w' r L.tail d bv hP) (fun w' e w'' hq => ⟨_, hq.1⟩)).mono fun e w'' h => after_to roleM h
theorem pafterM_tiers (w : World) (r : Nat) (L : List Tk) (d : Dc) (bv : Value) (s : Bs) (h : PRd w r L d bv) :
    Calls Tryz.prog 122 #[ptr r, .string (bs s), .func (.func 126) #[ptr r] #[]] w (ActQ w r bv (afterM s tiersM (L, d))) :=
  (pafter_tiers w r L d bv s (fun w' => ActQ w' r bv (tiersM (L.tail, d))) h (fun hT w' hP hB => ptiers_any w' r L.tail d bv hP) (fun w' e w'' hq => ⟨_, hq.1⟩)).mono fun e w'' h => after_to tiersM h
theorem pafterM_label (w : World) (r : Nat) (L : List Tk) (d : Dc) (bv : Value) (s : Bs) (h : PRd w r L d bv) :
    Calls Tryz.prog 122 #[ptr r, .string (bs s), .func (.func 127) #[ptr r] #[]] w (ActQ w r bv (afterM s labelM (L, d))) :=
  (pafter_label w r L d bv s (fun w' => ActQ w' r bv (labelM (L.tail, d))) h (fun hT w' hP hB => plabel_any w' r L.tail d bv hP) (fun w' e w'' hq => ⟨_, hq.1⟩)).mono fun e w'' h => after_to labelM h
theorem pafterM_where (w : World) (r : Nat) (L : List Tk) (d : Dc) (bv : Value) (s : Bs) (h : PRd w r L d bv) :
    Calls Tryz.prog 122 #[ptr r, .string (bs s), .func (.func 128) #[ptr r] #[]] w (ActQ w r bv (afterM s whereM (L, d))) :=
  (pafter_where w r L d bv s (fun w' => ActQ w' r bv (whereM (L.tail, d))) h (fun hT w' hP hB => pwhere_any w' r L.tail d bv hP) (fun w' e w'' hq => ⟨_, hq.1⟩)).mono fun e w'' h => after_to whereM h
theorem pafterM_zoom (w : World) (r : Nat) (L : List Tk) (d : Dc) (bv : Value) (s : Bs) (h : PRd w r L d bv) :
    Calls Tryz.prog 122 #[ptr r, .string (bs s), .func (.func 129) #[ptr r] #[]] w (ActQ w r bv (afterM s zoomM (L, d))) :=
  (pafter_zoom w r L d bv s (fun w' => ActQ w' r bv (zoomM (L.tail, d))) h (fun hT w' hP hB => pzoom_any w' r L.tail d bv hP) (fun w' e w'' hq => ⟨_, hq.1⟩)).mono fun e w'' h => after_to zoomM h
theorem pafterM_boxes (w : World) (r : Nat) (L : List Tk) (d : Dc) (s : Bs) (h : PRd w r L d (.slice none 0 0)) (hd : d.bx = []) (hl : L.length ≤ 100000) :
    Calls Tryz.prog 122 #[ptr r, .string (bs s), .func (.func 124) #[ptr r] #[]] w (BodyP w r (afterM s boxesM (L, d))) :=
  (pafter_boxes w r L d (.slice none 0 0) s (fun w' => BodyP w' r (boxesM (L.tail, d))) h (fun hT w' hP hB => pboxes_any w' r L.tail d hP hd (by have := takes_cons hT; omega)) (fun w' e w'' hq => by obtain ⟨bv', h1, _⟩ := hq; exact ⟨_, h1⟩)).mono fun e w'' h => afterB_to boxesM hd h
theorem bx_after {s : Bs} {M : PM} (h : ∀ q, (M q).2.2.bx = q.2.bx) (q : PS) : (afterM s M q).2.2.bx = q.2.bx := by
  by_cases hT : takesB s q.1 = true
  · simp [afterM, andM, takesM, hT, h]
  · simp [afterM, andM, takesM, hT]
theorem bx_tiers (q : PS) : (tiersM q).2.2.bx = q.2.bx := by unfold tiersM; (repeat' split) <;> rfl
theorem kindL_le (k : Int) (L : List Tk) : (kindL k L).length ≤ L.length := by unfold kindL; split <;> simp
/-- What keeps no boxes. -/
theorem ActQ.body {w w' : World} {r : Nat} {a : Bool × PS} {e : Ending} (h : ActQ w r (.slice none 0 0) a e w') (hd : a.2.2.bx = []) : BodyP w r a e w' :=
  ⟨_, h.1, h.2.1, by rw [hd]; exact EOwn.nil_ _, fun i hi => by simp [Value.ownBlock] at hi, h.2.2⟩
set_option maxRecDepth 100000 in
set_option maxHeartbeats 8000000 in
theorem pbody_any (w : World) (r : Nat) (L : List Tk) (d : Dc) (h : PRd w r L d (.slice none 0 0)) (hd : d.bx = []) (hl : L.length ≤ 100000) :
    Calls Tryz.prog 86 #[ptr r] w (BodyP w r (bodyM (L, d))) := by
  obtain ⟨lv, hK, hL⟩ := id h
  have k1 := Blk.cell hK 1
  simp only [rcells] at k1
  have HP := Lib.hid h
  have HD := Lib.hid hd
  have HLN := Lib.hid hl
  clear hK hL h hd hl
  by_cases e1 : d.k = 1
  · have c1 : (d.k == 1) = true := by simp [e1]
    have hk : d.k = 1 := e1
    rw [e1] at k1
    clear c1 e1
    have hNM := pname_in w r L d (.slice none 0 0) 1 _ (fun s d => { d with nm := s }) HP.out rfl (fun lv s => rfl)
    unfold ActQ nameM at hNM
    cases hb : kindB 1 L with
    | false =>
      have HM := Lib.hid (show bodyM (L, d) = (false, (kindL 1 L, { d with nm := (kindT 1 L).t })) by simp [bodyM, hk, andM, nmM, nameM, hb])
      simp only [hb] at hNM
      have HNM := Lib.hid hNM
      clear hNM hb hk
      go_enter Tryz.func86, Tryz.ntmps86
      go_wp2_with fail
      refine HNM.out.mono ?_
      rintro e w1 ⟨rfl, hP1, hB1⟩
      have HP1 := Lib.hid hP1
      have HB1 := Lib.hid hB1
      clear hP1 hB1 HNM k1
      go_wp2_with fail
      go_ret
      rw [HM.out]
      exact ActQ.body ⟨rfl, HP1.out, HB1.out⟩ HD.out
    | true =>
      have HM := Lib.hid (show bodyM (L, d) = afterM mIs valM (kindL 1 L, { d with nm := (kindT 1 L).t }) by simp [bodyM, hk, andM, nmM, nameM, hb])
      simp only [hb] at hNM
      have HNM := Lib.hid hNM
      clear hNM hb hk
      go_enter Tryz.func86, Tryz.ntmps86
      go_wp2_with fail
      refine HNM.out.mono ?_
      rintro e w1 ⟨rfl, hP1, hB1⟩
      have HP1 := Lib.hid hP1
      have HB1 := Lib.hid hB1
      clear hP1 hB1 HNM k1
      go_wp2_with fail
      refine (pafterM_value w1 r (kindL 1 L) { d with nm := (kindT 1 L).t } (.slice none 0 0) mIs HP1.out).mono ?_
      rintro e w2 ⟨rfl, h2, h3⟩
      have HQ := Lib.hid (show BodyP w r (afterM mIs valM (kindL 1 L, { d with nm := (kindT 1 L).t })) (.returned (.bool (afterM mIs valM (kindL 1 L, { d with nm := (kindT 1 L).t })).1)) w2 from ActQ.body ⟨rfl, h2, HB1.out.trans h3⟩ (by rw [bx_after fun q => by simp [valM, numM]]; exact HD.out))
      clear h2 h3
      generalize (afterM mIs valM (kindL 1 L, { d with nm := (kindT 1 L).t })) = q at *
      go_wp2_with fail
      go_ret
      rw [HM.out]
      exact HQ.out
  have c1 : (d.k == 1) = false := by simp [e1]
  by_cases e2 : d.k = 2
  · have c2 : (d.k == 2) = true := by simp [e2]
    have hk : d.k = 2 := e2
    rw [e2] at k1
    clear c2 e2 c1 e1
    have hNM := pname_in w r L d (.slice none 0 0) 1 _ (fun s d => { d with nm := s }) HP.out rfl (fun lv s => rfl)
    unfold ActQ nameM at hNM
    cases hb : kindB 1 L with
    | false =>
      have HM := Lib.hid (show bodyM (L, d) = (false, (kindL 1 L, { d with nm := (kindT 1 L).t })) by simp [bodyM, hk, andM, nmM, nameM, hb])
      simp only [hb] at hNM
      have HNM := Lib.hid hNM
      clear hNM hb hk
      go_enter Tryz.func86, Tryz.ntmps86
      go_wp2_with fail
      refine HNM.out.mono ?_
      rintro e w1 ⟨rfl, hP1, hB1⟩
      have HP1 := Lib.hid hP1
      have HB1 := Lib.hid hB1
      clear hP1 hB1 HNM k1
      go_wp2_with fail
      go_ret
      rw [HM.out]
      exact ActQ.body ⟨rfl, HP1.out, HB1.out⟩ HD.out
    | true =>
      have HM := Lib.hid (show bodyM (L, d) = afterM mIs valM (kindL 1 L, { d with nm := (kindT 1 L).t }) by simp [bodyM, hk, andM, nmM, nameM, hb])
      simp only [hb] at hNM
      have HNM := Lib.hid hNM
      clear hNM hb hk
      go_enter Tryz.func86, Tryz.ntmps86
      go_wp2_with fail
      refine HNM.out.mono ?_
      rintro e w1 ⟨rfl, hP1, hB1⟩
      have HP1 := Lib.hid hP1
      have HB1 := Lib.hid hB1
      clear hP1 hB1 HNM k1
      go_wp2_with fail
      refine (pafterM_value w1 r (kindL 1 L) { d with nm := (kindT 1 L).t } (.slice none 0 0) mIs HP1.out).mono ?_
      rintro e w2 ⟨rfl, h2, h3⟩
      have HQ := Lib.hid (show BodyP w r (afterM mIs valM (kindL 1 L, { d with nm := (kindT 1 L).t })) (.returned (.bool (afterM mIs valM (kindL 1 L, { d with nm := (kindT 1 L).t })).1)) w2 from ActQ.body ⟨rfl, h2, HB1.out.trans h3⟩ (by rw [bx_after fun q => by simp [valM, numM]]; exact HD.out))
      clear h2 h3
      generalize (afterM mIs valM (kindL 1 L, { d with nm := (kindT 1 L).t })) = q at *
      go_wp2_with fail
      go_ret
      rw [HM.out]
      exact HQ.out
  have c2 : (d.k == 2) = false := by simp [e2]
  by_cases e3 : d.k = 3
  · have c3 : (d.k == 3) = true := by simp [e3]
    have hk : d.k = 3 := e3
    rw [e3] at k1
    clear c3 e3 c1 e1 c2 e2
    have hNM := pname_in w r L d (.slice none 0 0) 1 _ (fun s d => { d with nm := s }) HP.out rfl (fun lv s => rfl)
    unfold ActQ nameM at hNM
    cases hb : kindB 1 L with
    | false =>
      have HM := Lib.hid (show bodyM (L, d) = (false, (kindL 1 L, { d with nm := (kindT 1 L).t })) by simp [bodyM, hk, andM, nmM, nameM, hb])
      simp only [hb] at hNM
      have HNM := Lib.hid hNM
      clear hNM hb hk
      go_enter Tryz.func86, Tryz.ntmps86
      go_wp2_with fail
      refine HNM.out.mono ?_
      rintro e w1 ⟨rfl, hP1, hB1⟩
      have HP1 := Lib.hid hP1
      have HB1 := Lib.hid hB1
      clear hP1 hB1 HNM k1
      go_wp2_with fail
      go_ret
      rw [HM.out]
      exact ActQ.body ⟨rfl, HP1.out, HB1.out⟩ HD.out
    | true =>
      have HM := Lib.hid (show bodyM (L, d) = afterM mIs boxesM (kindL 1 L, { d with nm := (kindT 1 L).t }) by simp [bodyM, hk, andM, nmM, nameM, hb])
      simp only [hb] at hNM
      have HNM := Lib.hid hNM
      clear hNM hb hk
      go_enter Tryz.func86, Tryz.ntmps86
      go_wp2_with fail
      refine HNM.out.mono ?_
      rintro e w1 ⟨rfl, hP1, hB1⟩
      have HP1 := Lib.hid hP1
      have HB1 := Lib.hid hB1
      clear hP1 hB1 HNM k1
      go_wp2_with fail
      refine (pafterM_boxes w1 r (kindL 1 L) { d with nm := (kindT 1 L).t } mIs HP1.out HD.out (by have := kindL_le 1 L; have := HLN.out; omega)).mono ?_
      rintro e w2 ⟨bv', rfl, h2, h3, h4, h5⟩
      have HQ := Lib.hid (show BodyP w r (afterM mIs boxesM (kindL 1 L, { d with nm := (kindT 1 L).t })) (.returned (.bool (afterM mIs boxesM (kindL 1 L, { d with nm := (kindT 1 L).t })).1)) w2 from ⟨bv', rfl, h2, h3, fun i hi => by have := h4 i hi; have := HB1.out.size; omega, HB1.out.trans h5⟩)
      clear h2 h3 h4 h5
      generalize (afterM mIs boxesM (kindL 1 L, { d with nm := (kindT 1 L).t })) = q at *
      go_wp2_with fail
      go_ret
      rw [HM.out]
      exact HQ.out
  have c3 : (d.k == 3) = false := by simp [e3]
  by_cases e4 : d.k = 4
  · have c4 : (d.k == 4) = true := by simp [e4]
    have hk : d.k = 4 := e4
    rw [e4] at k1
    clear c4 e4 c1 e1 c2 e2 c3 e3
    have HB := Lib.hid (show bodyM (L, d) = andM (afterM wRole roleM) (andM (afterM wTier tiersM) (andM (afterM wLabel labelM) (andM (afterM wIn whereM) (afterM wZoom zoomM)))) (L, d) by simp [bodyM, hk])
    clear hk
    go_enter Tryz.func86, Tryz.ntmps86
    go_wp2_with fail
    have HP0 := HP
    have HB0 := Lib.hid (But.refl r w)
    have HD0 := HD
    clear k1
    refine (pafterM_role w r L d (.slice none 0 0) wRole HP0.out).mono ?_
    intro e w1 hq
    have HX1 := Lib.hid (show (afterM wRole roleM (L, d)).2.2.bx = d.bx from bx_after (fun q => by simp [roleM]) (L, d))
    generalize hq1 : afterM wRole roleM (L, d) = q1 at *
    obtain ⟨rfl, hP1, hB1⟩ := hq
    obtain ⟨b1, L1, d1⟩ := q1
    have HQ1 := Lib.hid hq1
    have HD1 := Lib.hid (show d1.bx = [] from HX1.out.trans HD0.out)
    have HP1 := Lib.hid hP1
    have HB1 := Lib.hid (HB0.out.trans hB1)
    clear hq1 hP1 hB1 HX1 HP0 HB0
    cases b1 with
    | false =>
      go_wp2_with fail
      go_ret
      have hM : bodyM (L, d) = (false, (L1, d1)) := by
        have e := HB.out
        rw [e]
        simp [andM, HQ1.out]
      rw [hM]
      exact ActQ.body ⟨rfl, HP1.out, HB1.out⟩ HD1.out
    | true =>
      go_wp2_with fail
      refine (pafterM_tiers w1 r L1 d1 (.slice none 0 0) wTier HP1.out).mono ?_
      intro e w2 hq
      have HX2 := Lib.hid (show (afterM wTier tiersM (L1, d1)).2.2.bx = d1.bx from bx_after (bx_tiers) (L1, d1))
      generalize hq2 : afterM wTier tiersM (L1, d1) = q2 at *
      obtain ⟨rfl, hP2, hB2⟩ := hq
      obtain ⟨b2, L2, d2⟩ := q2
      have HQ2 := Lib.hid hq2
      have HD2 := Lib.hid (show d2.bx = [] from HX2.out.trans HD1.out)
      have HP2 := Lib.hid hP2
      have HB2 := Lib.hid (HB1.out.trans hB2)
      clear hq2 hP2 hB2 HX2 HP1 HB1
      cases b2 with
      | false =>
        go_wp2_with fail
        go_ret
        have hM : bodyM (L, d) = (false, (L2, d2)) := by
          have e := HB.out
          rw [e]
          simp [andM, HQ1.out, HQ2.out]
        rw [hM]
        exact ActQ.body ⟨rfl, HP2.out, HB2.out⟩ HD2.out
      | true =>
        go_wp2_with fail
        refine (pafterM_label w2 r L2 d2 (.slice none 0 0) wLabel HP2.out).mono ?_
        intro e w3 hq
        have HX3 := Lib.hid (show (afterM wLabel labelM (L2, d2)).2.2.bx = d2.bx from bx_after (fun q => by simp [labelM]) (L2, d2))
        generalize hq3 : afterM wLabel labelM (L2, d2) = q3 at *
        obtain ⟨rfl, hP3, hB3⟩ := hq
        obtain ⟨b3, L3, d3⟩ := q3
        have HQ3 := Lib.hid hq3
        have HD3 := Lib.hid (show d3.bx = [] from HX3.out.trans HD2.out)
        have HP3 := Lib.hid hP3
        have HB3 := Lib.hid (HB2.out.trans hB3)
        clear hq3 hP3 hB3 HX3 HP2 HB2
        cases b3 with
        | false =>
          go_wp2_with fail
          go_ret
          have hM : bodyM (L, d) = (false, (L3, d3)) := by
            have e := HB.out
            rw [e]
            simp [andM, HQ1.out, HQ2.out, HQ3.out]
          rw [hM]
          exact ActQ.body ⟨rfl, HP3.out, HB3.out⟩ HD3.out
        | true =>
          go_wp2_with fail
          refine (pafterM_where w3 r L3 d3 (.slice none 0 0) wIn HP3.out).mono ?_
          intro e w4 hq
          have HX4 := Lib.hid (show (afterM wIn whereM (L3, d3)).2.2.bx = d3.bx from bx_after (fun q => by simp [whereM]) (L3, d3))
          generalize hq4 : afterM wIn whereM (L3, d3) = q4 at *
          obtain ⟨rfl, hP4, hB4⟩ := hq
          obtain ⟨b4, L4, d4⟩ := q4
          have HQ4 := Lib.hid hq4
          have HD4 := Lib.hid (show d4.bx = [] from HX4.out.trans HD3.out)
          have HP4 := Lib.hid hP4
          have HB4 := Lib.hid (HB3.out.trans hB4)
          clear hq4 hP4 hB4 HX4 HP3 HB3
          cases b4 with
          | false =>
            go_wp2_with fail
            go_ret
            have hM : bodyM (L, d) = (false, (L4, d4)) := by
              have e := HB.out
              rw [e]
              simp [andM, HQ1.out, HQ2.out, HQ3.out, HQ4.out]
            rw [hM]
            exact ActQ.body ⟨rfl, HP4.out, HB4.out⟩ HD4.out
          | true =>
            go_wp2_with fail
            refine (pafterM_zoom w4 r L4 d4 (.slice none 0 0) wZoom HP4.out).mono ?_
            intro e w5 hq
            have HX5 := Lib.hid (show (afterM wZoom zoomM (L4, d4)).2.2.bx = d4.bx from bx_after (fun q => by simp [zoomM, numM]) (L4, d4))
            generalize hq5 : afterM wZoom zoomM (L4, d4) = q5 at *
            obtain ⟨rfl, hP5, hB5⟩ := hq
            obtain ⟨b5, L5, d5⟩ := q5
            have HQ5 := Lib.hid hq5
            have HD5 := Lib.hid (show d5.bx = [] from HX5.out.trans HD4.out)
            have HP5 := Lib.hid hP5
            have HB5 := Lib.hid (HB4.out.trans hB5)
            clear hq5 hP5 hB5 HX5 HP4 HB4
            go_wp2_with fail
            go_ret
            have hM : bodyM (L, d) = (b5, (L5, d5)) := by
              have e := HB.out
              rw [e]
              simp [andM, HQ1.out, HQ2.out, HQ3.out, HQ4.out, HQ5.out]
            rw [hM]
            exact ActQ.body ⟨rfl, HP5.out, HB5.out⟩ HD5.out
  have c4 : (d.k == 4) = false := by simp [e4]
  by_cases e5 : d.k = 5
  · have c5 : (d.k == 5) = true := by simp [e5]
    have hk : d.k = 5 := e5
    rw [e5] at k1
    clear c5 e5 c1 e1 c2 e2 c3 e3 c4 e4
    have HB := Lib.hid (show bodyM (L, d) = andM (afterM wRole roleM) (andM (afterM wTier tiersM) (andM (afterM wLabel labelM) (andM (afterM wIn whereM) (afterM wZoom zoomM)))) (L, d) by simp [bodyM, hk])
    clear hk
    go_enter Tryz.func86, Tryz.ntmps86
    go_wp2_with fail
    have HP0 := HP
    have HB0 := Lib.hid (But.refl r w)
    have HD0 := HD
    clear k1
    refine (pafterM_role w r L d (.slice none 0 0) wRole HP0.out).mono ?_
    intro e w1 hq
    have HX1 := Lib.hid (show (afterM wRole roleM (L, d)).2.2.bx = d.bx from bx_after (fun q => by simp [roleM]) (L, d))
    generalize hq1 : afterM wRole roleM (L, d) = q1 at *
    obtain ⟨rfl, hP1, hB1⟩ := hq
    obtain ⟨b1, L1, d1⟩ := q1
    have HQ1 := Lib.hid hq1
    have HD1 := Lib.hid (show d1.bx = [] from HX1.out.trans HD0.out)
    have HP1 := Lib.hid hP1
    have HB1 := Lib.hid (HB0.out.trans hB1)
    clear hq1 hP1 hB1 HX1 HP0 HB0
    cases b1 with
    | false =>
      go_wp2_with fail
      go_ret
      have hM : bodyM (L, d) = (false, (L1, d1)) := by
        have e := HB.out
        rw [e]
        simp [andM, HQ1.out]
      rw [hM]
      exact ActQ.body ⟨rfl, HP1.out, HB1.out⟩ HD1.out
    | true =>
      go_wp2_with fail
      refine (pafterM_tiers w1 r L1 d1 (.slice none 0 0) wTier HP1.out).mono ?_
      intro e w2 hq
      have HX2 := Lib.hid (show (afterM wTier tiersM (L1, d1)).2.2.bx = d1.bx from bx_after (bx_tiers) (L1, d1))
      generalize hq2 : afterM wTier tiersM (L1, d1) = q2 at *
      obtain ⟨rfl, hP2, hB2⟩ := hq
      obtain ⟨b2, L2, d2⟩ := q2
      have HQ2 := Lib.hid hq2
      have HD2 := Lib.hid (show d2.bx = [] from HX2.out.trans HD1.out)
      have HP2 := Lib.hid hP2
      have HB2 := Lib.hid (HB1.out.trans hB2)
      clear hq2 hP2 hB2 HX2 HP1 HB1
      cases b2 with
      | false =>
        go_wp2_with fail
        go_ret
        have hM : bodyM (L, d) = (false, (L2, d2)) := by
          have e := HB.out
          rw [e]
          simp [andM, HQ1.out, HQ2.out]
        rw [hM]
        exact ActQ.body ⟨rfl, HP2.out, HB2.out⟩ HD2.out
      | true =>
        go_wp2_with fail
        refine (pafterM_label w2 r L2 d2 (.slice none 0 0) wLabel HP2.out).mono ?_
        intro e w3 hq
        have HX3 := Lib.hid (show (afterM wLabel labelM (L2, d2)).2.2.bx = d2.bx from bx_after (fun q => by simp [labelM]) (L2, d2))
        generalize hq3 : afterM wLabel labelM (L2, d2) = q3 at *
        obtain ⟨rfl, hP3, hB3⟩ := hq
        obtain ⟨b3, L3, d3⟩ := q3
        have HQ3 := Lib.hid hq3
        have HD3 := Lib.hid (show d3.bx = [] from HX3.out.trans HD2.out)
        have HP3 := Lib.hid hP3
        have HB3 := Lib.hid (HB2.out.trans hB3)
        clear hq3 hP3 hB3 HX3 HP2 HB2
        cases b3 with
        | false =>
          go_wp2_with fail
          go_ret
          have hM : bodyM (L, d) = (false, (L3, d3)) := by
            have e := HB.out
            rw [e]
            simp [andM, HQ1.out, HQ2.out, HQ3.out]
          rw [hM]
          exact ActQ.body ⟨rfl, HP3.out, HB3.out⟩ HD3.out
        | true =>
          go_wp2_with fail
          refine (pafterM_where w3 r L3 d3 (.slice none 0 0) wIn HP3.out).mono ?_
          intro e w4 hq
          have HX4 := Lib.hid (show (afterM wIn whereM (L3, d3)).2.2.bx = d3.bx from bx_after (fun q => by simp [whereM]) (L3, d3))
          generalize hq4 : afterM wIn whereM (L3, d3) = q4 at *
          obtain ⟨rfl, hP4, hB4⟩ := hq
          obtain ⟨b4, L4, d4⟩ := q4
          have HQ4 := Lib.hid hq4
          have HD4 := Lib.hid (show d4.bx = [] from HX4.out.trans HD3.out)
          have HP4 := Lib.hid hP4
          have HB4 := Lib.hid (HB3.out.trans hB4)
          clear hq4 hP4 hB4 HX4 HP3 HB3
          cases b4 with
          | false =>
            go_wp2_with fail
            go_ret
            have hM : bodyM (L, d) = (false, (L4, d4)) := by
              have e := HB.out
              rw [e]
              simp [andM, HQ1.out, HQ2.out, HQ3.out, HQ4.out]
            rw [hM]
            exact ActQ.body ⟨rfl, HP4.out, HB4.out⟩ HD4.out
          | true =>
            go_wp2_with fail
            refine (pafterM_zoom w4 r L4 d4 (.slice none 0 0) wZoom HP4.out).mono ?_
            intro e w5 hq
            have HX5 := Lib.hid (show (afterM wZoom zoomM (L4, d4)).2.2.bx = d4.bx from bx_after (fun q => by simp [zoomM, numM]) (L4, d4))
            generalize hq5 : afterM wZoom zoomM (L4, d4) = q5 at *
            obtain ⟨rfl, hP5, hB5⟩ := hq
            obtain ⟨b5, L5, d5⟩ := q5
            have HQ5 := Lib.hid hq5
            have HD5 := Lib.hid (show d5.bx = [] from HX5.out.trans HD4.out)
            have HP5 := Lib.hid hP5
            have HB5 := Lib.hid (HB4.out.trans hB5)
            clear hq5 hP5 hB5 HX5 HP4 HB4
            go_wp2_with fail
            go_ret
            have hM : bodyM (L, d) = (b5, (L5, d5)) := by
              have e := HB.out
              rw [e]
              simp [andM, HQ1.out, HQ2.out, HQ3.out, HQ4.out, HQ5.out]
            rw [hM]
            exact ActQ.body ⟨rfl, HP5.out, HB5.out⟩ HD5.out
  have c5 : (d.k == 5) = false := by simp [e5]
  by_cases e6 : d.k = 6
  · have c6 : (d.k == 6) = true := by simp [e6]
    have hk : d.k = 6 := e6
    rw [e6] at k1
    clear c6 e6 c1 e1 c2 e2 c3 e3 c4 e4 c5 e5
    have HM := Lib.hid (show bodyM (L, d) = afterM wRole roleM (L, d) by simp [bodyM, hk])
    clear hk
    go_enter Tryz.func86, Tryz.ntmps86
    go_wp2_with fail
    clear k1
    refine (pafterM_role w r L d (.slice none 0 0) wRole HP.out).mono ?_
    rintro e w2 ⟨rfl, h2, h3⟩
    have HQ := Lib.hid (show BodyP w r (afterM wRole roleM (L, d)) (.returned (.bool (afterM wRole roleM (L, d)).1)) w2 from ActQ.body ⟨rfl, h2, h3⟩ (by rw [bx_after fun q => by simp [roleM]]; exact HD.out))
    clear h2 h3
    generalize (afterM wRole roleM (L, d)) = q at *
    go_wp2_with fail
    go_ret
    rw [HM.out]
    exact HQ.out
  have c6 : (d.k == 6) = false := by simp [e6]
  have HM := Lib.hid (show bodyM (L, d) = (false, (L, d)) by simp [bodyM, e1, e2, e3, e4, e5, e6])
  clear e1 e2 e3 e4 e5 e6
  go_enter Tryz.func86, Tryz.ntmps86
  go_wp2_with fail
  go_ret
  rw [HM.out]
  exact ActQ.body ⟨rfl, HP.out, But.refl _ _⟩ HD.out
end Go.Proofs.YtkpmeelbjldcoaaGreatDoor
