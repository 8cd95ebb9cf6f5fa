/- Texts: Po3. -/
import Derived.Test.YtkpmeelbjldcoaaGreatDoorZbPo2
namespace Go.Proofs.YtkpmeelbjldcoaaGreatDoor
set_option linter.unusedVariables false
set_option linter.unusedSimpArgs false
open Go.RowKit
set_option maxRecDepth 100000 in
set_option maxHeartbeats 2000000 in
theorem ptiers_any (w : World) (r : Nat) (L : List Tk) (d : Dc) (bv : Value) (h : PRd w r L d bv) :
    Calls Tryz.prog 126 #[ptr r] w (ActQ w r bv (tiersM (L, d))) := by
  have HR := Lib.hid h
  have hTK := takes_any w r L d bv wAny h
  clear h
  cases hT : takesB wAny L with
  | true =>
    rw [takesL_t hT, hT] at hTK
    have HTK := Lib.hid hTK
    have HM := Lib.hid (show tiersM (L, d) = (true, (L.tail, { d with hi := 7 })) by simp [tiersM, hT])
    clear hT hTK
    go_enter Tryz.func126, Tryz.ntmps126
    go_wp2_with fail
    refine (HTK.out).mono ?_
    rintro e w1 ⟨rfl, hP1, hB1⟩
    have HP1 := Lib.hid hP1
    have HB1 := Lib.hid hB1
    clear hP1 hB1
    obtain ⟨lv1, hK, hL⟩ := HP1.out
    have k0 := Blk.cell hK 11
    have f0 := hK.frozen 11
    simp only [rcells] at k0
    clear hK hL
    go_wp2_with fail
    go_ret
    rw [HM.out]
    exact ⟨rfl, HP1.out.store 11 _ fun lv => rfl, HB1.out.trans (But.set _ _ _)⟩
  | false =>
    rw [takesL_f hT, hT] at hTK
    have HTK := Lib.hid hTK
    clear hTK
    cases hK1 : kindB 3 L with
    | false =>
      have HM := Lib.hid (show tiersM (L, d) = (false, (L, { d with lo := 0 })) by simp [tiersM, hT, hK1])
      have HNM := Lib.hid (show ∀ w', PRd w' r L d bv → Calls Tryz.prog 148 #[ptr r, ptrAt r 10] w' fun e w'' => e = .returned (.bool false) ∧ PRd w'' r L { d with lo := 0 } bv ∧ But r w' w'' from fun w' hw => by have := pnum_in w' r L d bv 9 _ (fun n d => { d with lo := n }) hw rfl (fun lv s => rfl); unfold ActQ numM at this; simp only [kindL_f hK1, hK1, kindT_f hK1, Tk.z] at this; exact this)
      clear hT hK1
      go_enter Tryz.func126, Tryz.ntmps126
      go_wp2_with fail
      refine (HTK.out).mono ?_
      rintro e w1 ⟨rfl, hP1, hB1⟩
      have HP1 := Lib.hid hP1
      have HB1 := Lib.hid hB1
      clear hP1 hB1
      go_wp2_with fail
      refine (HNM.out _ HP1.out).mono ?_
      rintro e w2 ⟨rfl, hP2, hB2⟩
      have HP2 := Lib.hid hP2
      have HB2 := Lib.hid (HB1.out.trans hB2)
      clear hP2 hB2
      go_wp2_with fail
      go_ret
      rw [HM.out]
      exact ⟨rfl, HP2.out, HB2.out⟩
    | true =>
      have HNM := Lib.hid (show ∀ w', PRd w' r L d bv → Calls Tryz.prog 148 #[ptr r, ptrAt r 10] w' fun e w'' => e = .returned (.bool true) ∧ PRd w'' r L.tail { d with lo := (kindT 3 L).n } bv ∧ But r w' w'' from fun w' hw => by have := pnum_in w' r L d bv 9 _ (fun n d => { d with lo := n }) hw rfl (fun lv s => rfl); unfold ActQ numM at this; simp only [kindL_t hK1, hK1] at this; exact this)
      cases hU : takesB mUp L.tail with
      | true =>
        have HM := Lib.hid (show tiersM (L, d) = (kindB 3 L.tail.tail, (kindL 3 L.tail.tail, { d with lo := (kindT 3 L).n, hi := (kindT 3 L.tail.tail).n })) by simp [tiersM, hT, hK1, hU])
        have HTU := Lib.hid (show ∀ w', PRd w' r L.tail { d with lo := (kindT 3 L).n, hi := (kindT 3 L).n } bv → Calls Tryz.prog 87 #[ptr r, .string (bs mUp)] w' fun e w'' => e = .returned (.bool true) ∧ PRd w'' r L.tail.tail { d with lo := (kindT 3 L).n, hi := (kindT 3 L).n } bv ∧ But r w' w'' from fun w' hw => by have := takes_any w' r L.tail { d with lo := (kindT 3 L).n, hi := (kindT 3 L).n } bv mUp hw; rw [takesL_t hU, hU] at this; exact this)
        have HNU := Lib.hid (show ∀ w', PRd w' r L.tail.tail { d with lo := (kindT 3 L).n, hi := (kindT 3 L).n } bv → Calls Tryz.prog 148 #[ptr r, ptrAt r 11] w' fun e w'' => e = .returned (.bool (kindB 3 L.tail.tail)) ∧ PRd w'' r (kindL 3 L.tail.tail) { d with lo := (kindT 3 L).n, hi := (kindT 3 L.tail.tail).n } bv ∧ But r w' w'' from fun w' hw => pnum_in w' r L.tail.tail { d with lo := (kindT 3 L).n, hi := (kindT 3 L).n } bv 10 _ (fun n d => { d with hi := n }) hw rfl (fun lv s => rfl))
        clear hT hK1 hU
        go_enter Tryz.func126, Tryz.ntmps126
        go_wp2_with fail
        refine (HTK.out).mono ?_
        rintro e w1 ⟨rfl, hP1, hB1⟩
        have HP1 := Lib.hid hP1
        have HB1 := Lib.hid hB1
        clear hP1 hB1
        go_wp2_with fail
        refine (HNM.out _ HP1.out).mono ?_
        rintro e w2 ⟨rfl, hP2, hB2⟩
        have HP2 := Lib.hid hP2
        have HB2 := Lib.hid (HB1.out.trans hB2)
        clear hP2 hB2
        obtain ⟨lv2, hK, hL⟩ := HP2.out
        have k0 := Blk.cell hK 11
        have k1 := Blk.cell hK 10
        have f0 := hK.frozen 11
        simp only [rcells] at k0 k1
        clear hK hL
        go_wp2_with fail
        refine (HTU.out _ (HP2.out.store 11 _ fun lv => rfl)).mono ?_
        rintro e w3 ⟨rfl, hP3, hB3⟩
        have HP3 := Lib.hid hP3
        have HB3 := Lib.hid ((HB2.out.trans (But.set _ _ _)).trans hB3)
        clear hP3 hB3 k0 k1 f0
        go_wp2_with fail
        refine (HNU.out _ HP3.out).mono ?_
        rintro e w4 ⟨rfl, hP4, hB4⟩
        have HP4 := Lib.hid hP4
        have HB4 := Lib.hid (HB3.out.trans hB4)
        clear hP4 hB4
        go_wp2_with fail
        go_ret
        rw [HM.out]
        exact ⟨rfl, HP4.out, HB4.out⟩
      | false =>
        have HM := Lib.hid (show tiersM (L, d) = (true, (L.tail, { d with lo := (kindT 3 L).n, hi := (kindT 3 L).n })) by simp [tiersM, hT, hK1, hU])
        have HTU := Lib.hid (show ∀ w', PRd w' r L.tail { d with lo := (kindT 3 L).n, hi := (kindT 3 L).n } bv → Calls Tryz.prog 87 #[ptr r, .string (bs mUp)] w' fun e w'' => e = .returned (.bool false) ∧ PRd w'' r L.tail { d with lo := (kindT 3 L).n, hi := (kindT 3 L).n } bv ∧ But r w' w'' from fun w' hw => by have := takes_any w' r L.tail { d with lo := (kindT 3 L).n, hi := (kindT 3 L).n } bv mUp hw; rw [takesL_f hU, hU] at this; exact this)
        clear hT hK1 hU
        go_enter Tryz.func126, Tryz.ntmps126
        go_wp2_with fail
        refine (HTK.out).mono ?_
        rintro e w1 ⟨rfl, hP1, hB1⟩
        have HP1 := Lib.hid hP1
        have HB1 := Lib.hid hB1
        clear hP1 hB1
        go_wp2_with fail
        refine (HNM.out _ HP1.out).mono ?_
        rintro e w2 ⟨rfl, hP2, hB2⟩
        have HP2 := Lib.hid hP2
        have HB2 := Lib.hid (HB1.out.trans hB2)
        clear hP2 hB2
        obtain ⟨lv2, hK, hL⟩ := HP2.out
        have k0 := Blk.cell hK 11
        have k1 := Blk.cell hK 10
        have f0 := hK.frozen 11
        simp only [rcells] at k0 k1
        clear hK hL
        go_wp2_with fail
        refine (HTU.out _ (HP2.out.store 11 _ fun lv => rfl)).mono ?_
        rintro e w3 ⟨rfl, hP3, hB3⟩
        have HP3 := Lib.hid hP3
        have HB3 := Lib.hid ((HB2.out.trans (But.set _ _ _)).trans hB3)
        clear hP3 hB3 k0 k1 f0
        go_wp2_with fail
        go_ret
        rw [HM.out]
        exact ⟨rfl, HP3.out, HB3.out⟩
set_option maxRecDepth 100000 in
/-- A function handed on reads what comes next. -/
theorem pafter_value (w : World) (r : Nat) (L : List Tk) (d : Dc) (bv : Value) (s : Bs) (Q : World → Ending → World → Prop) (h : PRd w r L d bv)
    (hn : takesB s L = true → ∀ w', PRd w' r L.tail d bv → But r w w' → Calls Tryz.prog 123 #[ptr r] w' (Q w')) (hq : ∀ w' e w'', Q w' e w'' → ∃ b, e = .returned (.bool b)) :
    Calls Tryz.prog 122 #[ptr r, .string (bs s), .func (.func 123) #[ptr r] #[]] w fun e w'' => if takesB s L = true then (∃ w', PRd w' r L.tail d bv ∧ But r w w' ∧ Q w' e w'') else (e = .returned (.bool false) ∧ PRd w'' r L d bv ∧ But r w w'') := by
  have hTK := takes_any w r L d bv s h
  clear h
  cases hT : takesB s L with
  | true =>
    rw [takesL_t hT, hT] at hTK
    have HTK := Lib.hid hTK
    have HN := Lib.hid (hn hT)
    have HQ := Lib.hid hq
    clear hTK hn hT hq
    go_enter Tryz.func122, Tryz.ntmps122
    go_wp2_with fail
    refine HTK.out.mono ?_
    rintro e w1 ⟨rfl, hP1, hB1⟩
    have HP1 := Lib.hid hP1
    have HB1 := Lib.hid hB1
    clear hP1 hB1
    go_wp2_with fail
    refine (HN.out w1 HP1.out HB1.out).mono ?_
    intro e w2 hq2
    have HQ2 := Lib.hid hq2
    obtain ⟨b, rfl⟩ := HQ.out _ _ _ hq2
    clear hq2
    go_wp2_with fail
    go_ret
    exact ⟨w1, HP1.out, HB1.out, HQ2.out⟩
  | false =>
    rw [takesL_f hT, hT] at hTK
    have HTK := Lib.hid hTK
    clear hTK hn hT
    go_enter Tryz.func122, Tryz.ntmps122
    go_wp2_with fail
    refine HTK.out.mono ?_
    rintro e w1 ⟨rfl, hP1, hB1⟩
    have HP1 := Lib.hid hP1
    have HB1 := Lib.hid hB1
    clear hP1 hB1
    go_wp2_with fail
    go_ret
    exact ⟨rfl, HP1.out, HB1.out⟩
set_option maxRecDepth 100000 in
/-- A function handed on reads what comes next. -/
theorem pafter_boxes (w : World) (r : Nat) (L : List Tk) (d : Dc) (bv : Value) (s : Bs) (Q : World → Ending → World → Prop) (h : PRd w r L d bv)
    (hn : takesB s L = true → ∀ w', PRd w' r L.tail d bv → But r w w' → Calls Tryz.prog 124 #[ptr r] w' (Q w')) (hq : ∀ w' e w'', Q w' e w'' → ∃ b, e = .returned (.bool b)) :
    Calls Tryz.prog 122 #[ptr r, .string (bs s), .func (.func 124) #[ptr r] #[]] w fun e w'' => if takesB s L = true then (∃ w', PRd w' r L.tail d bv ∧ But r w w' ∧ Q w' e w'') else (e = .returned (.bool false) ∧ PRd w'' r L d bv ∧ But r w w'') := by
  have hTK := takes_any w r L d bv s h
  clear h
  cases hT : takesB s L with
  | true =>
    rw [takesL_t hT, hT] at hTK
    have HTK := Lib.hid hTK
    have HN := Lib.hid (hn hT)
    have HQ := Lib.hid hq
    clear hTK hn hT hq
    go_enter Tryz.func122, Tryz.ntmps122
    go_wp2_with fail
    refine HTK.out.mono ?_
    rintro e w1 ⟨rfl, hP1, hB1⟩
    have HP1 := Lib.hid hP1
    have HB1 := Lib.hid hB1
    clear hP1 hB1
    go_wp2_with fail
    refine (HN.out w1 HP1.out HB1.out).mono ?_
    intro e w2 hq2
    have HQ2 := Lib.hid hq2
    obtain ⟨b, rfl⟩ := HQ.out _ _ _ hq2
    clear hq2
    go_wp2_with fail
    go_ret
    exact ⟨w1, HP1.out, HB1.out, HQ2.out⟩
  | false =>
    rw [takesL_f hT, hT] at hTK
    have HTK := Lib.hid hTK
    clear hTK hn hT
    go_enter Tryz.func122, Tryz.ntmps122
    go_wp2_with fail
    refine HTK.out.mono ?_
    rintro e w1 ⟨rfl, hP1, hB1⟩
    have HP1 := Lib.hid hP1
    have HB1 := Lib.hid hB1
    clear hP1 hB1
    go_wp2_with fail
    go_ret
    exact ⟨rfl, HP1.out, HB1.out⟩
set_option maxRecDepth 100000 in
/-- A function handed on reads what comes next. -/
theorem pafter_role (w : World) (r : Nat) (L : List Tk) (d : Dc) (bv : Value) (s : Bs) (Q : World → Ending → World → Prop) (h : PRd w r L d bv)
    (hn : takesB s L = true → ∀ w', PRd w' r L.tail d bv → But r w w' → Calls Tryz.prog 125 #[ptr r] w' (Q w')) (hq : ∀ w' e w'', Q w' e w'' → ∃ b, e = .returned (.bool b)) :
    Calls Tryz.prog 122 #[ptr r, .string (bs s), .func (.func 125) #[ptr r] #[]] w fun e w'' => if takesB s L = true then (∃ w', PRd w' r L.tail d bv ∧ But r w w' ∧ Q w' e w'') else (e = .returned (.bool false) ∧ PRd w'' r L d bv ∧ But r w w'') := by
  have hTK := takes_any w r L d bv s h
  clear h
  cases hT : takesB s L with
  | true =>
    rw [takesL_t hT, hT] at hTK
    have HTK := Lib.hid hTK
    have HN := Lib.hid (hn hT)
    have HQ := Lib.hid hq
    clear hTK hn hT hq
    go_enter Tryz.func122, Tryz.ntmps122
    go_wp2_with fail
    refine HTK.out.mono ?_
    rintro e w1 ⟨rfl, hP1, hB1⟩
    have HP1 := Lib.hid hP1
    have HB1 := Lib.hid hB1
    clear hP1 hB1
    go_wp2_with fail
    refine (HN.out w1 HP1.out HB1.out).mono ?_
    intro e w2 hq2
    have HQ2 := Lib.hid hq2
    obtain ⟨b, rfl⟩ := HQ.out _ _ _ hq2
    clear hq2
    go_wp2_with fail
    go_ret
    exact ⟨w1, HP1.out, HB1.out, HQ2.out⟩
  | false =>
    rw [takesL_f hT, hT] at hTK
    have HTK := Lib.hid hTK
    clear hTK hn hT
    go_enter Tryz.func122, Tryz.ntmps122
    go_wp2_with fail
    refine HTK.out.mono ?_
    rintro e w1 ⟨rfl, hP1, hB1⟩
    have HP1 := Lib.hid hP1
    have HB1 := Lib.hid hB1
    clear hP1 hB1
    go_wp2_with fail
    go_ret
    exact ⟨rfl, HP1.out, HB1.out⟩
set_option maxRecDepth 100000 in
/-- A function handed on reads what comes next. -/
theorem pafter_tiers (w : World) (r : Nat) (L : List Tk) (d : Dc) (bv : Value) (s : Bs) (Q : World → Ending → World → Prop) (h : PRd w r L d bv)
    (hn : takesB s L = true → ∀ w', PRd w' r L.tail d bv → But r w w' → Calls Tryz.prog 126 #[ptr r] w' (Q w')) (hq : ∀ w' e w'', Q w' e w'' → ∃ b, e = .returned (.bool b)) :
    Calls Tryz.prog 122 #[ptr r, .string (bs s), .func (.func 126) #[ptr r] #[]] w fun e w'' => if takesB s L = true then (∃ w', PRd w' r L.tail d bv ∧ But r w w' ∧ Q w' e w'') else (e = .returned (.bool false) ∧ PRd w'' r L d bv ∧ But r w w'') := by
  have hTK := takes_any w r L d bv s h
  clear h
  cases hT : takesB s L with
  | true =>
    rw [takesL_t hT, hT] at hTK
    have HTK := Lib.hid hTK
    have HN := Lib.hid (hn hT)
    have HQ := Lib.hid hq
    clear hTK hn hT hq
    go_enter Tryz.func122, Tryz.ntmps122
    go_wp2_with fail
    refine HTK.out.mono ?_
    rintro e w1 ⟨rfl, hP1, hB1⟩
    have HP1 := Lib.hid hP1
    have HB1 := Lib.hid hB1
    clear hP1 hB1
    go_wp2_with fail
    refine (HN.out w1 HP1.out HB1.out).mono ?_
    intro e w2 hq2
    have HQ2 := Lib.hid hq2
    obtain ⟨b, rfl⟩ := HQ.out _ _ _ hq2
    clear hq2
    go_wp2_with fail
    go_ret
    exact ⟨w1, HP1.out, HB1.out, HQ2.out⟩
  | false =>
    rw [takesL_f hT, hT] at hTK
    have HTK := Lib.hid hTK
    clear hTK hn hT
    go_enter Tryz.func122, Tryz.ntmps122
    go_wp2_with fail
    refine HTK.out.mono ?_
    rintro e w1 ⟨rfl, hP1, hB1⟩
    have HP1 := Lib.hid hP1
    have HB1 := Lib.hid hB1
    clear hP1 hB1
    go_wp2_with fail
    go_ret
    exact ⟨rfl, HP1.out, HB1.out⟩
set_option maxRecDepth 100000 in
/-- A function handed on reads what comes next. -/
theorem pafter_label (w : World) (r : Nat) (L : List Tk) (d : Dc) (bv : Value) (s : Bs) (Q : World → Ending → World → Prop) (h : PRd w r L d bv)
    (hn : takesB s L = true → ∀ w', PRd w' r L.tail d bv → But r w w' → Calls Tryz.prog 127 #[ptr r] w' (Q w')) (hq : ∀ w' e w'', Q w' e w'' → ∃ b, e = .returned (.bool b)) :
    Calls Tryz.prog 122 #[ptr r, .string (bs s), .func (.func 127) #[ptr r] #[]] w fun e w'' => if takesB s L = true then (∃ w', PRd w' r L.tail d bv ∧ But r w w' ∧ Q w' e w'') else (e = .returned (.bool false) ∧ PRd w'' r L d bv ∧ But r w w'') := by
  have hTK := takes_any w r L d bv s h
  clear h
  cases hT : takesB s L with
  | true =>
    rw [takesL_t hT, hT] at hTK
    have HTK := Lib.hid hTK
    have HN := Lib.hid (hn hT)
    have HQ := Lib.hid hq
    clear hTK hn hT hq
    go_enter Tryz.func122, Tryz.ntmps122
    go_wp2_with fail
    refine HTK.out.mono ?_
    rintro e w1 ⟨rfl, hP1, hB1⟩
    have HP1 := Lib.hid hP1
    have HB1 := Lib.hid hB1
    clear hP1 hB1
    go_wp2_with fail
    refine (HN.out w1 HP1.out HB1.out).mono ?_
    intro e w2 hq2
    have HQ2 := Lib.hid hq2
    obtain ⟨b, rfl⟩ := HQ.out _ _ _ hq2
    clear hq2
    go_wp2_with fail
    go_ret
    exact ⟨w1, HP1.out, HB1.out, HQ2.out⟩
  | false =>
    rw [takesL_f hT, hT] at hTK
    have HTK := Lib.hid hTK
    clear hTK hn hT
    go_enter Tryz.func122, Tryz.ntmps122
    go_wp2_with fail
    refine HTK.out.mono ?_
    rintro e w1 ⟨rfl, hP1, hB1⟩
    have HP1 := Lib.hid hP1
    have HB1 := Lib.hid hB1
    clear hP1 hB1
    go_wp2_with fail
    go_ret
    exact ⟨rfl, HP1.out, HB1.out⟩
set_option maxRecDepth 100000 in
/-- A function handed on reads what comes next. -/
theorem pafter_where (w : World) (r : Nat) (L : List Tk) (d : Dc) (bv : Value) (s : Bs) (Q : World → Ending → World → Prop) (h : PRd w r L d bv)
    (hn : takesB s L = true → ∀ w', PRd w' r L.tail d bv → But r w w' → Calls Tryz.prog 128 #[ptr r] w' (Q w')) (hq : ∀ w' e w'', Q w' e w'' → ∃ b, e = .returned (.bool b)) :
    Calls Tryz.prog 122 #[ptr r, .string (bs s), .func (.func 128) #[ptr r] #[]] w fun e w'' => if takesB s L = true then (∃ w', PRd w' r L.tail d bv ∧ But r w w' ∧ Q w' e w'') else (e = .returned (.bool false) ∧ PRd w'' r L d bv ∧ But r w w'') := by
  have hTK := takes_any w r L d bv s h
  clear h
  cases hT : takesB s L with
  | true =>
    rw [takesL_t hT, hT] at hTK
    have HTK := Lib.hid hTK
    have HN := Lib.hid (hn hT)
    have HQ := Lib.hid hq
    clear hTK hn hT hq
    go_enter Tryz.func122, Tryz.ntmps122
    go_wp2_with fail
    refine HTK.out.mono ?_
    rintro e w1 ⟨rfl, hP1, hB1⟩
    have HP1 := Lib.hid hP1
    have HB1 := Lib.hid hB1
    clear hP1 hB1
    go_wp2_with fail
    refine (HN.out w1 HP1.out HB1.out).mono ?_
    intro e w2 hq2
    have HQ2 := Lib.hid hq2
    obtain ⟨b, rfl⟩ := HQ.out _ _ _ hq2
    clear hq2
    go_wp2_with fail
    go_ret
    exact ⟨w1, HP1.out, HB1.out, HQ2.out⟩
  | false =>
    rw [takesL_f hT, hT] at hTK
    have HTK := Lib.hid hTK
    clear hTK hn hT
    go_enter Tryz.func122, Tryz.ntmps122
    go_wp2_with fail
    refine HTK.out.mono ?_
    rintro e w1 ⟨rfl, hP1, hB1⟩
    have HP1 := Lib.hid hP1
    have HB1 := Lib.hid hB1
    clear hP1 hB1
    go_wp2_with fail
    go_ret
    exact ⟨rfl, HP1.out, HB1.out⟩
set_option maxRecDepth 100000 in
/-- A function handed on reads what comes next. -/
theorem pafter_zoom (w : World) (r : Nat) (L : List Tk) (d : Dc) (bv : Value) (s : Bs) (Q : World → Ending → World → Prop) (h : PRd w r L d bv)
    (hn : takesB s L = true → ∀ w', PRd w' r L.tail d bv → But r w w' → Calls Tryz.prog 129 #[ptr r] w' (Q w')) (hq : ∀ w' e w'', Q w' e w'' → ∃ b, e = .returned (.bool b)) :
    Calls Tryz.prog 122 #[ptr r, .string (bs s), .func (.func 129) #[ptr r] #[]] w fun e w'' => if takesB s L = true then (∃ w', PRd w' r L.tail d bv ∧ But r w w' ∧ Q w' e w'') else (e = .returned (.bool false) ∧ PRd w'' r L d bv ∧ But r w w'') := by
  have hTK := takes_any w r L d bv s h
  clear h
  cases hT : takesB s L with
  | true =>
    rw [takesL_t hT, hT] at hTK
    have HTK := Lib.hid hTK
    have HN := Lib.hid (hn hT)
    have HQ := Lib.hid hq
    clear hTK hn hT hq
    go_enter Tryz.func122, Tryz.ntmps122
    go_wp2_with fail
    refine HTK.out.mono ?_
    rintro e w1 ⟨rfl, hP1, hB1⟩
    have HP1 := Lib.hid hP1
    have HB1 := Lib.hid hB1
    clear hP1 hB1
    go_wp2_with fail
    refine (HN.out w1 HP1.out HB1.out).mono ?_
    intro e w2 hq2
    have HQ2 := Lib.hid hq2
    obtain ⟨b, rfl⟩ := HQ.out _ _ _ hq2
    clear hq2
    go_wp2_with fail
    go_ret
    exact ⟨w1, HP1.out, HB1.out, HQ2.out⟩
  | false =>
    rw [takesL_f hT, hT] at hTK
    have HTK := Lib.hid hTK
    clear hTK hn hT
    go_enter Tryz.func122, Tryz.ntmps122
    go_wp2_with fail
    refine HTK.out.mono ?_
    rintro e w1 ⟨rfl, hP1, hB1⟩
    have HP1 := Lib.hid hP1
    have HB1 := Lib.hid hB1
    clear hP1 hB1
    go_wp2_with fail
    go_ret
    exact ⟨rfl, HP1.out, HB1.out⟩
end Go.Proofs.YtkpmeelbjldcoaaGreatDoor
