/- Texts: Po2. -/
import Derived.Test.YtkpmeelbjldcoaaGreatDoorZbPo1
namespace Go.Proofs.YtkpmeelbjldcoaaGreatDoor
set_option linter.unusedVariables false
set_option linter.unusedSimpArgs false
open Go.RowKit
abbrev ptrAt (r o : Nat) : Value := .pointer (some ⟨r, o, none⟩)
theorem PRd.store2 {W : World} {r : Nat} {L : List Tk} {d d' : Dc} {bv : Value} (h : PRd W r L d bv) (i j : Nat) (v u : Value) (e : ∀ lv, ((rcells lv d bv).set! i v).set! j u = rcells lv d' bv) : PRd ((W.setCell ⟨r, i, none⟩ v).setCell ⟨r, j, none⟩ u) r L d' bv := by
  obtain ⟨lv, h1, h2⟩ := h
  exact ⟨lv, rset (rset h1 i v rfl) j u (e lv), But.left (But.left h2 i v) j u⟩
theorem pvalue_any (w : World) (r : Nat) (L : List Tk) (d : Dc) (bv : Value) (h : PRd w r L d bv) :
    Calls Tryz.prog 123 #[ptr r] w (ActQ w r bv (valM (L, d))) := by
  have HN := Lib.hid (pnum_in w r L d bv 2 _ (fun n d => { d with n := n }) h rfl (fun lv n => rfl))
  clear h
  go_enter Tryz.func123, Tryz.ntmps123
  go_wp2_with fail
  refine HN.out.mono ?_
  rintro e w1 ⟨rfl, hP, hB⟩
  have HP := Lib.hid hP
  clear hP
  go_wp2_with fail
  go_ret
  exact ⟨rfl, HP.out, hB⟩
theorem pzoom_any (w : World) (r : Nat) (L : List Tk) (d : Dc) (bv : Value) (h : PRd w r L d bv) :
    Calls Tryz.prog 129 #[ptr r] w (ActQ w r bv (zoomM (L, d))) := by
  have HN := Lib.hid (pnum_in w r L d bv 21 _ (fun n d => { d with zoom := n }) h rfl (fun lv n => rfl))
  clear h
  go_enter Tryz.func129, Tryz.ntmps129
  go_wp2_with fail
  refine HN.out.mono ?_
  rintro e w1 ⟨rfl, hP, hB⟩
  have HP := Lib.hid hP
  clear hP
  go_wp2_with fail
  go_ret
  exact ⟨rfl, HP.out, hB⟩
theorem takesL_t {s : Bs} {L : List Tk} (h : takesB s L = true) : takesL s L = L.tail := by simp [takesL, h]
theorem takesL_f {s : Bs} {L : List Tk} (h : takesB s L = false) : takesL s L = L := by simp [takesL, h]
theorem kindL_t {k : Int} {L : List Tk} (h : kindB k L = true) : kindL k L = L.tail := by simp [kindL, h]
theorem kindL_f {k : Int} {L : List Tk} (h : kindB k L = false) : kindL k L = L := by simp [kindL, h]
theorem kindT_f {k : Int} {L : List Tk} (h : kindB k L = false) : kindT k L = Tk.z := by
  cases L with
  | nil => rfl
  | cons x L => simp [kindB] at h; simp [kindT, h]
set_option maxRecDepth 100000 in
set_option maxHeartbeats 2000000 in
theorem pwho_role_any (w : World) (r : Nat) (L : List Tk) (d : Dc) (bv : Value) (h : PRd w r L d bv) :
    Calls Tryz.prog 149 #[ptr r, ptrAt r 5] w (ActQ w r bv (roleM (L, d))) := by
  have HPL := Lib.hid (pplace_any w r L d bv (0, 0) h)
  have HR := Lib.hid h
  clear h
  cases hT : takesB wAny L with
  | true =>
    have HM := Lib.hid (show roleM (L, d) = (true, (L.tail, { d with role := { d.role with p := pPlace L (0, 0), any := true } })) by simp [roleM, whoW, hT])
    have HTK := Lib.hid (show ∀ w', PRd w' r L { d with role := { d.role with p := pPlace L (0, 0) } } bv → Calls Tryz.prog 87 #[ptr r, .string (bs wAny)] w' fun e w'' => e = .returned (.bool true) ∧ PRd w'' r L.tail { d with role := { d.role with p := pPlace L (0, 0) } } bv ∧ But r w' w'' from fun w' hw => by have := takes_any w' r L { d with role := { d.role with p := pPlace L (0, 0) } } bv wAny hw; rw [takesL_t hT, hT] at this; exact this)
    clear hT
    go_enter Tryz.func149, Tryz.ntmps149
    go_wp2_with fail
    refine HPL.out.mono ?_
    rintro e w1 ⟨rfl, hb1⟩
    have HP1 := Lib.hid (HR.out.far hb1)
    have HB1 := Lib.hid (But.of_below (r := r) hb1)
    obtain ⟨lv1, hK, hL⟩ := HP1.out
    have k3 := Blk.cell hK 8
    have k4 := Blk.cell hK 9
    have f3 := hK.frozen 8
    have f4 := hK.frozen 9
    simp only [rcells] at k3 k4
    clear hK hL hb1
    go_wp2_with fail
    refine (HTK.out _ (HP1.out.store2 8 9 (.int .i64 (pPlace L (0, 0)).1) (.int .i64 (pPlace L (0, 0)).2) fun lv => rfl)).mono ?_
    rintro e w3 ⟨rfl, hP3, hB3⟩
    have HP3 := Lib.hid hP3
    have HB3 := Lib.hid (((HB1.out.trans (But.set _ _ _)).trans (But.set _ _ _)).trans hB3)
    obtain ⟨lv3, hK, hL⟩ := HP3.out
    have k0 := Blk.cell hK 5
    have f0 := hK.frozen 5
    simp only [rcells] at k0
    clear hK hL hP3 hB3 k3 k4 f3 f4
    go_wp2_with fail
    go_ret
    rw [HM.out]
    exact ⟨rfl, HP3.out.store 5 _ fun lv => rfl, HB3.out.trans (But.set _ _ _)⟩
  | false =>
    cases hK1 : kindB 1 L with
    | true =>
      have HTK := Lib.hid (show ∀ w', PRd w' r L { d with role := { d.role with p := pPlace L (0, 0) } } bv → Calls Tryz.prog 87 #[ptr r, .string (bs wAny)] w' fun e w'' => e = .returned (.bool false) ∧ PRd w'' r L { d with role := { d.role with p := pPlace L (0, 0) } } bv ∧ But r w' w'' from fun w' hw => by have := takes_any w' r L { d with role := { d.role with p := pPlace L (0, 0) } } bv wAny hw; rw [takesL_f hT, hT] at this; exact this)
      have HNM := Lib.hid (show ∀ w', PRd w' r L { d with role := { d.role with p := pPlace L (0, 0), any := false } } bv → Calls Tryz.prog 121 #[ptr r, ptrAt r 6] w' fun e w'' => e = .returned (.bool true) ∧ PRd w'' r L.tail { d with role := { d.role with p := pPlace L (0, 0), any := false, nm := (kindT 1 L).t } } bv ∧ But r w' w'' from fun w' hw => by have := pname_in w' r L { d with role := { d.role with p := pPlace L (0, 0), any := false } } bv 5 _ (fun s d => { d with role := { d.role with nm := s } }) hw rfl (fun lv s => rfl); unfold ActQ nameM at this; simp only [kindL_t hK1, hK1] at this; exact this)
      have HM := Lib.hid (show roleM (L, d) = (true, (L.tail, { d with role := { d.role with p := pPlace L (0, 0), any := false, nm := (kindT 1 L).t } })) by simp [roleM, whoW, hT, hK1])
      clear hT hK1
      go_enter Tryz.func149, Tryz.ntmps149
      go_wp2_with fail
      refine HPL.out.mono ?_
      rintro e w1 ⟨rfl, hb1⟩
      have HP1 := Lib.hid (HR.out.far hb1)
      have HB1 := Lib.hid (But.of_below (r := r) hb1)
      obtain ⟨lv1, hK, hL⟩ := HP1.out
      have k3 := Blk.cell hK 8
      have k4 := Blk.cell hK 9
      have f3 := hK.frozen 8
      have f4 := hK.frozen 9
      simp only [rcells] at k3 k4
      clear hK hL hb1
      go_wp2_with fail
      refine (HTK.out _ (HP1.out.store2 8 9 (.int .i64 (pPlace L (0, 0)).1) (.int .i64 (pPlace L (0, 0)).2) fun lv => rfl)).mono ?_
      rintro e w3 ⟨rfl, hP3, hB3⟩
      have HP3 := Lib.hid hP3
      have HB3 := Lib.hid (((HB1.out.trans (But.set _ _ _)).trans (But.set _ _ _)).trans hB3)
      obtain ⟨lv3, hK, hL⟩ := HP3.out
      have k0 := Blk.cell hK 5
      have f0 := hK.frozen 5
      simp only [rcells] at k0
      clear hK hL hP3 hB3 k3 k4 f3 f4
      go_wp2_with fail
      refine (HNM.out _ (HP3.out.store 5 _ fun lv => rfl)).mono ?_
      rintro e w5 ⟨rfl, hP5, hB5⟩
      have HP5 := Lib.hid hP5
      have HB5 := Lib.hid ((HB3.out.trans (But.set _ _ _)).trans hB5)
      clear hP5 hB5 k0 f0
      go_wp2_with fail
      go_ret
      rw [HM.out]
      exact ⟨rfl, HP5.out, HB5.out⟩
    | false =>
      have HTK := Lib.hid (show ∀ w', PRd w' r L { d with role := { d.role with p := pPlace L (0, 0) } } bv → Calls Tryz.prog 87 #[ptr r, .string (bs wAny)] w' fun e w'' => e = .returned (.bool false) ∧ PRd w'' r L { d with role := { d.role with p := pPlace L (0, 0) } } bv ∧ But r w' w'' from fun w' hw => by have := takes_any w' r L { d with role := { d.role with p := pPlace L (0, 0) } } bv wAny hw; rw [takesL_f hT, hT] at this; exact this)
      have HNM := Lib.hid (show ∀ w', PRd w' r L { d with role := { d.role with p := pPlace L (0, 0), any := false } } bv → Calls Tryz.prog 121 #[ptr r, ptrAt r 6] w' fun e w'' => e = .returned (.bool false) ∧ PRd w'' r L { d with role := { d.role with p := pPlace L (0, 0), any := false, nm := [] } } bv ∧ But r w' w'' from fun w' hw => by have := pname_in w' r L { d with role := { d.role with p := pPlace L (0, 0), any := false } } bv 5 _ (fun s d => { d with role := { d.role with nm := s } }) hw rfl (fun lv s => rfl); unfold ActQ nameM at this; simp only [kindL_f hK1, hK1, kindT_f hK1] at this; exact this)
      have HNU := Lib.hid (show ∀ w', PRd w' r L { d with role := { d.role with p := pPlace L (0, 0), any := false, nm := [] } } bv → Calls Tryz.prog 148 #[ptr r, ptrAt r 7] w' fun e w'' => e = .returned (.bool (kindB 3 L)) ∧ PRd w'' r (kindL 3 L) { d with role := { d.role with p := pPlace L (0, 0), any := false, nm := [], n := (kindT 3 L).n } } bv ∧ But r w' w'' from fun w' hw => pnum_in w' r L { d with role := { d.role with p := pPlace L (0, 0), any := false, nm := [] } } bv 6 _ (fun n d => { d with role := { d.role with n := n } }) hw rfl (fun lv s => rfl))
      have HM := Lib.hid (show roleM (L, d) = (kindB 3 L, (kindL 3 L, { d with role := { d.role with p := pPlace L (0, 0), any := false, nm := [], n := (kindT 3 L).n } })) by simp [roleM, whoW, hT, hK1])
      clear hT hK1
      go_enter Tryz.func149, Tryz.ntmps149
      go_wp2_with fail
      refine HPL.out.mono ?_
      rintro e w1 ⟨rfl, hb1⟩
      have HP1 := Lib.hid (HR.out.far hb1)
      have HB1 := Lib.hid (But.of_below (r := r) hb1)
      obtain ⟨lv1, hK, hL⟩ := HP1.out
      have k3 := Blk.cell hK 8
      have k4 := Blk.cell hK 9
      have f3 := hK.frozen 8
      have f4 := hK.frozen 9
      simp only [rcells] at k3 k4
      clear hK hL hb1
      go_wp2_with fail
      refine (HTK.out _ (HP1.out.store2 8 9 (.int .i64 (pPlace L (0, 0)).1) (.int .i64 (pPlace L (0, 0)).2) fun lv => rfl)).mono ?_
      rintro e w3 ⟨rfl, hP3, hB3⟩
      have HP3 := Lib.hid hP3
      have HB3 := Lib.hid (((HB1.out.trans (But.set _ _ _)).trans (But.set _ _ _)).trans hB3)
      obtain ⟨lv3, hK, hL⟩ := HP3.out
      have k0 := Blk.cell hK 5
      have f0 := hK.frozen 5
      simp only [rcells] at k0
      clear hK hL hP3 hB3 k3 k4 f3 f4
      go_wp2_with fail
      refine (HNM.out _ (HP3.out.store 5 _ fun lv => rfl)).mono ?_
      rintro e w5 ⟨rfl, hP5, hB5⟩
      have HP5 := Lib.hid hP5
      have HB5 := Lib.hid ((HB3.out.trans (But.set _ _ _)).trans hB5)
      clear hP5 hB5 k0 f0
      go_wp2_with fail
      refine (HNU.out _ HP5.out).mono ?_
      rintro e w6 ⟨rfl, hP6, hB6⟩
      have HP6 := Lib.hid hP6
      have HB6 := Lib.hid (HB5.out.trans hB6)
      clear hP6 hB6
      go_wp2_with fail
      go_ret
      rw [HM.out]
      exact ⟨rfl, HP6.out, HB6.out⟩
set_option maxRecDepth 100000 in
set_option maxHeartbeats 2000000 in
theorem pwho_label_any (w : World) (r : Nat) (L : List Tk) (d : Dc) (bv : Value) (h : PRd w r L d bv) :
    Calls Tryz.prog 149 #[ptr r, ptrAt r 12] w (ActQ w r bv (labelM (L, d))) := by
  have HPL := Lib.hid (pplace_any w r L d bv (0, 0) h)
  have HR := Lib.hid h
  clear h
  cases hT : takesB wAny L with
  | true =>
    have HM := Lib.hid (show labelM (L, d) = (true, (L.tail, { d with label := { d.label with p := pPlace L (0, 0), any := true } })) by simp [labelM, whoW, hT])
    have HTK := Lib.hid (show ∀ w', PRd w' r L { d with label := { d.label with p := pPlace L (0, 0) } } bv → Calls Tryz.prog 87 #[ptr r, .string (bs wAny)] w' fun e w'' => e = .returned (.bool true) ∧ PRd w'' r L.tail { d with label := { d.label with p := pPlace L (0, 0) } } bv ∧ But r w' w'' from fun w' hw => by have := takes_any w' r L { d with label := { d.label with p := pPlace L (0, 0) } } bv wAny hw; rw [takesL_t hT, hT] at this; exact this)
    clear hT
    go_enter Tryz.func149, Tryz.ntmps149
    go_wp2_with fail
    refine HPL.out.mono ?_
    rintro e w1 ⟨rfl, hb1⟩
    have HP1 := Lib.hid (HR.out.far hb1)
    have HB1 := Lib.hid (But.of_below (r := r) hb1)
    obtain ⟨lv1, hK, hL⟩ := HP1.out
    have k3 := Blk.cell hK 15
    have k4 := Blk.cell hK 16
    have f3 := hK.frozen 15
    have f4 := hK.frozen 16
    simp only [rcells] at k3 k4
    clear hK hL hb1
    go_wp2_with fail
    refine (HTK.out _ (HP1.out.store2 15 16 (.int .i64 (pPlace L (0, 0)).1) (.int .i64 (pPlace L (0, 0)).2) fun lv => rfl)).mono ?_
    rintro e w3 ⟨rfl, hP3, hB3⟩
    have HP3 := Lib.hid hP3
    have HB3 := Lib.hid (((HB1.out.trans (But.set _ _ _)).trans (But.set _ _ _)).trans hB3)
    obtain ⟨lv3, hK, hL⟩ := HP3.out
    have k0 := Blk.cell hK 12
    have f0 := hK.frozen 12
    simp only [rcells] at k0
    clear hK hL hP3 hB3 k3 k4 f3 f4
    go_wp2_with fail
    go_ret
    rw [HM.out]
    exact ⟨rfl, HP3.out.store 12 _ fun lv => rfl, HB3.out.trans (But.set _ _ _)⟩
  | false =>
    cases hK1 : kindB 1 L with
    | true =>
      have HTK := Lib.hid (show ∀ w', PRd w' r L { d with label := { d.label with p := pPlace L (0, 0) } } bv → Calls Tryz.prog 87 #[ptr r, .string (bs wAny)] w' fun e w'' => e = .returned (.bool false) ∧ PRd w'' r L { d with label := { d.label with p := pPlace L (0, 0) } } bv ∧ But r w' w'' from fun w' hw => by have := takes_any w' r L { d with label := { d.label with p := pPlace L (0, 0) } } bv wAny hw; rw [takesL_f hT, hT] at this; exact this)
      have HNM := Lib.hid (show ∀ w', PRd w' r L { d with label := { d.label with p := pPlace L (0, 0), any := false } } bv → Calls Tryz.prog 121 #[ptr r, ptrAt r 13] w' fun e w'' => e = .returned (.bool true) ∧ PRd w'' r L.tail { d with label := { d.label with p := pPlace L (0, 0), any := false, nm := (kindT 1 L).t } } bv ∧ But r w' w'' from fun w' hw => by have := pname_in w' r L { d with label := { d.label with p := pPlace L (0, 0), any := false } } bv 12 _ (fun s d => { d with label := { d.label with nm := s } }) hw rfl (fun lv s => rfl); unfold ActQ nameM at this; simp only [kindL_t hK1, hK1] at this; exact this)
      have HM := Lib.hid (show labelM (L, d) = (true, (L.tail, { d with label := { d.label with p := pPlace L (0, 0), any := false, nm := (kindT 1 L).t } })) by simp [labelM, whoW, hT, hK1])
      clear hT hK1
      go_enter Tryz.func149, Tryz.ntmps149
      go_wp2_with fail
      refine HPL.out.mono ?_
      rintro e w1 ⟨rfl, hb1⟩
      have HP1 := Lib.hid (HR.out.far hb1)
      have HB1 := Lib.hid (But.of_below (r := r) hb1)
      obtain ⟨lv1, hK, hL⟩ := HP1.out
      have k3 := Blk.cell hK 15
      have k4 := Blk.cell hK 16
      have f3 := hK.frozen 15
      have f4 := hK.frozen 16
      simp only [rcells] at k3 k4
      clear hK hL hb1
      go_wp2_with fail
      refine (HTK.out _ (HP1.out.store2 15 16 (.int .i64 (pPlace L (0, 0)).1) (.int .i64 (pPlace L (0, 0)).2) fun lv => rfl)).mono ?_
      rintro e w3 ⟨rfl, hP3, hB3⟩
      have HP3 := Lib.hid hP3
      have HB3 := Lib.hid (((HB1.out.trans (But.set _ _ _)).trans (But.set _ _ _)).trans hB3)
      obtain ⟨lv3, hK, hL⟩ := HP3.out
      have k0 := Blk.cell hK 12
      have f0 := hK.frozen 12
      simp only [rcells] at k0
      clear hK hL hP3 hB3 k3 k4 f3 f4
      go_wp2_with fail
      refine (HNM.out _ (HP3.out.store 12 _ fun lv => rfl)).mono ?_
      rintro e w5 ⟨rfl, hP5, hB5⟩
      have HP5 := Lib.hid hP5
      have HB5 := Lib.hid ((HB3.out.trans (But.set _ _ _)).trans hB5)
      clear hP5 hB5 k0 f0
      go_wp2_with fail
      go_ret
      rw [HM.out]
      exact ⟨rfl, HP5.out, HB5.out⟩
    | false =>
      have HTK := Lib.hid (show ∀ w', PRd w' r L { d with label := { d.label with p := pPlace L (0, 0) } } bv → Calls Tryz.prog 87 #[ptr r, .string (bs wAny)] w' fun e w'' => e = .returned (.bool false) ∧ PRd w'' r L { d with label := { d.label with p := pPlace L (0, 0) } } bv ∧ But r w' w'' from fun w' hw => by have := takes_any w' r L { d with label := { d.label with p := pPlace L (0, 0) } } bv wAny hw; rw [takesL_f hT, hT] at this; exact this)
      have HNM := Lib.hid (show ∀ w', PRd w' r L { d with label := { d.label with p := pPlace L (0, 0), any := false } } bv → Calls Tryz.prog 121 #[ptr r, ptrAt r 13] w' fun e w'' => e = .returned (.bool false) ∧ PRd w'' r L { d with label := { d.label with p := pPlace L (0, 0), any := false, nm := [] } } bv ∧ But r w' w'' from fun w' hw => by have := pname_in w' r L { d with label := { d.label with p := pPlace L (0, 0), any := false } } bv 12 _ (fun s d => { d with label := { d.label with nm := s } }) hw rfl (fun lv s => rfl); unfold ActQ nameM at this; simp only [kindL_f hK1, hK1, kindT_f hK1] at this; exact this)
      have HNU := Lib.hid (show ∀ w', PRd w' r L { d with label := { d.label with p := pPlace L (0, 0), any := false, nm := [] } } bv → Calls Tryz.prog 148 #[ptr r, ptrAt r 14] w' fun e w'' => e = .returned (.bool (kindB 3 L)) ∧ PRd w'' r (kindL 3 L) { d with label := { d.label with p := pPlace L (0, 0), any := false, nm := [], n := (kindT 3 L).n } } bv ∧ But r w' w'' from fun w' hw => pnum_in w' r L { d with label := { d.label with p := pPlace L (0, 0), any := false, nm := [] } } bv 13 _ (fun n d => { d with label := { d.label with n := n } }) hw rfl (fun lv s => rfl))
      have HM := Lib.hid (show labelM (L, d) = (kindB 3 L, (kindL 3 L, { d with label := { d.label with p := pPlace L (0, 0), any := false, nm := [], n := (kindT 3 L).n } })) by simp [labelM, whoW, hT, hK1])
      clear hT hK1
      go_enter Tryz.func149, Tryz.ntmps149
      go_wp2_with fail
      refine HPL.out.mono ?_
      rintro e w1 ⟨rfl, hb1⟩
      have HP1 := Lib.hid (HR.out.far hb1)
      have HB1 := Lib.hid (But.of_below (r := r) hb1)
      obtain ⟨lv1, hK, hL⟩ := HP1.out
      have k3 := Blk.cell hK 15
      have k4 := Blk.cell hK 16
      have f3 := hK.frozen 15
      have f4 := hK.frozen 16
      simp only [rcells] at k3 k4
      clear hK hL hb1
      go_wp2_with fail
      refine (HTK.out _ (HP1.out.store2 15 16 (.int .i64 (pPlace L (0, 0)).1) (.int .i64 (pPlace L (0, 0)).2) fun lv => rfl)).mono ?_
      rintro e w3 ⟨rfl, hP3, hB3⟩
      have HP3 := Lib.hid hP3
      have HB3 := Lib.hid (((HB1.out.trans (But.set _ _ _)).trans (But.set _ _ _)).trans hB3)
      obtain ⟨lv3, hK, hL⟩ := HP3.out
      have k0 := Blk.cell hK 12
      have f0 := hK.frozen 12
      simp only [rcells] at k0
      clear hK hL hP3 hB3 k3 k4 f3 f4
      go_wp2_with fail
      refine (HNM.out _ (HP3.out.store 12 _ fun lv => rfl)).mono ?_
      rintro e w5 ⟨rfl, hP5, hB5⟩
      have HP5 := Lib.hid hP5
      have HB5 := Lib.hid ((HB3.out.trans (But.set _ _ _)).trans hB5)
      clear hP5 hB5 k0 f0
      go_wp2_with fail
      refine (HNU.out _ HP5.out).mono ?_
      rintro e w6 ⟨rfl, hP6, hB6⟩
      have HP6 := Lib.hid hP6
      have HB6 := Lib.hid (HB5.out.trans hB6)
      clear hP6 hB6
      go_wp2_with fail
      go_ret
      rw [HM.out]
      exact ⟨rfl, HP6.out, HB6.out⟩
set_option maxRecDepth 100000 in
set_option maxHeartbeats 2000000 in
theorem pwhere_any (w : World) (r : Nat) (L : List Tk) (d : Dc) (bv : Value) (h : PRd w r L d bv) :
    Calls Tryz.prog 128 #[ptr r] w (ActQ w r bv (whereM (L, d))) := by
  have HPL := Lib.hid (pplace_any w r L d bv (0, 0) h)
  have HR := Lib.hid h
  clear h
  cases hT : takesB wAll L with
  | true =>
    have HM := Lib.hid (show whereM (L, d) = (true, (L.tail, { d with wh := { d.wh with p := pPlace L (0, 0), any := true } })) by simp [whereM, whereW, hT])
    have HTK := Lib.hid (show ∀ w', PRd w' r L { d with wh := { d.wh with p := pPlace L (0, 0) } } bv → Calls Tryz.prog 87 #[ptr r, .string (bs wAll)] w' fun e w'' => e = .returned (.bool true) ∧ PRd w'' r L.tail { d with wh := { d.wh with p := pPlace L (0, 0) } } bv ∧ But r w' w'' from fun w' hw => by have := takes_any w' r L { d with wh := { d.wh with p := pPlace L (0, 0) } } bv wAll hw; rw [takesL_t hT, hT] at this; exact this)
    clear hT
    go_enter Tryz.func128, Tryz.ntmps128
    go_wp2_with fail
    refine HPL.out.mono ?_
    rintro e w1 ⟨rfl, hb1⟩
    have HP1 := Lib.hid (HR.out.far hb1)
    have HB1 := Lib.hid (But.of_below (r := r) hb1)
    obtain ⟨lv1, hK, hL⟩ := HP1.out
    have k3 := Blk.cell hK 20
    have k4 := Blk.cell hK 21
    have f3 := hK.frozen 20
    have f4 := hK.frozen 21
    simp only [rcells] at k3 k4
    clear hK hL hb1
    go_wp2_with fail
    refine (HTK.out _ (HP1.out.store2 20 21 (.int .i64 (pPlace L (0, 0)).1) (.int .i64 (pPlace L (0, 0)).2) fun lv => rfl)).mono ?_
    rintro e w3 ⟨rfl, hP3, hB3⟩
    have HP3 := Lib.hid hP3
    have HB3 := Lib.hid (((HB1.out.trans (But.set _ _ _)).trans (But.set _ _ _)).trans hB3)
    obtain ⟨lv3, hK, hL⟩ := HP3.out
    have k0 := Blk.cell hK 17
    have f0 := hK.frozen 17
    simp only [rcells] at k0
    clear hK hL hP3 hB3 k3 k4 f3 f4
    go_wp2_with fail
    go_ret
    rw [HM.out]
    exact ⟨rfl, HP3.out.store 17 _ fun lv => rfl, HB3.out.trans (But.set _ _ _)⟩
  | false =>
    have HTK := Lib.hid (show ∀ w', PRd w' r L { d with wh := { d.wh with p := pPlace L (0, 0) } } bv → Calls Tryz.prog 87 #[ptr r, .string (bs wAll)] w' fun e w'' => e = .returned (.bool false) ∧ PRd w'' r L { d with wh := { d.wh with p := pPlace L (0, 0) } } bv ∧ But r w' w'' from fun w' hw => by have := takes_any w' r L { d with wh := { d.wh with p := pPlace L (0, 0) } } bv wAll hw; rw [takesL_f hT, hT] at this; exact this)
    have HNM := Lib.hid (show ∀ w', PRd w' r L { d with wh := { d.wh with p := pPlace L (0, 0), any := false } } bv → Calls Tryz.prog 121 #[ptr r, ptrAt r 18] w' fun e w'' => e = .returned (.bool (kindB 1 L)) ∧ PRd w'' r (kindL 1 L) { d with wh := { d.wh with p := pPlace L (0, 0), any := false, nm := (kindT 1 L).t } } bv ∧ But r w' w'' from fun w' hw => by have := pname_in w' r L { d with wh := { d.wh with p := pPlace L (0, 0), any := false } } bv 17 _ (fun s d => { d with wh := { d.wh with nm := s } }) hw rfl (fun lv s => rfl); unfold ActQ nameM at this; exact this)
    have HM := Lib.hid (show whereM (L, d) = (kindB 1 L, (kindL 1 L, { d with wh := { d.wh with p := pPlace L (0, 0), any := false, nm := (kindT 1 L).t } })) by simp [whereM, whereW, hT])
    clear hT
    go_enter Tryz.func128, Tryz.ntmps128
    go_wp2_with fail
    refine HPL.out.mono ?_
    rintro e w1 ⟨rfl, hb1⟩
    have HP1 := Lib.hid (HR.out.far hb1)
    have HB1 := Lib.hid (But.of_below (r := r) hb1)
    obtain ⟨lv1, hK, hL⟩ := HP1.out
    have k3 := Blk.cell hK 20
    have k4 := Blk.cell hK 21
    have f3 := hK.frozen 20
    have f4 := hK.frozen 21
    simp only [rcells] at k3 k4
    clear hK hL hb1
    go_wp2_with fail
    refine (HTK.out _ (HP1.out.store2 20 21 (.int .i64 (pPlace L (0, 0)).1) (.int .i64 (pPlace L (0, 0)).2) fun lv => rfl)).mono ?_
    rintro e w3 ⟨rfl, hP3, hB3⟩
    have HP3 := Lib.hid hP3
    have HB3 := Lib.hid (((HB1.out.trans (But.set _ _ _)).trans (But.set _ _ _)).trans hB3)
    obtain ⟨lv3, hK, hL⟩ := HP3.out
    have k0 := Blk.cell hK 17
    have f0 := hK.frozen 17
    simp only [rcells] at k0
    clear hK hL hP3 hB3 k3 k4 f3 f4
    go_wp2_with fail
    refine (HNM.out _ (HP3.out.store 17 _ fun lv => rfl)).mono ?_
    rintro e w5 ⟨rfl, hP5, hB5⟩
    have HP5 := Lib.hid hP5
    have HB5 := Lib.hid ((HB3.out.trans (But.set _ _ _)).trans hB5)
    clear hP5 hB5 k0 f0
    go_wp2_with fail
    go_ret
    rw [HM.out]
    exact ⟨rfl, HP5.out, HB5.out⟩
theorem prole_any (w : World) (r : Nat) (L : List Tk) (d : Dc) (bv : Value) (h : PRd w r L d bv) :
    Calls Tryz.prog 125 #[ptr r] w (ActQ w r bv (roleM (L, d))) := by
  have HN := Lib.hid (pwho_role_any w r L d bv h)
  clear h
  go_enter Tryz.func125, Tryz.ntmps125
  go_wp2_with fail
  refine HN.out.mono ?_
  rintro e w1 ⟨rfl, hP, hB⟩
  have HP := Lib.hid hP
  clear hP
  go_wp2_with fail
  go_ret
  exact ⟨rfl, HP.out, hB⟩
theorem plabel_any (w : World) (r : Nat) (L : List Tk) (d : Dc) (bv : Value) (h : PRd w r L d bv) :
    Calls Tryz.prog 127 #[ptr r] w (ActQ w r bv (labelM (L, d))) := by
  have HN := Lib.hid (pwho_label_any w r L d bv h)
  clear h
  go_enter Tryz.func127, Tryz.ntmps127
  go_wp2_with fail
  refine HN.out.mono ?_
  rintro e w1 ⟨rfl, hP, hB⟩
  have HP := Lib.hid hP
  clear hP
  go_wp2_with fail
  go_ret
  exact ⟨rfl, HP.out, hB⟩
end Go.Proofs.YtkpmeelbjldcoaaGreatDoor
