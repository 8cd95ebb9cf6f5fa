/- Texts: Po1. -/
import Derived.Test.YtkpmeelbjldcoaaGreatDoorZbPo0
import Derived.BigQuiet
namespace Go.Proofs.YtkpmeelbjldcoaaGreatDoor
set_option linter.unusedVariables false
set_option linter.unusedSimpArgs false
open Go.RowKit
abbrev tkV (x : Tk) : Value := .agg #[.int .i64 x.k, .string (bs x.t), .int .i64 x.n, .int .i64 x.p.1, .int .i64 x.p.2]
abbrev ptr (r : Nat) : Value := .pointer (some ⟨r, 0, none⟩)
theorem PRd.left0 {w : World} {r : Nat} {d : Dc} {bv : Value} (h : PRd w r [] d bv) : ∃ A c, c ≤ maxLen ∧ Blk w r 86 (rcells (.slice A 0 c) d bv) := by
  obtain ⟨lv, h1, A, c, rfl, _, h2, _⟩ := h
  exact ⟨A, c, h2, h1⟩
theorem bs_ne {a b : Bs} (h : a ≠ b) : ((bs a).toList == (bs b).toList) = false := by
  refine beq_eq_false_iff_ne.2 fun e => h (bs_inj (toList_inj e))
/-- One cell of the reader is stored. -/
theorem rset {w : World} {r : Nat} {cs : Array Value} (h : Blk w r 86 cs) (i : Nat) (v : Value) {ds : Array Value} (e : cs.set! i v = ds) : Blk (w.setCell ⟨r, i, none⟩ v) r 86 ds := by
  rw [← e]; exact h.set_ i v
theorem But.left {w : World} {r : Nat} {lv : Value} {L : List Tk} (h : Left w r lv L) (i : Nat) (v : Value) : Left (w.setCell ⟨r, i, none⟩ v) r lv L := h.but (But.set w i v)
set_option maxRecDepth 100000 in
set_option maxHeartbeats 1000000 in
theorem takes_any (w : World) (r : Nat) (L : List Tk) (d : Dc) (bv : Value) (s : Bs) (h : PRd w r L d bv) :
    Calls Tryz.prog 87 #[ptr r, .string (bs s)] w fun e w' => e = .returned (.bool (takesB s L)) ∧ PRd w' r (takesL s L) d bv ∧ But r w w' := by
  cases L with
  | nil =>
    have HH := Lib.hid h
    obtain ⟨A, c, hc, hB⟩ := h.left0
    have k0 : _ = some (Value.slice A 0 c) := Blk.cell hB 0
    clear h hB
    go_enter Tryz.func87, Tryz.ntmps87
    go_wp2_with fail
    go_ret
    exact ⟨rfl, HH.out, But.refl _ _⟩
  | cons x L =>
    have HH := Lib.hid h
    obtain ⟨lv, hB, hL⟩ := h
    obtain ⟨g, o, c, rfl, hc1, hc2, hg, hcell, hnext⟩ := hL.next
    have HB := Lib.hid hB
    have HN := Lib.hid hnext
    have k0 : _ = some (Value.slice (some ⟨g, o, none⟩) (L.length + 1) c) := Blk.cell hB 0
    have fr := hB.frozen 0
    have t1 : w.cell? ⟨g, o + 1, none⟩ = some (.string (bs x.t)) := by simpa [elT] using hcell 1 _ rfl
    clear hB hL hnext hcell
    have hz : (((L.length + 1 : Nat) : Int) == 0) = false := beq_eq_false_iff_ne.2 (by omega)
    have hmx : c ≤ 9223372036854775807 := by unfold maxLen at hc2; omega
    by_cases he : x.t = s
    · have ht : ((bs x.t).toList == (bs s).toList) = true := by rw [he]; simp
      have hb : takesB s (x :: L) = true := by simp [takesB, he]
      have hLs : takesL s (x :: L) = L := by simp [takesL, hb]
      rw [hb, hLs]
      clear hb hLs he
      go_enter Tryz.func87, Tryz.ntmps87
      go_wp2_with fail
      all_goals
        go_ret
        exact ⟨rfl, ⟨_, rset HB.out 0 _ rfl, But.left (HN.out _ (fun h1 => by first | rfl | (exfalso; omega)) (fun h1 => by first | rfl | (exfalso; omega))) _ _⟩, But.set _ _ _⟩
    · have hx : x.t ≠ s := he
      have ht : ((bs x.t).toList == (bs s).toList) = false := bs_ne hx
      have hb : takesB s (x :: L) = false := by simp [takesB, he]
      have hLs : takesL s (x :: L) = x :: L := by simp [takesL, hb]
      rw [hb, hLs]
      clear hb hLs he hx
      go_enter Tryz.func87, Tryz.ntmps87
      go_wp2_with fail
      go_ret
      exact ⟨rfl, HH.out, But.refl _ _⟩
theorem But.alloc {r : Nat} {w w' : World} (h : But r w w') (o : Obj) : But r w (w'.alloc o) := h.trans (But.of_below ((Below.refl _ _).alloc (Nat.le_refl _) _))
theorem PRd.alloc {w : World} {r : Nat} {L : List Tk} {d : Dc} {bv : Value} (h : PRd w r L d bv) (o : Obj) : PRd (w.alloc o) r L d bv := h.far ((Below.refl _ _).alloc (Nat.le_refl _) _)
set_option maxRecDepth 100000 in
set_option maxHeartbeats 1000000 in
theorem pplace_any (w : World) (r : Nat) (L : List Tk) (d : Dc) (bv : Value) (p : Pl) (h : PRd w r L d bv) :
    Calls Tryz.prog 47 #[ptr r, .agg #[.int .i64 p.1, .int .i64 p.2]] w fun e w' => e = .returned (.agg #[.int .i64 (pPlace L p).1, .int .i64 (pPlace L p).2]) ∧ Below w.heap.size w w' := by
  cases L with
  | nil =>
    obtain ⟨A, c, hc, hB⟩ := h.left0
    have k0 : _ = some (Value.slice A 0 c) := Blk.cell hB 0
    have hr := hB.lt
    clear hB h
    go_enter Tryz.func47, Tryz.ntmps47
    go_wp2_with fail
    refine bodyPost_ret (v := .agg #[.int .i64 p.1, .int .i64 p.2]) ?_ rfl ⟨rfl, ((Below.refl _ _).alloc (Nat.le_refl _) _).alloc (by simp) _⟩
    simp [results, Tryz.results47, go_sem, *]
  | cons x L =>
    obtain ⟨lv, hB, hL⟩ := h
    obtain ⟨g, o, c, rfl, hc1, hc2, hg, hcell, hnext⟩ := hL.next
    have k0 : _ = some (Value.slice (some ⟨g, o, none⟩) (L.length + 1) c) := Blk.cell hB 0
    have hr := hB.lt
    have t3 : w.cell? ⟨g, o + 3, none⟩ = some (.int .i64 x.p.1) := by simpa [elT] using hcell 3 _ rfl
    have t4 : w.cell? ⟨g, o + 4, none⟩ = some (.int .i64 x.p.2) := by simpa [elT] using hcell 4 _ rfl
    have hgl : g < w.heap.size := World.block_lt_of_cell? w _ t3
    clear hB hL hnext hcell
    have hz : (((L.length + 1 : Nat) : Int) == 0) = false := beq_eq_false_iff_ne.2 (by omega)
    go_enter Tryz.func47, Tryz.ntmps47
    go_wp2_with fail
    refine bodyPost_ret (v := .agg #[.int .i64 x.p.1, .int .i64 x.p.2]) ?_ rfl ⟨rfl, ((Below.refl _ _).alloc (Nat.le_refl _) _).alloc (by simp) _⟩
    simp [results, Tryz.results47, go_sem, *]
set_option maxRecDepth 100000 in
set_option maxHeartbeats 1000000 in
theorem kind_any (w : World) (r : Nat) (L : List Tk) (d : Dc) (bv : Value) (k : Int) (h : PRd w r L d bv) :
    Calls Tryz.prog 147 #[ptr r, .int .i64 k] w fun e w' => e = .returned (.tuple #[tkV (kindT k L), .bool (kindB k L)]) ∧ PRd w' r (kindL k L) d bv ∧ But r w w' := by
  cases L with
  | nil =>
    have HH := Lib.hid h
    obtain ⟨A, c, hc, hB⟩ := h.left0
    have k0 : _ = some (Value.slice A 0 c) := Blk.cell hB 0
    have hr := hB.lt
    clear h hB
    go_enter Tryz.func147, Tryz.ntmps147
    go_wp2_with fail
    refine bodyPost_ret (v := .tuple #[tkV Tk.z, .bool false]) ?_ rfl ⟨rfl, HH.out.alloc _, (But.refl r w).alloc _⟩
    simp [results, Tryz.results147, go_sem, *, tkV, Tk.z, bs]
  | cons x L =>
    have HH := Lib.hid h
    obtain ⟨lv, hB, hL⟩ := h
    obtain ⟨g, o, c, rfl, hc1, hc2, hg, hcell, hnext⟩ := hL.next
    have HB := Lib.hid hB
    have HN := Lib.hid hnext
    have k0 : _ = some (Value.slice (some ⟨g, o, none⟩) (L.length + 1) c) := Blk.cell hB 0
    have fr := hB.frozen 0
    have hr := hB.lt
    have t0 : w.cell? ⟨g, o, none⟩ = some (.int .i64 x.k) := by simpa [elT] using hcell 0 _ rfl
    have t1 : w.cell? ⟨g, o + 1, none⟩ = some (.string (bs x.t)) := by simpa [elT] using hcell 1 _ rfl
    have t2 : w.cell? ⟨g, o + 2, none⟩ = some (.int .i64 x.n) := by simpa [elT] using hcell 2 _ rfl
    have t3 : w.cell? ⟨g, o + 3, none⟩ = some (.int .i64 x.p.1) := by simpa [elT] using hcell 3 _ rfl
    have t4 : w.cell? ⟨g, o + 4, none⟩ = some (.int .i64 x.p.2) := by simpa [elT] using hcell 4 _ rfl
    have hgl : g < w.heap.size := World.block_lt_of_cell? w _ t0
    clear hB hL hnext hcell
    have hz : (((L.length + 1 : Nat) : Int) == 0) = false := beq_eq_false_iff_ne.2 (by omega)
    have hmx : c ≤ 9223372036854775807 := by unfold maxLen at hc2; omega
    by_cases he : x.k = k
    · have ht : (x.k != k) = false := by simp [he]
      have hb : kindB k (x :: L) = true := by simp [kindB, he]
      have hLs : kindL k (x :: L) = L := by simp [kindL, hb]
      have hT : kindT k (x :: L) = x := by simp [kindT, he]
      rw [hb, hLs, hT]
      clear hb hLs he hT
      go_enter Tryz.func147, Tryz.ntmps147
      go_wp2_with fail
      all_goals
        refine bodyPost_ret (v := .tuple #[tkV x, .bool true]) ?_ rfl ⟨rfl, PRd.alloc (PRd.alloc ⟨_, rset HB.out 0 _ rfl, But.left (HN.out _ (fun h1 => by first | rfl | (exfalso; omega)) (fun h1 => by first | rfl | (exfalso; omega))) _ _⟩ _) _, ((But.set _ _ _).alloc _).alloc _⟩
        simp [results, Tryz.results147, go_sem, *]
    · have ht : (x.k != k) = true := by simp [he]
      have hb : kindB k (x :: L) = false := by simp [kindB, he]
      have hLs : kindL k (x :: L) = x :: L := by simp [kindL, hb]
      have hT : kindT k (x :: L) = Tk.z := by simp [kindT, he]
      rw [hb, hLs, hT]
      clear hb hLs he hT
      go_enter Tryz.func147, Tryz.ntmps147
      go_wp2_with fail
      refine bodyPost_ret (v := .tuple #[tkV Tk.z, .bool false]) ?_ rfl ⟨rfl, HH.out.alloc _, (But.refl r w).alloc _⟩
      simp [results, Tryz.results147, go_sem, *, tkV, Tk.z, bs]
theorem PRd.kept {w W : World} {r : Nat} {L L' : List Tk} {d : Dc} {bv : Value} {b o : Nat} {v0 : Value} (h : PRd w r L d bv) (h' : PRd W r L' d bv) (hB : But r w W) (hc : w.cell? ⟨b, o, none⟩ = some v0) (hf : w.frozen? ⟨b, o, none⟩ = false) (hro : b = r → o ≠ 0) : W.cell? ⟨b, o, none⟩ = some v0 ∧ W.frozen? ⟨b, o, none⟩ = false := by
  by_cases hb : b = r
  · subst hb
    obtain ⟨lv, h1, _⟩ := h
    obtain ⟨lv', h2, _⟩ := h'
    obtain ⟨o, rfl⟩ := Nat.exists_eq_succ_of_ne_zero (hro rfl)
    have e1 := Blk.cell h1 (o + 1)
    have e2 := Blk.cell h2 (o + 1)
    refine ⟨?_, h2.frozen _⟩
    rw [e2, ← hc, e1]
    simp [rcells]
  · have hlt := World.block_lt_of_cell? w _ hc
    refine ⟨cell_block hc fun hl => hB.block b hl hb, ?_⟩
    have := hB.block b hlt hb
    simpa [World.frozen?, this] using hf
/-- A name is stored, whatever was told. -/
def QNameP (w : World) (r : Nat) (L : List Tk) (d : Dc) (bv : Value) (b o : Nat) (e : Ending) (w' : World) : Prop := ∃ W ob, e = .returned (.bool (kindB 1 L)) ∧ PRd W r (kindL 1 L) d bv ∧ But r w W ∧ w' = (W.setCell ⟨b, o, none⟩ (.string (bs (kindT 1 L).t))).alloc ob
def QNumP (w : World) (r : Nat) (L : List Tk) (d : Dc) (bv : Value) (b o : Nat) (e : Ending) (w' : World) : Prop := ∃ W ob, e = .returned (.bool (kindB 3 L)) ∧ PRd W r (kindL 3 L) d bv ∧ But r w W ∧ w' = (W.setCell ⟨b, o, none⟩ (.int .i64 (kindT 3 L).n)).alloc ob
theorem pname_any (w : World) (r : Nat) (L : List Tk) (d : Dc) (bv : Value) (b o : Nat) (v0 : Value) (h : PRd w r L d bv) (hc : w.cell? ⟨b, o, none⟩ = some v0) (hf : w.frozen? ⟨b, o, none⟩ = false) (hro : b = r → o ≠ 0) :
    Calls Tryz.prog 121 #[ptr r, .pointer (some ⟨b, o, none⟩)] w (QNameP w r L d bv b o) := by
  have HH := Lib.hid (kind_any w r L d bv 1 h)
  have HR := Lib.hid h
  have HC := Lib.hid hc
  have HF := Lib.hid hf
  go_enter Tryz.func121, Tryz.ntmps121
  go_wp2_with fail
  refine HH.out.mono ?_
  rintro e W ⟨rfl, hP, hB⟩
  obtain ⟨kc, kf⟩ := HR.out.kept hP hB HC.out HF.out hro
  have hbl := World.block_lt_of_cell? W _ kc
  have kc1 : ∀ ob, (W.alloc ob).cell? ⟨b, o, none⟩ = some v0 := fun ob => cell_block kc fun hl => (Below.refl _ W |>.alloc (Nat.le_refl _) ob).block b hl
  have kf1 : ∀ ob, (W.alloc ob).frozen? ⟨b, o, none⟩ = false := fun ob => by have := (Below.refl _ W |>.alloc (Nat.le_refl _) ob).block b hbl; simpa [World.frozen?, this] using kf
  have HP := Lib.hid hP
  clear hP hc hf h hro kc kf
  go_wp2_with fail
  go_ret
  exact ⟨W, _, rfl, HP.out, hB, rfl⟩
theorem pnum_any (w : World) (r : Nat) (L : List Tk) (d : Dc) (bv : Value) (b o : Nat) (v0 : Value) (h : PRd w r L d bv) (hc : w.cell? ⟨b, o, none⟩ = some v0) (hf : w.frozen? ⟨b, o, none⟩ = false) (hro : b = r → o ≠ 0) :
    Calls Tryz.prog 148 #[ptr r, .pointer (some ⟨b, o, none⟩)] w (QNumP w r L d bv b o) := by
  have HH := Lib.hid (kind_any w r L d bv 3 h)
  have HR := Lib.hid h
  have HC := Lib.hid hc
  have HF := Lib.hid hf
  go_enter Tryz.func148, Tryz.ntmps148
  go_wp2_with fail
  refine HH.out.mono ?_
  rintro e W ⟨rfl, hP, hB⟩
  obtain ⟨kc, kf⟩ := HR.out.kept hP hB HC.out HF.out hro
  have hbl := World.block_lt_of_cell? W _ kc
  have kc1 : ∀ ob, (W.alloc ob).cell? ⟨b, o, none⟩ = some v0 := fun ob => cell_block kc fun hl => (Below.refl _ W |>.alloc (Nat.le_refl _) ob).block b hl
  have kf1 : ∀ ob, (W.alloc ob).frozen? ⟨b, o, none⟩ = false := fun ob => by have := (Below.refl _ W |>.alloc (Nat.le_refl _) ob).block b hbl; simpa [World.frozen?, this] using kf
  have HP := Lib.hid hP
  clear hP hc hf h hro kc kf
  go_wp2_with fail
  go_ret
  exact ⟨W, _, rfl, HP.out, hB, rfl⟩
/-- A name, a number, into the declaration that is being read. -/
theorem PRd.store {W : World} {r : Nat} {L : List Tk} {d d' : Dc} {bv bv' : Value} (h : PRd W r L d bv) (i : Nat) (v : Value) (e : ∀ lv, (rcells lv d bv).set! i v = rcells lv d' bv') : PRd (W.setCell ⟨r, i, none⟩ v) r L d' bv' := by
  obtain ⟨lv, h1, h2⟩ := h
  exact ⟨lv, rset h1 i v (e lv), But.left h2 i v⟩
theorem PRd.at_ {w : World} {r : Nat} {L : List Tk} {d : Dc} {bv : Value} (h : PRd w r L d bv) {i : Nat} {v : Value} (e : (dcells d bv)[i]? = some v) : w.cell? ⟨r, i + 1, none⟩ = some v ∧ w.frozen? ⟨r, i + 1, none⟩ = false := by
  obtain ⟨lv, h1, h2⟩ := h
  refine ⟨?_, h1.frozen _⟩
  rw [Blk.cell h1 (i + 1), ← e]
  simp [rcells, dcells]
/-- What a part of the reader answers and leaves. -/
def ActQ (w : World) (r : Nat) (bv : Value) (a : Bool × PS) (e : Ending) (w' : World) : Prop := e = .returned (.bool a.1) ∧ PRd w' r a.2.1 a.2.2 bv ∧ But r w w'
theorem pname_in (w : World) (r : Nat) (L : List Tk) (d : Dc) (bv : Value) (i : Nat) (v0 : Value) (set : Bs → Dc → Dc) (h : PRd w r L d bv) (e0 : (dcells d bv)[i]? = some v0) (e : ∀ lv s, (rcells lv d bv).set! (i + 1) (.string (bs s)) = rcells lv (set s d) bv) :
    Calls Tryz.prog 121 #[ptr r, .pointer (some ⟨r, i + 1, none⟩)] w (ActQ w r bv (nameM set (L, d))) := by
  obtain ⟨hc, hf⟩ := h.at_ e0
  refine (pname_any w r L d bv r (i + 1) v0 h hc hf (fun _ => by omega)).mono ?_
  rintro e1 w1 ⟨W, ob, rfl, hP, hB, rfl⟩
  exact ⟨rfl, (hP.store _ _ fun lv => e lv _).alloc _, (hB.trans (But.set _ _ _)).alloc _⟩
theorem pnum_in (w : World) (r : Nat) (L : List Tk) (d : Dc) (bv : Value) (i : Nat) (v0 : Value) (set : Int → Dc → Dc) (h : PRd w r L d bv) (e0 : (dcells d bv)[i]? = some v0) (e : ∀ lv n, (rcells lv d bv).set! (i + 1) (.int .i64 n) = rcells lv (set n d) bv) :
    Calls Tryz.prog 148 #[ptr r, .pointer (some ⟨r, i + 1, none⟩)] w (ActQ w r bv (numM set (L, d))) := by
  obtain ⟨hc, hf⟩ := h.at_ e0
  refine (pnum_any w r L d bv r (i + 1) v0 h hc hf (fun _ => by omega)).mono ?_
  rintro e1 w1 ⟨W, ob, rfl, hP, hB, rfl⟩
  exact ⟨rfl, (hP.store _ _ fun lv => e lv _).alloc _, (hB.trans (But.set _ _ _)).alloc _⟩
end Go.Proofs.YtkpmeelbjldcoaaGreatDoor
