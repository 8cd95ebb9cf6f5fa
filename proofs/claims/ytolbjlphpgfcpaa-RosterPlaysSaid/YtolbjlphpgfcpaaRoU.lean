/- The document's Spend of members, the law's wants, by contract. -/
import Derived.Test.YtolbjlphpgfcpaaRoT
namespace Go.Proofs.Ytolbjlphpgfcpaa
set_option linter.unusedVariables false
set_option linter.unusedSimpArgs false
open Go.RowKit
/-- What is told, and members that are as they were, or a row made since. -/
def WaP (v : Value) (L L' : List Mb) (er : Int) (w : World) (e : Ending) (w' : World) : Prop := ∃ v', e = .returned (.tuple #[v', .int .i64 er]) ∧ ((v' = v ∧ L' = L ∧ Below w.heap.size w w') ∨ FE elM w v' L' w')
def rsE (L : List Mb) (u : Int) : Int := if (rfO L u).isSome = false then 21 else if u = 0 then 0 else if ((rfO L u).getD Mb.zero).quota = 0 then 41 else 0
def rsL (L : List Mb) (u : Int) : List Mb := if rsE L u = 0 then (if u = 0 then L else puM L { (rfO L u).getD Mb.zero with quota := ((rfO L u).getD Mb.zero).quota - 1 }) else L
theorem WaP.base {v v' : Value} {L L' : List Mb} {w w1 w' : World} (hb : Below w.heap.size w w1) (h : (v' = v ∧ L' = L ∧ Below w1.heap.size w1 w') ∨ FE elM w1 v' L' w') : (v' = v ∧ L' = L ∧ Below w.heap.size w w') ∨ FE elM w v' L' w' := by
  rcases h with ⟨a, b, c⟩ | h
  · exact .inl ⟨a, b, below_trans hb c⟩
  · exact .inr (h.up hb)
theorem bsc {w w' : World} (h : Below w.heap.size w w') {b : Nat} (hb : w.heap.size ≤ b) (o : Nat) (u : Value) : Below w.heap.size w (w'.setCell ⟨b, o, none⟩ u) := h.setCell (p := ⟨b, o, none⟩) hb u
set_option maxRecDepth 100000 in
set_option maxHeartbeats 8000000 in
theorem rs_no (w : World) (A : Option Addr) (n c : Nat) (L : List Mb) (u : Int) (f0 f1 f2 f3 f4 : Int) (f5 : Nat) (HFI : Hid (∀ w', Below w.heap.size w w' → Calls Try.prog 12 #[.slice A n c, .int .i64 u] w' fun e w'' => e = .returned (.tuple #[.agg #[.int .i64 f0, .int .i64 f1, .int .i64 f2, .int .i64 f3, .int .i64 f4, .int .u64 f5], .bool false]) ∧ Below w'.heap.size w' w''))   :
    Calls Try.prog 24 #[.slice A n c, .int .i64 u] w (WaP (.slice A n c) L L 21 w) := by
  go_enter Try.func24, Try.ntmps24
  go_wp2_with fail
  refine (HFI.out _ (Below.refl _ _)).mono ?_
  rintro e w1 ⟨rfl, hb1⟩
  have HB1 := Lib.hid hb1
  clear hb1 HFI
  go_wp2
  exact bodyPost_ret (v := .tuple #[.slice A n c, .int .i64 (21)]) (by simp [results, Try.results24, go_sem]) rfl ⟨_, rfl, .inl ⟨rfl, rfl, HB1.out.alloc HB1.out.size _⟩⟩
set_option maxRecDepth 100000 in
set_option maxHeartbeats 8000000 in
theorem rs_zero (w : World) (A : Option Addr) (n c : Nat) (L : List Mb) (u : Int) (f0 f1 f2 f3 f4 : Int) (f5 : Nat) (HFI : Hid (∀ w', Below w.heap.size w w' → Calls Try.prog 12 #[.slice A n c, .int .i64 u] w' fun e w'' => e = .returned (.tuple #[.agg #[.int .i64 f0, .int .i64 f1, .int .i64 f2, .int .i64 f3, .int .i64 f4, .int .u64 f5], .bool true]) ∧ Below w'.heap.size w' w''))  (h0 : (u == 0) = true) :
    Calls Try.prog 24 #[.slice A n c, .int .i64 u] w (WaP (.slice A n c) L L 0 w) := by
  go_enter Try.func24, Try.ntmps24
  go_wp2_with fail
  refine (HFI.out _ (Below.refl _ _)).mono ?_
  rintro e w1 ⟨rfl, hb1⟩
  have HB1 := Lib.hid hb1
  clear hb1 HFI
  go_wp2
  exact bodyPost_ret (v := .tuple #[.slice A n c, .int .i64 (0)]) (by simp [results, Try.results24, go_sem]) rfl ⟨_, rfl, .inl ⟨rfl, rfl, HB1.out.alloc HB1.out.size _⟩⟩
set_option maxRecDepth 100000 in
set_option maxHeartbeats 8000000 in
theorem rs_spent (w : World) (A : Option Addr) (n c : Nat) (L : List Mb) (u : Int) (f0 f1 f2 f3 f4 : Int) (f5 : Nat) (HFI : Hid (∀ w', Below w.heap.size w w' → Calls Try.prog 12 #[.slice A n c, .int .i64 u] w' fun e w'' => e = .returned (.tuple #[.agg #[.int .i64 f0, .int .i64 f1, .int .i64 f2, .int .i64 f3, .int .i64 f4, .int .u64 f5], .bool true]) ∧ Below w'.heap.size w' w''))  (h0 : (u == 0) = false) (h1 : (f3 == 0) = true) :
    Calls Try.prog 24 #[.slice A n c, .int .i64 u] w (WaP (.slice A n c) L L 41 w) := by
  go_enter Try.func24, Try.ntmps24
  go_wp2_with fail
  refine (HFI.out _ (Below.refl _ _)).mono ?_
  rintro e w1 ⟨rfl, hb1⟩
  have HB1 := Lib.hid hb1
  clear hb1 HFI
  go_wp2
  exact bodyPost_ret (v := .tuple #[.slice A n c, .int .i64 (41)]) (by simp [results, Try.results24, go_sem]) rfl ⟨_, rfl, .inl ⟨rfl, rfl, HB1.out.alloc HB1.out.size _⟩⟩
set_option maxRecDepth 100000 in
set_option maxHeartbeats 8000000 in
theorem rs_put (w : World) (A : Option Addr) (n c : Nat) (L : List Mb) (u : Int) (f0 f1 f2 f3 f4 : Int) (f5 : Nat) (HFI : Hid (∀ w', Below w.heap.size w w' → Calls Try.prog 12 #[.slice A n c, .int .i64 u] w' fun e w'' => e = .returned (.tuple #[.agg #[.int .i64 f0, .int .i64 f1, .int .i64 f2, .int .i64 f3, .int .i64 f4, .int .u64 f5], .bool true]) ∧ Below w'.heap.size w' w'')) (HPU : Hid (∀ m : Mb, ∀ w', Below w.heap.size w w' → Calls Try.prog 22 #[.slice A n c, m.V] w' fun e w'' => ∃ v', e = .returned v' ∧ FE elM w' v' (puM L m) w'')) (h0 : (u == 0) = false) (h1 : (f3 == 0) = false) (hw : IntKind.i64.wrap (f3 - 1) = f3 - 1) :
    Calls Try.prog 24 #[.slice A n c, .int .i64 u] w (WaP (.slice A n c) L (puM L ⟨f0, f1, f2, (f3 - 1), f4, f5⟩) 0 w) := by
  go_enter Try.func24, Try.ntmps24
  go_wp2_with fail
  refine (HFI.out _ (Below.refl _ _)).mono ?_
  rintro e w1 ⟨rfl, hb1⟩
  have HB1 := Lib.hid hb1
  clear hb1 HFI
  go_wp2_with (go_at_call 22; refine (HPU.out ⟨f0, f1, f2, (f3 - 1), f4, f5⟩ _ (HB1.out.alloc HB1.out.size _)).mono ?_; rintro e w2 ⟨v2, rfl, hF⟩; have HF := Lib.hid (hF.up (HB1.out.alloc HB1.out.size _)); clear hF)
  exact bodyPost_ret (v := .tuple #[v2, .int .i64 (0)]) (by simp [results, Try.results24, go_sem]) rfl ⟨_, rfl, .inr HF.out⟩
theorem refspend_any (w : World) (v : Value) (L : List Mb) (u : Int) (h : ERd elM w v L) (hl : L.length ≤ 10000) (hq : ∀ x ∈ L, 0 ≤ x.quota ∧ x.quota ≤ 65535) :
    Calls Try.prog 24 #[v, .int .i64 u] w (WaP v L (rsL L u) (rsE L u) w) := by
  obtain ⟨A, c, rfl, -, -⟩ := h.shape
  have HFI := Lib.hid (fun w' (hb : Below w.heap.size w w') => reffind_any w' _ L u (h.below hb) (by omega))
  have HPU := Lib.hid (fun (m : Mb) w' (hb : Below w.heap.size w w') => refput_any w' _ L m (h.below hb) hl)
  cases hr : rfO L u with
  | none =>
    have e1 : rsE L u = 21 := by rw [rsE, hr]; rfl
    have e2 : rsL L u = L := by rw [rsL, e1]; rfl
    rw [e1, e2]
    rw [hr] at HFI
    exact rs_no w A _ c L u 0 0 0 0 0 0 HFI
  | some x =>
    rw [hr] at HFI
    have hx := hq x (rfO_mem hr).1
    obtain ⟨f0, f1, f2, f3, f4, f5⟩ := x
    by_cases h0 : u = 0
    · have e1 : rsE L u = 0 := by rw [rsE, hr, if_neg (by simp), if_pos h0]
      have e2 : rsL L u = L := by rw [rsL, if_pos e1, if_pos h0]
      rw [e1, e2]
      exact rs_zero w A _ c L u f0 f1 f2 f3 f4 f5 HFI (by simpa using h0)
    · by_cases h1 : f3 = 0
      · have e1 : rsE L u = 41 := by rw [rsE, hr, if_neg (by simp), if_neg h0]; exact if_pos h1
        have e2 : rsL L u = L := by rw [rsL, e1]; rfl
        rw [e1, e2]
        exact rs_spent w A _ c L u f0 f1 f2 f3 f4 f5 HFI (by simpa using h0) (by simpa using h1)
      · have e1 : rsE L u = 0 := by rw [rsE, hr, if_neg (by simp), if_neg h0]; exact if_neg h1
        have e2 : rsL L u = puM L ⟨f0, f1, f2, f3 - 1, f4, f5⟩ := by rw [rsL, if_pos e1, if_neg h0, hr]; rfl
        rw [e1, e2]
        simp only at hx
        exact rs_put w A _ c L u f0 f1 f2 f3 f4 f5 HFI HPU (by simpa using h0) (by simpa using h1) (IntWalk.i64_in _ (by omega))
set_option maxRecDepth 100000 in
set_option maxHeartbeats 8000000 in
theorem w0a (w : World) (A : Option Addr) (n c : Nat) (L L' : List Mb) (er : Int) (m0 m1 m2 m3 m4 : Int) (m5 : Nat) (fk : Int) (fa : Nat) (nn : Int) (f0 f1 f2 f3 f4 : Int) (f5 : Nat) (HFI : Hid (∀ w', Below w.heap.size w w' → Calls Try.prog 12 #[.slice A n c, .int .i64 m0] w' fun e w'' => e = .returned (.tuple #[.agg #[.int .i64 f0, .int .i64 f1, .int .i64 f2, .int .i64 f3, .int .i64 f4, .int .u64 f5], .bool false]) ∧ Below w'.heap.size w' w'')) (HRI : Hid (∀ w', Calls Try.prog 18 #[.agg #[.int .i64 m0, .int .i64 m1, .int .i64 m2, .int .i64 m3, .int .i64 m4, .int .u64 m5]] w' fun e w'' => e = .returned (.bool false) ∧ Below w'.heap.size w' w''))  :
    Calls Try.prog 9 #[.slice A n c, .agg #[.int .i64 0, .int .i64 m0, .int .i64 m1, .int .i64 m2, .int .i64 m3, .int .i64 m4, .int .u64 m5, .int .i64 fk, .int .u64 fa, .int .i64 nn]] w (WaP (.slice A n c) L L 1 w) := by
  have HX0 := Lib.hid (Blk.new w 36 #[.int .i64 0, .int .i64 m0, .int .i64 m1, .int .i64 m2, .int .i64 m3, .int .i64 m4, .int .u64 m5, .int .i64 fk, .int .u64 fa, .int .i64 nn])
  have HB0 := Lib.hid (show Below w.heap.size w (w.alloc (.cells #[.int .i64 0, .int .i64 m0, .int .i64 m1, .int .i64 m2, .int .i64 m3, .int .i64 m4, .int .u64 m5, .int .i64 fk, .int .u64 fa, .int .i64 nn] 36)) from (Below.refl _ _).alloc (Nat.le_refl _) _)
  go_enter Try.func9, Try.ntmps9
  go_wp2_with fail
  refine (HFI.out _ HB0.out).mono ?_
  rintro e w1 ⟨rfl, hb1⟩
  have O1 := Blk.thru0 HX0.out hb1
  have HB1 := Lib.hid (below_trans HB0.out hb1)
  clear hb1 HFI HX0 HB0
  have k0 := O1.cell 0
  have k1 := O1.cell 1
  have k2 := O1.cell 2
  have k3 := O1.cell 3
  have k4 := O1.cell 4
  have k5 := O1.cell 5
  have k6 := O1.cell 6
  have k7 := O1.cell 7
  have k8 := O1.cell 8
  have k9 := O1.cell 9
  simp only [List.getElem?_toArray, List.getElem?_cons_zero, List.getElem?_cons_succ] at k0 k1 k2 k3 k4 k5 k6 k7 k8 k9
  have z1 := O1.lt
  go_wp2_with (first | (go_at_call 18; refine (HRI.out _).mono ?_; rintro e w2 ⟨rfl, hb2⟩; have O2 := Blk.thru0 (O1.alloc _) hb2; have kk0 := O2.cell 0; have kk1 := O2.cell 1; have kk2 := O2.cell 2; have kk3 := O2.cell 3; have kk4 := O2.cell 4; have kk5 := O2.cell 5; have kk6 := O2.cell 6; have kk7 := O2.cell 7; have kk8 := O2.cell 8; have kk9 := O2.cell 9; simp only [List.getElem?_toArray, List.getElem?_cons_zero, List.getElem?_cons_succ] at kk0 kk1 kk2 kk3 kk4 kk5 kk6 kk7 kk8 kk9; have HB2 := Lib.hid (below_trans (HB1.out.alloc HB1.out.size _) hb2); clear hb2))
  exact bodyPost_ret (v := .tuple #[(.slice A n c), .int .i64 (1)]) (by simp [results, Try.results9, go_sem]) rfl ⟨_, rfl, .inl ⟨rfl, rfl, HB2.out⟩⟩
set_option maxRecDepth 100000 in
set_option maxHeartbeats 8000000 in
theorem w0a2 (w : World) (A : Option Addr) (n c : Nat) (L L' : List Mb) (er : Int) (m0 m1 m2 m3 m4 : Int) (m5 : Nat) (fk : Int) (fa : Nat) (nn : Int) (f0 f1 f2 f3 f4 : Int) (f5 : Nat) (HFI : Hid (∀ w', Below w.heap.size w w' → Calls Try.prog 12 #[.slice A n c, .int .i64 m0] w' fun e w'' => e = .returned (.tuple #[.agg #[.int .i64 f0, .int .i64 f1, .int .i64 f2, .int .i64 f3, .int .i64 f4, .int .u64 f5], .bool true]) ∧ Below w'.heap.size w' w'')) (HRI : Hid (∀ w', Calls Try.prog 18 #[.agg #[.int .i64 m0, .int .i64 m1, .int .i64 m2, .int .i64 m3, .int .i64 m4, .int .u64 m5]] w' fun e w'' => e = .returned (.bool false) ∧ Below w'.heap.size w' w''))  :
    Calls Try.prog 9 #[.slice A n c, .agg #[.int .i64 0, .int .i64 m0, .int .i64 m1, .int .i64 m2, .int .i64 m3, .int .i64 m4, .int .u64 m5, .int .i64 fk, .int .u64 fa, .int .i64 nn]] w (WaP (.slice A n c) L L 1 w) := by
  have HX0 := Lib.hid (Blk.new w 36 #[.int .i64 0, .int .i64 m0, .int .i64 m1, .int .i64 m2, .int .i64 m3, .int .i64 m4, .int .u64 m5, .int .i64 fk, .int .u64 fa, .int .i64 nn])
  have HB0 := Lib.hid (show Below w.heap.size w (w.alloc (.cells #[.int .i64 0, .int .i64 m0, .int .i64 m1, .int .i64 m2, .int .i64 m3, .int .i64 m4, .int .u64 m5, .int .i64 fk, .int .u64 fa, .int .i64 nn] 36)) from (Below.refl _ _).alloc (Nat.le_refl _) _)
  go_enter Try.func9, Try.ntmps9
  go_wp2_with fail
  refine (HFI.out _ HB0.out).mono ?_
  rintro e w1 ⟨rfl, hb1⟩
  have O1 := Blk.thru0 HX0.out hb1
  have HB1 := Lib.hid (below_trans HB0.out hb1)
  clear hb1 HFI HX0 HB0
  have k0 := O1.cell 0
  have k1 := O1.cell 1
  have k2 := O1.cell 2
  have k3 := O1.cell 3
  have k4 := O1.cell 4
  have k5 := O1.cell 5
  have k6 := O1.cell 6
  have k7 := O1.cell 7
  have k8 := O1.cell 8
  have k9 := O1.cell 9
  simp only [List.getElem?_toArray, List.getElem?_cons_zero, List.getElem?_cons_succ] at k0 k1 k2 k3 k4 k5 k6 k7 k8 k9
  have z1 := O1.lt
  go_wp2_with (first | (go_at_call 18; refine (HRI.out _).mono ?_; rintro e w2 ⟨rfl, hb2⟩; have O2 := Blk.thru0 (O1.alloc _) hb2; have kk0 := O2.cell 0; have kk1 := O2.cell 1; have kk2 := O2.cell 2; have kk3 := O2.cell 3; have kk4 := O2.cell 4; have kk5 := O2.cell 5; have kk6 := O2.cell 6; have kk7 := O2.cell 7; have kk8 := O2.cell 8; have kk9 := O2.cell 9; simp only [List.getElem?_toArray, List.getElem?_cons_zero, List.getElem?_cons_succ] at kk0 kk1 kk2 kk3 kk4 kk5 kk6 kk7 kk8 kk9; have HB2 := Lib.hid (below_trans (HB1.out.alloc HB1.out.size _) hb2); clear hb2))
  exact bodyPost_ret (v := .tuple #[(.slice A n c), .int .i64 (1)]) (by simp [results, Try.results9, go_sem]) rfl ⟨_, rfl, .inl ⟨rfl, rfl, HB2.out⟩⟩
set_option maxRecDepth 100000 in
set_option maxHeartbeats 8000000 in
theorem w0b (w : World) (A : Option Addr) (n c : Nat) (L L' : List Mb) (er : Int) (m0 m1 m2 m3 m4 : Int) (m5 : Nat) (fk : Int) (fa : Nat) (nn : Int) (f0 f1 f2 f3 f4 : Int) (f5 : Nat) (HFI : Hid (∀ w', Below w.heap.size w w' → Calls Try.prog 12 #[.slice A n c, .int .i64 m0] w' fun e w'' => e = .returned (.tuple #[.agg #[.int .i64 f0, .int .i64 f1, .int .i64 f2, .int .i64 f3, .int .i64 f4, .int .u64 f5], .bool true]) ∧ Below w'.heap.size w' w'')) (HRI : Hid (∀ w', Calls Try.prog 18 #[.agg #[.int .i64 m0, .int .i64 m1, .int .i64 m2, .int .i64 m3, .int .i64 m4, .int .u64 m5]] w' fun e w'' => e = .returned (.bool true) ∧ Below w'.heap.size w' w''))  :
    Calls Try.prog 9 #[.slice A n c, .agg #[.int .i64 0, .int .i64 m0, .int .i64 m1, .int .i64 m2, .int .i64 m3, .int .i64 m4, .int .u64 m5, .int .i64 fk, .int .u64 fa, .int .i64 nn]] w (WaP (.slice A n c) L L 20 w) := by
  have HX0 := Lib.hid (Blk.new w 36 #[.int .i64 0, .int .i64 m0, .int .i64 m1, .int .i64 m2, .int .i64 m3, .int .i64 m4, .int .u64 m5, .int .i64 fk, .int .u64 fa, .int .i64 nn])
  have HB0 := Lib.hid (show Below w.heap.size w (w.alloc (.cells #[.int .i64 0, .int .i64 m0, .int .i64 m1, .int .i64 m2, .int .i64 m3, .int .i64 m4, .int .u64 m5, .int .i64 fk, .int .u64 fa, .int .i64 nn] 36)) from (Below.refl _ _).alloc (Nat.le_refl _) _)
  go_enter Try.func9, Try.ntmps9
  go_wp2_with fail
  refine (HFI.out _ HB0.out).mono ?_
  rintro e w1 ⟨rfl, hb1⟩
  have O1 := Blk.thru0 HX0.out hb1
  have HB1 := Lib.hid (below_trans HB0.out hb1)
  clear hb1 HFI HX0 HB0
  have k0 := O1.cell 0
  have k1 := O1.cell 1
  have k2 := O1.cell 2
  have k3 := O1.cell 3
  have k4 := O1.cell 4
  have k5 := O1.cell 5
  have k6 := O1.cell 6
  have k7 := O1.cell 7
  have k8 := O1.cell 8
  have k9 := O1.cell 9
  simp only [List.getElem?_toArray, List.getElem?_cons_zero, List.getElem?_cons_succ] at k0 k1 k2 k3 k4 k5 k6 k7 k8 k9
  have z1 := O1.lt
  go_wp2_with (first | (go_at_call 18; refine (HRI.out _).mono ?_; rintro e w2 ⟨rfl, hb2⟩; have O2 := Blk.thru0 (O1.alloc _) hb2; have kk0 := O2.cell 0; have kk1 := O2.cell 1; have kk2 := O2.cell 2; have kk3 := O2.cell 3; have kk4 := O2.cell 4; have kk5 := O2.cell 5; have kk6 := O2.cell 6; have kk7 := O2.cell 7; have kk8 := O2.cell 8; have kk9 := O2.cell 9; simp only [List.getElem?_toArray, List.getElem?_cons_zero, List.getElem?_cons_succ] at kk0 kk1 kk2 kk3 kk4 kk5 kk6 kk7 kk8 kk9; have HB2 := Lib.hid (below_trans (HB1.out.alloc HB1.out.size _) hb2); clear hb2))
  exact bodyPost_ret (v := .tuple #[(.slice A n c), .int .i64 (20)]) (by simp [results, Try.results9, go_sem]) rfl ⟨_, rfl, .inl ⟨rfl, rfl, HB2.out⟩⟩
set_option maxRecDepth 100000 in
set_option maxHeartbeats 8000000 in
theorem w0c (w : World) (A : Option Addr) (n c : Nat) (L L' : List Mb) (er : Int) (m0 m1 m2 m3 m4 : Int) (m5 : Nat) (fk : Int) (fa : Nat) (nn : Int) (f0 f1 f2 f3 f4 : Int) (f5 : Nat) (HFI : Hid (∀ w', Below w.heap.size w w' → Calls Try.prog 12 #[.slice A n c, .int .i64 m0] w' fun e w'' => e = .returned (.tuple #[.agg #[.int .i64 f0, .int .i64 f1, .int .i64 f2, .int .i64 f3, .int .i64 f4, .int .u64 f5], .bool false]) ∧ Below w'.heap.size w' w'')) (HRI : Hid (∀ w', Calls Try.prog 18 #[.agg #[.int .i64 m0, .int .i64 m1, .int .i64 m2, .int .i64 m3, .int .i64 m4, .int .u64 m5]] w' fun e w'' => e = .returned (.bool true) ∧ Below w'.heap.size w' w'')) (HPU : Hid (∀ m : Mb, ∀ w', Below w.heap.size w w' → Calls Try.prog 22 #[.slice A n c, m.V] w' fun e w'' => ∃ v', e = .returned v' ∧ FE elM w' v' (puM L m) w''))  :
    Calls Try.prog 9 #[.slice A n c, .agg #[.int .i64 0, .int .i64 m0, .int .i64 m1, .int .i64 m2, .int .i64 m3, .int .i64 m4, .int .u64 m5, .int .i64 fk, .int .u64 fa, .int .i64 nn]] w (WaP (.slice A n c) L (puM L ⟨m0, m1, m2, m3, m4, m5⟩) 0 w) := by
  have HX0 := Lib.hid (Blk.new w 36 #[.int .i64 0, .int .i64 m0, .int .i64 m1, .int .i64 m2, .int .i64 m3, .int .i64 m4, .int .u64 m5, .int .i64 fk, .int .u64 fa, .int .i64 nn])
  have HB0 := Lib.hid (show Below w.heap.size w (w.alloc (.cells #[.int .i64 0, .int .i64 m0, .int .i64 m1, .int .i64 m2, .int .i64 m3, .int .i64 m4, .int .u64 m5, .int .i64 fk, .int .u64 fa, .int .i64 nn] 36)) from (Below.refl _ _).alloc (Nat.le_refl _) _)
  go_enter Try.func9, Try.ntmps9
  go_wp2_with fail
  refine (HFI.out _ HB0.out).mono ?_
  rintro e w1 ⟨rfl, hb1⟩
  have O1 := Blk.thru0 HX0.out hb1
  have HB1 := Lib.hid (below_trans HB0.out hb1)
  clear hb1 HFI HX0 HB0
  have k0 := O1.cell 0
  have k1 := O1.cell 1
  have k2 := O1.cell 2
  have k3 := O1.cell 3
  have k4 := O1.cell 4
  have k5 := O1.cell 5
  have k6 := O1.cell 6
  have k7 := O1.cell 7
  have k8 := O1.cell 8
  have k9 := O1.cell 9
  simp only [List.getElem?_toArray, List.getElem?_cons_zero, List.getElem?_cons_succ] at k0 k1 k2 k3 k4 k5 k6 k7 k8 k9
  have z1 := O1.lt
  go_wp2_with (first | (go_at_call 18; refine (HRI.out _).mono ?_; rintro e w2 ⟨rfl, hb2⟩; have O2 := Blk.thru0 (O1.alloc _) hb2; have kk0 := O2.cell 0; have kk1 := O2.cell 1; have kk2 := O2.cell 2; have kk3 := O2.cell 3; have kk4 := O2.cell 4; have kk5 := O2.cell 5; have kk6 := O2.cell 6; have kk7 := O2.cell 7; have kk8 := O2.cell 8; have kk9 := O2.cell 9; simp only [List.getElem?_toArray, List.getElem?_cons_zero, List.getElem?_cons_succ] at kk0 kk1 kk2 kk3 kk4 kk5 kk6 kk7 kk8 kk9; have HB2 := Lib.hid (below_trans (HB1.out.alloc HB1.out.size _) hb2); clear hb2) | (go_at_call 22; refine (HPU.out ⟨m0, m1, m2, m3, m4, m5⟩ _ HB2.out).mono ?_; rintro e w3 ⟨v3, rfl, hF⟩; have HF := Lib.hid (hF.up HB2.out); clear hF))
  exact bodyPost_ret (v := .tuple #[v3, .int .i64 (0)]) (by simp [results, Try.results9, go_sem]) rfl ⟨_, rfl, .inr HF.out⟩
set_option maxRecDepth 100000 in
set_option maxHeartbeats 8000000 in
theorem w1a (w : World) (A : Option Addr) (n c : Nat) (L L' : List Mb) (er : Int) (m0 m1 m2 m3 m4 : Int) (m5 : Nat) (fk : Int) (fa : Nat) (nn : Int) (f0 f1 f2 f3 f4 : Int) (f5 : Nat) (HFI : Hid (∀ w', Below w.heap.size w w' → Calls Try.prog 12 #[.slice A n c, .int .i64 m0] w' fun e w'' => e = .returned (.tuple #[.agg #[.int .i64 f0, .int .i64 f1, .int .i64 f2, .int .i64 f3, .int .i64 f4, .int .u64 f5], .bool false]) ∧ Below w'.heap.size w' w''))  (h0 : (m0 == 0) = true) :
    Calls Try.prog 9 #[.slice A n c, .agg #[.int .i64 1, .int .i64 m0, .int .i64 m1, .int .i64 m2, .int .i64 m3, .int .i64 m4, .int .u64 m5, .int .i64 fk, .int .u64 fa, .int .i64 nn]] w (WaP (.slice A n c) L L 1 w) := by
  have HX0 := Lib.hid (Blk.new w 36 #[.int .i64 1, .int .i64 m0, .int .i64 m1, .int .i64 m2, .int .i64 m3, .int .i64 m4, .int .u64 m5, .int .i64 fk, .int .u64 fa, .int .i64 nn])
  have HB0 := Lib.hid (show Below w.heap.size w (w.alloc (.cells #[.int .i64 1, .int .i64 m0, .int .i64 m1, .int .i64 m2, .int .i64 m3, .int .i64 m4, .int .u64 m5, .int .i64 fk, .int .u64 fa, .int .i64 nn] 36)) from (Below.refl _ _).alloc (Nat.le_refl _) _)
  go_enter Try.func9, Try.ntmps9
  go_wp2_with fail
  refine (HFI.out _ HB0.out).mono ?_
  rintro e w1 ⟨rfl, hb1⟩
  have O1 := Blk.thru0 HX0.out hb1
  have HB1 := Lib.hid (below_trans HB0.out hb1)
  clear hb1 HFI HX0 HB0
  have k0 := O1.cell 0
  have k1 := O1.cell 1
  have k2 := O1.cell 2
  have k3 := O1.cell 3
  have k4 := O1.cell 4
  have k5 := O1.cell 5
  have k6 := O1.cell 6
  have k7 := O1.cell 7
  have k8 := O1.cell 8
  have k9 := O1.cell 9
  simp only [List.getElem?_toArray, List.getElem?_cons_zero, List.getElem?_cons_succ] at k0 k1 k2 k3 k4 k5 k6 k7 k8 k9
  have z1 := O1.lt
  go_wp2
  exact bodyPost_ret (v := .tuple #[(.slice A n c), .int .i64 (1)]) (by simp [results, Try.results9, go_sem]) rfl ⟨_, rfl, .inl ⟨rfl, rfl, (HB1.out.alloc HB1.out.size _)⟩⟩
set_option maxRecDepth 100000 in
set_option maxHeartbeats 8000000 in
theorem w1a2 (w : World) (A : Option Addr) (n c : Nat) (L L' : List Mb) (er : Int) (m0 m1 m2 m3 m4 : Int) (m5 : Nat) (fk : Int) (fa : Nat) (nn : Int) (f0 f1 f2 f3 f4 : Int) (f5 : Nat) (HFI : Hid (∀ w', Below w.heap.size w w' → Calls Try.prog 12 #[.slice A n c, .int .i64 m0] w' fun e w'' => e = .returned (.tuple #[.agg #[.int .i64 f0, .int .i64 f1, .int .i64 f2, .int .i64 f3, .int .i64 f4, .int .u64 f5], .bool true]) ∧ Below w'.heap.size w' w''))  (h0 : (m0 == 0) = true) :
    Calls Try.prog 9 #[.slice A n c, .agg #[.int .i64 1, .int .i64 m0, .int .i64 m1, .int .i64 m2, .int .i64 m3, .int .i64 m4, .int .u64 m5, .int .i64 fk, .int .u64 fa, .int .i64 nn]] w (WaP (.slice A n c) L L 1 w) := by
  have HX0 := Lib.hid (Blk.new w 36 #[.int .i64 1, .int .i64 m0, .int .i64 m1, .int .i64 m2, .int .i64 m3, .int .i64 m4, .int .u64 m5, .int .i64 fk, .int .u64 fa, .int .i64 nn])
  have HB0 := Lib.hid (show Below w.heap.size w (w.alloc (.cells #[.int .i64 1, .int .i64 m0, .int .i64 m1, .int .i64 m2, .int .i64 m3, .int .i64 m4, .int .u64 m5, .int .i64 fk, .int .u64 fa, .int .i64 nn] 36)) from (Below.refl _ _).alloc (Nat.le_refl _) _)
  go_enter Try.func9, Try.ntmps9
  go_wp2_with fail
  refine (HFI.out _ HB0.out).mono ?_
  rintro e w1 ⟨rfl, hb1⟩
  have O1 := Blk.thru0 HX0.out hb1
  have HB1 := Lib.hid (below_trans HB0.out hb1)
  clear hb1 HFI HX0 HB0
  have k0 := O1.cell 0
  have k1 := O1.cell 1
  have k2 := O1.cell 2
  have k3 := O1.cell 3
  have k4 := O1.cell 4
  have k5 := O1.cell 5
  have k6 := O1.cell 6
  have k7 := O1.cell 7
  have k8 := O1.cell 8
  have k9 := O1.cell 9
  simp only [List.getElem?_toArray, List.getElem?_cons_zero, List.getElem?_cons_succ] at k0 k1 k2 k3 k4 k5 k6 k7 k8 k9
  have z1 := O1.lt
  go_wp2
  exact bodyPost_ret (v := .tuple #[(.slice A n c), .int .i64 (1)]) (by simp [results, Try.results9, go_sem]) rfl ⟨_, rfl, .inl ⟨rfl, rfl, (HB1.out.alloc HB1.out.size _)⟩⟩
set_option maxRecDepth 100000 in
set_option maxHeartbeats 8000000 in
theorem w1b (w : World) (A : Option Addr) (n c : Nat) (L L' : List Mb) (er : Int) (m0 m1 m2 m3 m4 : Int) (m5 : Nat) (fk : Int) (fa : Nat) (nn : Int) (f0 f1 f2 f3 f4 : Int) (f5 : Nat) (HFI : Hid (∀ w', Below w.heap.size w w' → Calls Try.prog 12 #[.slice A n c, .int .i64 m0] w' fun e w'' => e = .returned (.tuple #[.agg #[.int .i64 f0, .int .i64 f1, .int .i64 f2, .int .i64 f3, .int .i64 f4, .int .u64 f5], .bool false]) ∧ Below w'.heap.size w' w''))  (h0 : (m0 == 0) = false) :
    Calls Try.prog 9 #[.slice A n c, .agg #[.int .i64 1, .int .i64 m0, .int .i64 m1, .int .i64 m2, .int .i64 m3, .int .i64 m4, .int .u64 m5, .int .i64 fk, .int .u64 fa, .int .i64 nn]] w (WaP (.slice A n c) L L 21 w) := by
  have HX0 := Lib.hid (Blk.new w 36 #[.int .i64 1, .int .i64 m0, .int .i64 m1, .int .i64 m2, .int .i64 m3, .int .i64 m4, .int .u64 m5, .int .i64 fk, .int .u64 fa, .int .i64 nn])
  have HB0 := Lib.hid (show Below w.heap.size w (w.alloc (.cells #[.int .i64 1, .int .i64 m0, .int .i64 m1, .int .i64 m2, .int .i64 m3, .int .i64 m4, .int .u64 m5, .int .i64 fk, .int .u64 fa, .int .i64 nn] 36)) from (Below.refl _ _).alloc (Nat.le_refl _) _)
  go_enter Try.func9, Try.ntmps9
  go_wp2_with fail
  refine (HFI.out _ HB0.out).mono ?_
  rintro e w1 ⟨rfl, hb1⟩
  have O1 := Blk.thru0 HX0.out hb1
  have HB1 := Lib.hid (below_trans HB0.out hb1)
  clear hb1 HFI HX0 HB0
  have k0 := O1.cell 0
  have k1 := O1.cell 1
  have k2 := O1.cell 2
  have k3 := O1.cell 3
  have k4 := O1.cell 4
  have k5 := O1.cell 5
  have k6 := O1.cell 6
  have k7 := O1.cell 7
  have k8 := O1.cell 8
  have k9 := O1.cell 9
  simp only [List.getElem?_toArray, List.getElem?_cons_zero, List.getElem?_cons_succ] at k0 k1 k2 k3 k4 k5 k6 k7 k8 k9
  have z1 := O1.lt
  go_wp2
  exact bodyPost_ret (v := .tuple #[(.slice A n c), .int .i64 (21)]) (by simp [results, Try.results9, go_sem]) rfl ⟨_, rfl, .inl ⟨rfl, rfl, (HB1.out.alloc HB1.out.size _)⟩⟩
set_option maxRecDepth 100000 in
set_option maxHeartbeats 8000000 in
theorem w1c (w : World) (A : Option Addr) (n c : Nat) (L L' : List Mb) (er : Int) (m0 m1 m2 m3 m4 : Int) (m5 : Nat) (fk : Int) (fa : Nat) (nn : Int) (f0 f1 f2 f3 f4 : Int) (f5 : Nat) (HFI : Hid (∀ w', Below w.heap.size w w' → Calls Try.prog 12 #[.slice A n c, .int .i64 m0] w' fun e w'' => e = .returned (.tuple #[.agg #[.int .i64 f0, .int .i64 f1, .int .i64 f2, .int .i64 f3, .int .i64 f4, .int .u64 f5], .bool true]) ∧ Below w'.heap.size w' w'')) (HWO : Hid (∀ w', Below w.heap.size w w' → Calls Try.prog 23 #[.slice A n c, .int .i64 m0] w' fun e w'' => ∃ v', e = .returned v' ∧ FE elM w' v' (woM L m0) w'')) (h0 : (m0 == 0) = false) :
    Calls Try.prog 9 #[.slice A n c, .agg #[.int .i64 1, .int .i64 m0, .int .i64 m1, .int .i64 m2, .int .i64 m3, .int .i64 m4, .int .u64 m5, .int .i64 fk, .int .u64 fa, .int .i64 nn]] w (WaP (.slice A n c) L (woM L m0) 0 w) := by
  have HX0 := Lib.hid (Blk.new w 36 #[.int .i64 1, .int .i64 m0, .int .i64 m1, .int .i64 m2, .int .i64 m3, .int .i64 m4, .int .u64 m5, .int .i64 fk, .int .u64 fa, .int .i64 nn])
  have HB0 := Lib.hid (show Below w.heap.size w (w.alloc (.cells #[.int .i64 1, .int .i64 m0, .int .i64 m1, .int .i64 m2, .int .i64 m3, .int .i64 m4, .int .u64 m5, .int .i64 fk, .int .u64 fa, .int .i64 nn] 36)) from (Below.refl _ _).alloc (Nat.le_refl _) _)
  go_enter Try.func9, Try.ntmps9
  go_wp2_with fail
  refine (HFI.out _ HB0.out).mono ?_
  rintro e w1 ⟨rfl, hb1⟩
  have O1 := Blk.thru0 HX0.out hb1
  have HB1 := Lib.hid (below_trans HB0.out hb1)
  clear hb1 HFI HX0 HB0
  have k0 := O1.cell 0
  have k1 := O1.cell 1
  have k2 := O1.cell 2
  have k3 := O1.cell 3
  have k4 := O1.cell 4
  have k5 := O1.cell 5
  have k6 := O1.cell 6
  have k7 := O1.cell 7
  have k8 := O1.cell 8
  have k9 := O1.cell 9
  simp only [List.getElem?_toArray, List.getElem?_cons_zero, List.getElem?_cons_succ] at k0 k1 k2 k3 k4 k5 k6 k7 k8 k9
  have z1 := O1.lt
  go_wp2_with (first | (go_at_call 23; refine (HWO.out _ (HB1.out.alloc HB1.out.size _)).mono ?_; rintro e w3 ⟨v3, rfl, hF⟩; have HF := Lib.hid (hF.up (HB1.out.alloc HB1.out.size _)); clear hF))
  exact bodyPost_ret (v := .tuple #[v3, .int .i64 (0)]) (by simp [results, Try.results9, go_sem]) rfl ⟨_, rfl, .inr HF.out⟩
set_option maxRecDepth 100000 in
set_option maxHeartbeats 8000000 in
theorem w2a (w : World) (A : Option Addr) (n c : Nat) (L L' : List Mb) (er : Int) (m0 m1 m2 m3 m4 : Int) (m5 : Nat) (fk : Int) (fa : Nat) (nn : Int) (f0 f1 f2 f3 f4 : Int) (f5 : Nat) (HFI : Hid (∀ w', Below w.heap.size w w' → Calls Try.prog 12 #[.slice A n c, .int .i64 m0] w' fun e w'' => e = .returned (.tuple #[.agg #[.int .i64 f0, .int .i64 f1, .int .i64 f2, .int .i64 f3, .int .i64 f4, .int .u64 f5], .bool false]) ∧ Below w'.heap.size w' w''))   :
    Calls Try.prog 9 #[.slice A n c, .agg #[.int .i64 2, .int .i64 m0, .int .i64 m1, .int .i64 m2, .int .i64 m3, .int .i64 m4, .int .u64 m5, .int .i64 fk, .int .u64 fa, .int .i64 nn]] w (WaP (.slice A n c) L L 21 w) := by
  have HX0 := Lib.hid (Blk.new w 36 #[.int .i64 2, .int .i64 m0, .int .i64 m1, .int .i64 m2, .int .i64 m3, .int .i64 m4, .int .u64 m5, .int .i64 fk, .int .u64 fa, .int .i64 nn])
  have HB0 := Lib.hid (show Below w.heap.size w (w.alloc (.cells #[.int .i64 2, .int .i64 m0, .int .i64 m1, .int .i64 m2, .int .i64 m3, .int .i64 m4, .int .u64 m5, .int .i64 fk, .int .u64 fa, .int .i64 nn] 36)) from (Below.refl _ _).alloc (Nat.le_refl _) _)
  go_enter Try.func9, Try.ntmps9
  go_wp2_with fail
  refine (HFI.out _ HB0.out).mono ?_
  rintro e w1 ⟨rfl, hb1⟩
  have O1 := Blk.thru0 HX0.out hb1
  have HB1 := Lib.hid (below_trans HB0.out hb1)
  clear hb1 HFI HX0 HB0
  have k0 := O1.cell 0
  have k1 := O1.cell 1
  have k2 := O1.cell 2
  have k3 := O1.cell 3
  have k4 := O1.cell 4
  have k5 := O1.cell 5
  have k6 := O1.cell 6
  have k7 := O1.cell 7
  have k8 := O1.cell 8
  have k9 := O1.cell 9
  simp only [List.getElem?_toArray, List.getElem?_cons_zero, List.getElem?_cons_succ] at k0 k1 k2 k3 k4 k5 k6 k7 k8 k9
  have z1 := O1.lt
  go_wp2
  exact bodyPost_ret (v := .tuple #[(.slice A n c), .int .i64 (21)]) (by simp [results, Try.results9, go_sem]) rfl ⟨_, rfl, .inl ⟨rfl, rfl, (HB1.out.alloc HB1.out.size _)⟩⟩
set_option maxRecDepth 100000 in
set_option maxHeartbeats 8000000 in
theorem w2b (w : World) (A : Option Addr) (n c : Nat) (L L' : List Mb) (er : Int) (m0 m1 m2 m3 m4 : Int) (m5 : Nat) (fk : Int) (fa : Nat) (nn : Int) (f0 f1 f2 f3 f4 : Int) (f5 : Nat) (HFI : Hid (∀ w', Below w.heap.size w w' → Calls Try.prog 12 #[.slice A n c, .int .i64 m0] w' fun e w'' => e = .returned (.tuple #[.agg #[.int .i64 f0, .int .i64 f1, .int .i64 f2, .int .i64 f3, .int .i64 f4, .int .u64 f5], .bool true]) ∧ Below w'.heap.size w' w''))  (h0 : (m0 == 0) = true) :
    Calls Try.prog 9 #[.slice A n c, .agg #[.int .i64 2, .int .i64 m0, .int .i64 m1, .int .i64 m2, .int .i64 m3, .int .i64 m4, .int .u64 m5, .int .i64 fk, .int .u64 fa, .int .i64 nn]] w (WaP (.slice A n c) L L 1 w) := by
  have HX0 := Lib.hid (Blk.new w 36 #[.int .i64 2, .int .i64 m0, .int .i64 m1, .int .i64 m2, .int .i64 m3, .int .i64 m4, .int .u64 m5, .int .i64 fk, .int .u64 fa, .int .i64 nn])
  have HB0 := Lib.hid (show Below w.heap.size w (w.alloc (.cells #[.int .i64 2, .int .i64 m0, .int .i64 m1, .int .i64 m2, .int .i64 m3, .int .i64 m4, .int .u64 m5, .int .i64 fk, .int .u64 fa, .int .i64 nn] 36)) from (Below.refl _ _).alloc (Nat.le_refl _) _)
  go_enter Try.func9, Try.ntmps9
  go_wp2_with fail
  refine (HFI.out _ HB0.out).mono ?_
  rintro e w1 ⟨rfl, hb1⟩
  have O1 := Blk.thru0 HX0.out hb1
  have HB1 := Lib.hid (below_trans HB0.out hb1)
  clear hb1 HFI HX0 HB0
  have k0 := O1.cell 0
  have k1 := O1.cell 1
  have k2 := O1.cell 2
  have k3 := O1.cell 3
  have k4 := O1.cell 4
  have k5 := O1.cell 5
  have k6 := O1.cell 6
  have k7 := O1.cell 7
  have k8 := O1.cell 8
  have k9 := O1.cell 9
  simp only [List.getElem?_toArray, List.getElem?_cons_zero, List.getElem?_cons_succ] at k0 k1 k2 k3 k4 k5 k6 k7 k8 k9
  have z1 := O1.lt
  go_wp2
  exact bodyPost_ret (v := .tuple #[(.slice A n c), .int .i64 (1)]) (by simp [results, Try.results9, go_sem]) rfl ⟨_, rfl, .inl ⟨rfl, rfl, (HB1.out.alloc HB1.out.size _)⟩⟩
set_option maxRecDepth 100000 in
set_option maxHeartbeats 8000000 in
theorem w2c (w : World) (A : Option Addr) (n c : Nat) (L L' : List Mb) (er : Int) (m0 m1 m2 m3 m4 : Int) (m5 : Nat) (fk : Int) (fa : Nat) (nn : Int) (f0 f1 f2 f3 f4 : Int) (f5 : Nat) (HFI : Hid (∀ w', Below w.heap.size w w' → Calls Try.prog 12 #[.slice A n c, .int .i64 m0] w' fun e w'' => e = .returned (.tuple #[.agg #[.int .i64 f0, .int .i64 f1, .int .i64 f2, .int .i64 f3, .int .i64 f4, .int .u64 f5], .bool true]) ∧ Below w'.heap.size w' w''))  (h0 : (m0 == 0) = false) (h1 : fk < 1) :
    Calls Try.prog 9 #[.slice A n c, .agg #[.int .i64 2, .int .i64 m0, .int .i64 m1, .int .i64 m2, .int .i64 m3, .int .i64 m4, .int .u64 m5, .int .i64 fk, .int .u64 fa, .int .i64 nn]] w (WaP (.slice A n c) L L 1 w) := by
  have HX0 := Lib.hid (Blk.new w 36 #[.int .i64 2, .int .i64 m0, .int .i64 m1, .int .i64 m2, .int .i64 m3, .int .i64 m4, .int .u64 m5, .int .i64 fk, .int .u64 fa, .int .i64 nn])
  have HB0 := Lib.hid (show Below w.heap.size w (w.alloc (.cells #[.int .i64 2, .int .i64 m0, .int .i64 m1, .int .i64 m2, .int .i64 m3, .int .i64 m4, .int .u64 m5, .int .i64 fk, .int .u64 fa, .int .i64 nn] 36)) from (Below.refl _ _).alloc (Nat.le_refl _) _)
  go_enter Try.func9, Try.ntmps9
  go_wp2_with fail
  refine (HFI.out _ HB0.out).mono ?_
  rintro e w1 ⟨rfl, hb1⟩
  have O1 := Blk.thru0 HX0.out hb1
  have HB1 := Lib.hid (below_trans HB0.out hb1)
  clear hb1 HFI HX0 HB0
  have k0 := O1.cell 0
  have k1 := O1.cell 1
  have k2 := O1.cell 2
  have k3 := O1.cell 3
  have k4 := O1.cell 4
  have k5 := O1.cell 5
  have k6 := O1.cell 6
  have k7 := O1.cell 7
  have k8 := O1.cell 8
  have k9 := O1.cell 9
  simp only [List.getElem?_toArray, List.getElem?_cons_zero, List.getElem?_cons_succ] at k0 k1 k2 k3 k4 k5 k6 k7 k8 k9
  have z1 := O1.lt
  go_wp2
  exact bodyPost_ret (v := .tuple #[(.slice A n c), .int .i64 (1)]) (by simp [results, Try.results9, go_sem]) rfl ⟨_, rfl, .inl ⟨rfl, rfl, (HB1.out.alloc HB1.out.size _)⟩⟩
set_option maxRecDepth 100000 in
set_option maxHeartbeats 8000000 in
theorem w2d (w : World) (A : Option Addr) (n c : Nat) (L L' : List Mb) (er : Int) (m0 m1 m2 m3 m4 : Int) (m5 : Nat) (fk : Int) (fa : Nat) (nn : Int) (f0 f1 f2 f3 f4 : Int) (f5 : Nat) (HFI : Hid (∀ w', Below w.heap.size w w' → Calls Try.prog 12 #[.slice A n c, .int .i64 m0] w' fun e w'' => e = .returned (.tuple #[.agg #[.int .i64 f0, .int .i64 f1, .int .i64 f2, .int .i64 f3, .int .i64 f4, .int .u64 f5], .bool true]) ∧ Below w'.heap.size w' w''))  (h0 : (m0 == 0) = false) (h1 : ¬ fk < 1) (h2 : 65535 < fk) :
    Calls Try.prog 9 #[.slice A n c, .agg #[.int .i64 2, .int .i64 m0, .int .i64 m1, .int .i64 m2, .int .i64 m3, .int .i64 m4, .int .u64 m5, .int .i64 fk, .int .u64 fa, .int .i64 nn]] w (WaP (.slice A n c) L L 1 w) := by
  have HX0 := Lib.hid (Blk.new w 36 #[.int .i64 2, .int .i64 m0, .int .i64 m1, .int .i64 m2, .int .i64 m3, .int .i64 m4, .int .u64 m5, .int .i64 fk, .int .u64 fa, .int .i64 nn])
  have HB0 := Lib.hid (show Below w.heap.size w (w.alloc (.cells #[.int .i64 2, .int .i64 m0, .int .i64 m1, .int .i64 m2, .int .i64 m3, .int .i64 m4, .int .u64 m5, .int .i64 fk, .int .u64 fa, .int .i64 nn] 36)) from (Below.refl _ _).alloc (Nat.le_refl _) _)
  go_enter Try.func9, Try.ntmps9
  go_wp2_with fail
  refine (HFI.out _ HB0.out).mono ?_
  rintro e w1 ⟨rfl, hb1⟩
  have O1 := Blk.thru0 HX0.out hb1
  have HB1 := Lib.hid (below_trans HB0.out hb1)
  clear hb1 HFI HX0 HB0
  have k0 := O1.cell 0
  have k1 := O1.cell 1
  have k2 := O1.cell 2
  have k3 := O1.cell 3
  have k4 := O1.cell 4
  have k5 := O1.cell 5
  have k6 := O1.cell 6
  have k7 := O1.cell 7
  have k8 := O1.cell 8
  have k9 := O1.cell 9
  simp only [List.getElem?_toArray, List.getElem?_cons_zero, List.getElem?_cons_succ] at k0 k1 k2 k3 k4 k5 k6 k7 k8 k9
  have z1 := O1.lt
  go_wp2
  exact bodyPost_ret (v := .tuple #[(.slice A n c), .int .i64 (1)]) (by simp [results, Try.results9, go_sem]) rfl ⟨_, rfl, .inl ⟨rfl, rfl, (HB1.out.alloc HB1.out.size _)⟩⟩
set_option maxRecDepth 100000 in
set_option maxHeartbeats 8000000 in
theorem w2e (w : World) (A : Option Addr) (n c : Nat) (L L' : List Mb) (er : Int) (m0 m1 m2 m3 m4 : Int) (m5 : Nat) (fk : Int) (fa : Nat) (nn : Int) (f0 f1 f2 f3 f4 : Int) (f5 : Nat) (HFI : Hid (∀ w', Below w.heap.size w w' → Calls Try.prog 12 #[.slice A n c, .int .i64 m0] w' fun e w'' => e = .returned (.tuple #[.agg #[.int .i64 f0, .int .i64 f1, .int .i64 f2, .int .i64 f3, .int .i64 f4, .int .u64 f5], .bool true]) ∧ Below w'.heap.size w' w'')) (HPU : Hid (∀ m : Mb, ∀ w', Below w.heap.size w w' → Calls Try.prog 22 #[.slice A n c, m.V] w' fun e w'' => ∃ v', e = .returned v' ∧ FE elM w' v' (puM L m) w'')) (h0 : (m0 == 0) = false) (h1 : ¬ fk < 1) (h2 : ¬ 65535 < fk) :
    Calls Try.prog 9 #[.slice A n c, .agg #[.int .i64 2, .int .i64 m0, .int .i64 m1, .int .i64 m2, .int .i64 m3, .int .i64 m4, .int .u64 m5, .int .i64 fk, .int .u64 fa, .int .i64 nn]] w (WaP (.slice A n c) L (puM L ⟨f0, f1, f2, f3, fk, fa⟩) 0 w) := by
  have HX0 := Lib.hid (Blk.new w 36 #[.int .i64 2, .int .i64 m0, .int .i64 m1, .int .i64 m2, .int .i64 m3, .int .i64 m4, .int .u64 m5, .int .i64 fk, .int .u64 fa, .int .i64 nn])
  have HB0 := Lib.hid (show Below w.heap.size w (w.alloc (.cells #[.int .i64 2, .int .i64 m0, .int .i64 m1, .int .i64 m2, .int .i64 m3, .int .i64 m4, .int .u64 m5, .int .i64 fk, .int .u64 fa, .int .i64 nn] 36)) from (Below.refl _ _).alloc (Nat.le_refl _) _)
  go_enter Try.func9, Try.ntmps9
  go_wp2_with fail
  refine (HFI.out _ HB0.out).mono ?_
  rintro e w1 ⟨rfl, hb1⟩
  have O1 := Blk.thru0 HX0.out hb1
  have HB1 := Lib.hid (below_trans HB0.out hb1)
  clear hb1 HFI HX0 HB0
  have k0 := O1.cell 0
  have k1 := O1.cell 1
  have k2 := O1.cell 2
  have k3 := O1.cell 3
  have k4 := O1.cell 4
  have k5 := O1.cell 5
  have k6 := O1.cell 6
  have k7 := O1.cell 7
  have k8 := O1.cell 8
  have k9 := O1.cell 9
  simp only [List.getElem?_toArray, List.getElem?_cons_zero, List.getElem?_cons_succ] at k0 k1 k2 k3 k4 k5 k6 k7 k8 k9
  have z1 := O1.lt
  go_wp2_with (first | (go_at_call 22; refine (HPU.out ⟨f0, f1, f2, f3, fk, fa⟩ _ (HB1.out.alloc HB1.out.size _)).mono ?_; rintro e w3 ⟨v3, rfl, hF⟩; have HF := Lib.hid (hF.up (HB1.out.alloc HB1.out.size _)); clear hF))
  exact bodyPost_ret (v := .tuple #[v3, .int .i64 (0)]) (by simp [results, Try.results9, go_sem]) rfl ⟨_, rfl, .inr HF.out⟩
set_option maxRecDepth 100000 in
set_option maxHeartbeats 8000000 in
theorem w3a (w : World) (A : Option Addr) (n c : Nat) (L L' : List Mb) (er : Int) (m0 m1 m2 m3 m4 : Int) (m5 : Nat) (fk : Int) (fa : Nat) (nn : Int) (f0 f1 f2 f3 f4 : Int) (f5 : Nat) (HFI : Hid (∀ w', Below w.heap.size w w' → Calls Try.prog 12 #[.slice A n c, .int .i64 m0] w' fun e w'' => e = .returned (.tuple #[.agg #[.int .i64 f0, .int .i64 f1, .int .i64 f2, .int .i64 f3, .int .i64 f4, .int .u64 f5], .bool false]) ∧ Below w'.heap.size w' w''))   :
    Calls Try.prog 9 #[.slice A n c, .agg #[.int .i64 3, .int .i64 m0, .int .i64 m1, .int .i64 m2, .int .i64 m3, .int .i64 m4, .int .u64 m5, .int .i64 fk, .int .u64 fa, .int .i64 nn]] w (WaP (.slice A n c) L L 21 w) := by
  have HX0 := Lib.hid (Blk.new w 36 #[.int .i64 3, .int .i64 m0, .int .i64 m1, .int .i64 m2, .int .i64 m3, .int .i64 m4, .int .u64 m5, .int .i64 fk, .int .u64 fa, .int .i64 nn])
  have HB0 := Lib.hid (show Below w.heap.size w (w.alloc (.cells #[.int .i64 3, .int .i64 m0, .int .i64 m1, .int .i64 m2, .int .i64 m3, .int .i64 m4, .int .u64 m5, .int .i64 fk, .int .u64 fa, .int .i64 nn] 36)) from (Below.refl _ _).alloc (Nat.le_refl _) _)
  go_enter Try.func9, Try.ntmps9
  go_wp2_with fail
  refine (HFI.out _ HB0.out).mono ?_
  rintro e w1 ⟨rfl, hb1⟩
  have O1 := Blk.thru0 HX0.out hb1
  have HB1 := Lib.hid (below_trans HB0.out hb1)
  clear hb1 HFI HX0 HB0
  have k0 := O1.cell 0
  have k1 := O1.cell 1
  have k2 := O1.cell 2
  have k3 := O1.cell 3
  have k4 := O1.cell 4
  have k5 := O1.cell 5
  have k6 := O1.cell 6
  have k7 := O1.cell 7
  have k8 := O1.cell 8
  have k9 := O1.cell 9
  simp only [List.getElem?_toArray, List.getElem?_cons_zero, List.getElem?_cons_succ] at k0 k1 k2 k3 k4 k5 k6 k7 k8 k9
  have z1 := O1.lt
  go_wp2
  exact bodyPost_ret (v := .tuple #[(.slice A n c), .int .i64 (21)]) (by simp [results, Try.results9, go_sem]) rfl ⟨_, rfl, .inl ⟨rfl, rfl, (HB1.out.alloc HB1.out.size _)⟩⟩
set_option maxRecDepth 100000 in
set_option maxHeartbeats 8000000 in
theorem w3b (w : World) (A : Option Addr) (n c : Nat) (L L' : List Mb) (er : Int) (m0 m1 m2 m3 m4 : Int) (m5 : Nat) (fk : Int) (fa : Nat) (nn : Int) (f0 f1 f2 f3 f4 : Int) (f5 : Nat) (HFI : Hid (∀ w', Below w.heap.size w w' → Calls Try.prog 12 #[.slice A n c, .int .i64 m0] w' fun e w'' => e = .returned (.tuple #[.agg #[.int .i64 f0, .int .i64 f1, .int .i64 f2, .int .i64 f3, .int .i64 f4, .int .u64 f5], .bool true]) ∧ Below w'.heap.size w' w''))  (h0 : (m0 == 0) = true) :
    Calls Try.prog 9 #[.slice A n c, .agg #[.int .i64 3, .int .i64 m0, .int .i64 m1, .int .i64 m2, .int .i64 m3, .int .i64 m4, .int .u64 m5, .int .i64 fk, .int .u64 fa, .int .i64 nn]] w (WaP (.slice A n c) L L 1 w) := by
  have HX0 := Lib.hid (Blk.new w 36 #[.int .i64 3, .int .i64 m0, .int .i64 m1, .int .i64 m2, .int .i64 m3, .int .i64 m4, .int .u64 m5, .int .i64 fk, .int .u64 fa, .int .i64 nn])
  have HB0 := Lib.hid (show Below w.heap.size w (w.alloc (.cells #[.int .i64 3, .int .i64 m0, .int .i64 m1, .int .i64 m2, .int .i64 m3, .int .i64 m4, .int .u64 m5, .int .i64 fk, .int .u64 fa, .int .i64 nn] 36)) from (Below.refl _ _).alloc (Nat.le_refl _) _)
  go_enter Try.func9, Try.ntmps9
  go_wp2_with fail
  refine (HFI.out _ HB0.out).mono ?_
  rintro e w1 ⟨rfl, hb1⟩
  have O1 := Blk.thru0 HX0.out hb1
  have HB1 := Lib.hid (below_trans HB0.out hb1)
  clear hb1 HFI HX0 HB0
  have k0 := O1.cell 0
  have k1 := O1.cell 1
  have k2 := O1.cell 2
  have k3 := O1.cell 3
  have k4 := O1.cell 4
  have k5 := O1.cell 5
  have k6 := O1.cell 6
  have k7 := O1.cell 7
  have k8 := O1.cell 8
  have k9 := O1.cell 9
  simp only [List.getElem?_toArray, List.getElem?_cons_zero, List.getElem?_cons_succ] at k0 k1 k2 k3 k4 k5 k6 k7 k8 k9
  have z1 := O1.lt
  go_wp2
  exact bodyPost_ret (v := .tuple #[(.slice A n c), .int .i64 (1)]) (by simp [results, Try.results9, go_sem]) rfl ⟨_, rfl, .inl ⟨rfl, rfl, (HB1.out.alloc HB1.out.size _)⟩⟩
set_option maxRecDepth 100000 in
set_option maxHeartbeats 8000000 in
theorem w3c (w : World) (A : Option Addr) (n c : Nat) (L L' : List Mb) (er : Int) (m0 m1 m2 m3 m4 : Int) (m5 : Nat) (fk : Int) (fa : Nat) (nn : Int) (f0 f1 f2 f3 f4 : Int) (f5 : Nat) (HFI : Hid (∀ w', Below w.heap.size w w' → Calls Try.prog 12 #[.slice A n c, .int .i64 m0] w' fun e w'' => e = .returned (.tuple #[.agg #[.int .i64 f0, .int .i64 f1, .int .i64 f2, .int .i64 f3, .int .i64 f4, .int .u64 f5], .bool true]) ∧ Below w'.heap.size w' w''))  (h0 : (m0 == 0) = false) (h1 : nn < 0) :
    Calls Try.prog 9 #[.slice A n c, .agg #[.int .i64 3, .int .i64 m0, .int .i64 m1, .int .i64 m2, .int .i64 m3, .int .i64 m4, .int .u64 m5, .int .i64 fk, .int .u64 fa, .int .i64 nn]] w (WaP (.slice A n c) L L 1 w) := by
  have HX0 := Lib.hid (Blk.new w 36 #[.int .i64 3, .int .i64 m0, .int .i64 m1, .int .i64 m2, .int .i64 m3, .int .i64 m4, .int .u64 m5, .int .i64 fk, .int .u64 fa, .int .i64 nn])
  have HB0 := Lib.hid (show Below w.heap.size w (w.alloc (.cells #[.int .i64 3, .int .i64 m0, .int .i64 m1, .int .i64 m2, .int .i64 m3, .int .i64 m4, .int .u64 m5, .int .i64 fk, .int .u64 fa, .int .i64 nn] 36)) from (Below.refl _ _).alloc (Nat.le_refl _) _)
  go_enter Try.func9, Try.ntmps9
  go_wp2_with fail
  refine (HFI.out _ HB0.out).mono ?_
  rintro e w1 ⟨rfl, hb1⟩
  have O1 := Blk.thru0 HX0.out hb1
  have HB1 := Lib.hid (below_trans HB0.out hb1)
  clear hb1 HFI HX0 HB0
  have k0 := O1.cell 0
  have k1 := O1.cell 1
  have k2 := O1.cell 2
  have k3 := O1.cell 3
  have k4 := O1.cell 4
  have k5 := O1.cell 5
  have k6 := O1.cell 6
  have k7 := O1.cell 7
  have k8 := O1.cell 8
  have k9 := O1.cell 9
  simp only [List.getElem?_toArray, List.getElem?_cons_zero, List.getElem?_cons_succ] at k0 k1 k2 k3 k4 k5 k6 k7 k8 k9
  have z1 := O1.lt
  go_wp2
  exact bodyPost_ret (v := .tuple #[(.slice A n c), .int .i64 (1)]) (by simp [results, Try.results9, go_sem]) rfl ⟨_, rfl, .inl ⟨rfl, rfl, (HB1.out.alloc HB1.out.size _)⟩⟩
set_option maxRecDepth 100000 in
set_option maxHeartbeats 8000000 in
theorem w3d (w : World) (A : Option Addr) (n c : Nat) (L L' : List Mb) (er : Int) (m0 m1 m2 m3 m4 : Int) (m5 : Nat) (fk : Int) (fa : Nat) (nn : Int) (f0 f1 f2 f3 f4 : Int) (f5 : Nat) (HFI : Hid (∀ w', Below w.heap.size w w' → Calls Try.prog 12 #[.slice A n c, .int .i64 m0] w' fun e w'' => e = .returned (.tuple #[.agg #[.int .i64 f0, .int .i64 f1, .int .i64 f2, .int .i64 f3, .int .i64 f4, .int .u64 f5], .bool true]) ∧ Below w'.heap.size w' w''))  (h0 : (m0 == 0) = false) (h1 : ¬ nn < 0) (h2 : 65535 < nn) :
    Calls Try.prog 9 #[.slice A n c, .agg #[.int .i64 3, .int .i64 m0, .int .i64 m1, .int .i64 m2, .int .i64 m3, .int .i64 m4, .int .u64 m5, .int .i64 fk, .int .u64 fa, .int .i64 nn]] w (WaP (.slice A n c) L L 1 w) := by
  have HX0 := Lib.hid (Blk.new w 36 #[.int .i64 3, .int .i64 m0, .int .i64 m1, .int .i64 m2, .int .i64 m3, .int .i64 m4, .int .u64 m5, .int .i64 fk, .int .u64 fa, .int .i64 nn])
  have HB0 := Lib.hid (show Below w.heap.size w (w.alloc (.cells #[.int .i64 3, .int .i64 m0, .int .i64 m1, .int .i64 m2, .int .i64 m3, .int .i64 m4, .int .u64 m5, .int .i64 fk, .int .u64 fa, .int .i64 nn] 36)) from (Below.refl _ _).alloc (Nat.le_refl _) _)
  go_enter Try.func9, Try.ntmps9
  go_wp2_with fail
  refine (HFI.out _ HB0.out).mono ?_
  rintro e w1 ⟨rfl, hb1⟩
  have O1 := Blk.thru0 HX0.out hb1
  have HB1 := Lib.hid (below_trans HB0.out hb1)
  clear hb1 HFI HX0 HB0
  have k0 := O1.cell 0
  have k1 := O1.cell 1
  have k2 := O1.cell 2
  have k3 := O1.cell 3
  have k4 := O1.cell 4
  have k5 := O1.cell 5
  have k6 := O1.cell 6
  have k7 := O1.cell 7
  have k8 := O1.cell 8
  have k9 := O1.cell 9
  simp only [List.getElem?_toArray, List.getElem?_cons_zero, List.getElem?_cons_succ] at k0 k1 k2 k3 k4 k5 k6 k7 k8 k9
  have z1 := O1.lt
  go_wp2
  exact bodyPost_ret (v := .tuple #[(.slice A n c), .int .i64 (1)]) (by simp [results, Try.results9, go_sem]) rfl ⟨_, rfl, .inl ⟨rfl, rfl, (HB1.out.alloc HB1.out.size _)⟩⟩
set_option maxRecDepth 100000 in
set_option maxHeartbeats 8000000 in
theorem w3e (w : World) (A : Option Addr) (n c : Nat) (L L' : List Mb) (er : Int) (m0 m1 m2 m3 m4 : Int) (m5 : Nat) (fk : Int) (fa : Nat) (nn : Int) (f0 f1 f2 f3 f4 : Int) (f5 : Nat) (HFI : Hid (∀ w', Below w.heap.size w w' → Calls Try.prog 12 #[.slice A n c, .int .i64 m0] w' fun e w'' => e = .returned (.tuple #[.agg #[.int .i64 f0, .int .i64 f1, .int .i64 f2, .int .i64 f3, .int .i64 f4, .int .u64 f5], .bool true]) ∧ Below w'.heap.size w' w'')) (HPU : Hid (∀ m : Mb, ∀ w', Below w.heap.size w w' → Calls Try.prog 22 #[.slice A n c, m.V] w' fun e w'' => ∃ v', e = .returned v' ∧ FE elM w' v' (puM L m) w'')) (h0 : (m0 == 0) = false) (h1 : ¬ nn < 0) (h2 : ¬ 65535 < nn) :
    Calls Try.prog 9 #[.slice A n c, .agg #[.int .i64 3, .int .i64 m0, .int .i64 m1, .int .i64 m2, .int .i64 m3, .int .i64 m4, .int .u64 m5, .int .i64 fk, .int .u64 fa, .int .i64 nn]] w (WaP (.slice A n c) L (puM L ⟨f0, f1, f2, nn, f4, f5⟩) 0 w) := by
  have HX0 := Lib.hid (Blk.new w 36 #[.int .i64 3, .int .i64 m0, .int .i64 m1, .int .i64 m2, .int .i64 m3, .int .i64 m4, .int .u64 m5, .int .i64 fk, .int .u64 fa, .int .i64 nn])
  have HB0 := Lib.hid (show Below w.heap.size w (w.alloc (.cells #[.int .i64 3, .int .i64 m0, .int .i64 m1, .int .i64 m2, .int .i64 m3, .int .i64 m4, .int .u64 m5, .int .i64 fk, .int .u64 fa, .int .i64 nn] 36)) from (Below.refl _ _).alloc (Nat.le_refl _) _)
  go_enter Try.func9, Try.ntmps9
  go_wp2_with fail
  refine (HFI.out _ HB0.out).mono ?_
  rintro e w1 ⟨rfl, hb1⟩
  have O1 := Blk.thru0 HX0.out hb1
  have HB1 := Lib.hid (below_trans HB0.out hb1)
  clear hb1 HFI HX0 HB0
  have k0 := O1.cell 0
  have k1 := O1.cell 1
  have k2 := O1.cell 2
  have k3 := O1.cell 3
  have k4 := O1.cell 4
  have k5 := O1.cell 5
  have k6 := O1.cell 6
  have k7 := O1.cell 7
  have k8 := O1.cell 8
  have k9 := O1.cell 9
  simp only [List.getElem?_toArray, List.getElem?_cons_zero, List.getElem?_cons_succ] at k0 k1 k2 k3 k4 k5 k6 k7 k8 k9
  have z1 := O1.lt
  go_wp2_with (first | (go_at_call 22; refine (HPU.out ⟨f0, f1, f2, nn, f4, f5⟩ _ (HB1.out.alloc HB1.out.size _)).mono ?_; rintro e w3 ⟨v3, rfl, hF⟩; have HF := Lib.hid (hF.up (HB1.out.alloc HB1.out.size _)); clear hF))
  exact bodyPost_ret (v := .tuple #[v3, .int .i64 (0)]) (by simp [results, Try.results9, go_sem]) rfl ⟨_, rfl, .inr HF.out⟩
set_option maxRecDepth 100000 in
set_option maxHeartbeats 8000000 in
theorem w4a (w : World) (A : Option Addr) (n c : Nat) (L L' : List Mb) (er : Int) (kd : Int) (m0 m1 m2 m3 m4 : Int) (m5 : Nat) (fk : Int) (fa : Nat) (nn : Int) (f0 f1 f2 f3 f4 : Int) (f5 : Nat) (HFI : Hid (∀ w', Below w.heap.size w w' → Calls Try.prog 12 #[.slice A n c, .int .i64 m0] w' fun e w'' => e = .returned (.tuple #[.agg #[.int .i64 f0, .int .i64 f1, .int .i64 f2, .int .i64 f3, .int .i64 f4, .int .u64 f5], .bool false]) ∧ Below w'.heap.size w' w'')) (HSP : Hid (∀ w', Below w.heap.size w w' → Calls Try.prog 24 #[.slice A n c, .int .i64 m0] w' (WaP (.slice A n c) L L' er w'))) (h0 : (kd == 0) = false) (h1 : (kd == 1) = false) (h2 : (kd == 2) = false) (h3 : (kd == 3) = false) :
    Calls Try.prog 9 #[.slice A n c, .agg #[.int .i64 kd, .int .i64 m0, .int .i64 m1, .int .i64 m2, .int .i64 m3, .int .i64 m4, .int .u64 m5, .int .i64 fk, .int .u64 fa, .int .i64 nn]] w (WaP (.slice A n c) L L' er w) := by
  have HX0 := Lib.hid (Blk.new w 36 #[.int .i64 kd, .int .i64 m0, .int .i64 m1, .int .i64 m2, .int .i64 m3, .int .i64 m4, .int .u64 m5, .int .i64 fk, .int .u64 fa, .int .i64 nn])
  have HB0 := Lib.hid (show Below w.heap.size w (w.alloc (.cells #[.int .i64 kd, .int .i64 m0, .int .i64 m1, .int .i64 m2, .int .i64 m3, .int .i64 m4, .int .u64 m5, .int .i64 fk, .int .u64 fa, .int .i64 nn] 36)) from (Below.refl _ _).alloc (Nat.le_refl _) _)
  go_enter Try.func9, Try.ntmps9
  go_wp2_with fail
  refine (HFI.out _ HB0.out).mono ?_
  rintro e w1 ⟨rfl, hb1⟩
  have O1 := Blk.thru0 HX0.out hb1
  have HB1 := Lib.hid (below_trans HB0.out hb1)
  clear hb1 HFI HX0 HB0
  have k0 := O1.cell 0
  have k1 := O1.cell 1
  have k2 := O1.cell 2
  have k3 := O1.cell 3
  have k4 := O1.cell 4
  have k5 := O1.cell 5
  have k6 := O1.cell 6
  have k7 := O1.cell 7
  have k8 := O1.cell 8
  have k9 := O1.cell 9
  simp only [List.getElem?_toArray, List.getElem?_cons_zero, List.getElem?_cons_succ] at k0 k1 k2 k3 k4 k5 k6 k7 k8 k9
  have z1 := O1.lt
  go_wp2_with (first | (go_at_call 24; refine (HSP.out _ (HB1.out.alloc HB1.out.size _)).mono ?_; rintro e w3 ⟨v3, rfl, hP⟩; have HP4 := Lib.hid (WaP.base (HB1.out.alloc HB1.out.size _) hP); clear hP))
  exact bodyPost_ret (v := .tuple #[v3, .int .i64 (er)]) (by simp [results, Try.results9, go_sem]) rfl ⟨_, rfl, HP4.out⟩
set_option maxRecDepth 100000 in
set_option maxHeartbeats 8000000 in
theorem w4b (w : World) (A : Option Addr) (n c : Nat) (L L' : List Mb) (er : Int) (kd : Int) (m0 m1 m2 m3 m4 : Int) (m5 : Nat) (fk : Int) (fa : Nat) (nn : Int) (f0 f1 f2 f3 f4 : Int) (f5 : Nat) (HFI : Hid (∀ w', Below w.heap.size w w' → Calls Try.prog 12 #[.slice A n c, .int .i64 m0] w' fun e w'' => e = .returned (.tuple #[.agg #[.int .i64 f0, .int .i64 f1, .int .i64 f2, .int .i64 f3, .int .i64 f4, .int .u64 f5], .bool true]) ∧ Below w'.heap.size w' w'')) (HSP : Hid (∀ w', Below w.heap.size w w' → Calls Try.prog 24 #[.slice A n c, .int .i64 m0] w' (WaP (.slice A n c) L L' er w'))) (h0 : (kd == 0) = false) (h1 : (kd == 1) = false) (h2 : (kd == 2) = false) (h3 : (kd == 3) = false) :
    Calls Try.prog 9 #[.slice A n c, .agg #[.int .i64 kd, .int .i64 m0, .int .i64 m1, .int .i64 m2, .int .i64 m3, .int .i64 m4, .int .u64 m5, .int .i64 fk, .int .u64 fa, .int .i64 nn]] w (WaP (.slice A n c) L L' er w) := by
  have HX0 := Lib.hid (Blk.new w 36 #[.int .i64 kd, .int .i64 m0, .int .i64 m1, .int .i64 m2, .int .i64 m3, .int .i64 m4, .int .u64 m5, .int .i64 fk, .int .u64 fa, .int .i64 nn])
  have HB0 := Lib.hid (show Below w.heap.size w (w.alloc (.cells #[.int .i64 kd, .int .i64 m0, .int .i64 m1, .int .i64 m2, .int .i64 m3, .int .i64 m4, .int .u64 m5, .int .i64 fk, .int .u64 fa, .int .i64 nn] 36)) from (Below.refl _ _).alloc (Nat.le_refl _) _)
  go_enter Try.func9, Try.ntmps9
  go_wp2_with fail
  refine (HFI.out _ HB0.out).mono ?_
  rintro e w1 ⟨rfl, hb1⟩
  have O1 := Blk.thru0 HX0.out hb1
  have HB1 := Lib.hid (below_trans HB0.out hb1)
  clear hb1 HFI HX0 HB0
  have k0 := O1.cell 0
  have k1 := O1.cell 1
  have k2 := O1.cell 2
  have k3 := O1.cell 3
  have k4 := O1.cell 4
  have k5 := O1.cell 5
  have k6 := O1.cell 6
  have k7 := O1.cell 7
  have k8 := O1.cell 8
  have k9 := O1.cell 9
  simp only [List.getElem?_toArray, List.getElem?_cons_zero, List.getElem?_cons_succ] at k0 k1 k2 k3 k4 k5 k6 k7 k8 k9
  have z1 := O1.lt
  go_wp2_with (first | (go_at_call 24; refine (HSP.out _ (HB1.out.alloc HB1.out.size _)).mono ?_; rintro e w3 ⟨v3, rfl, hP⟩; have HP4 := Lib.hid (WaP.base (HB1.out.alloc HB1.out.size _) hP); clear hP))
  exact bodyPost_ret (v := .tuple #[v3, .int .i64 (er)]) (by simp [results, Try.results9, go_sem]) rfl ⟨_, rfl, HP4.out⟩
end Go.Proofs.Ytolbjlphpgfcpaa
