/- sort.Sort over the entries of a row: the pivot. -/
import Derived.Test.YtdmmglnpeoeicaaSrt2
namespace Go.Proofs.Ytdmmglnpeoeicaa
set_option linter.unusedVariables false
set_option linter.unusedSimpArgs false
open Go.RowKit
/-- Beside the row there is a number, in a box of its own. -/
def SB (w0 : World) (g cap : Nat) (d : Array En) (sb s : Nat) (w : World) : Prop := SA w0 g cap d w ∧ w0.heap.size ≤ sb ∧ Blk w sb 3 #[.int .i64 (s : Int)]
theorem SB.below {w0 w w' : World} {g cap sb s : Nat} {d : Array En} (h : SB w0 g cap d sb s w) (hb : Below w.heap.size w w') : SB w0 g cap d sb s w' := ⟨h.1.below hb, h.2.1, h.2.2.thru0 hb⟩
theorem SB.set {w0 w : World} {g cap sb s : Nat} {d : Array En} (h : SB w0 g cap d sb s w) (s' : Nat) : SB w0 g cap d sb s' (w.setCell ⟨sb, 0, none⟩ (.int .i64 (s' : Int))) := ⟨h.1.set sb 0 _ h.2.1, h.2.1, h.2.2.set1 _⟩
def OrdP (w0 : World) (g cap : Nat) (d : Array En) (sb s a b : Nat) (e : Ending) (w' : World) : Prop :=
  ∃ x y s' : Nat, e = .returned (.tuple #[.int .i64 (x : Int), .int .i64 (y : Int)]) ∧ ((x = a ∧ y = b) ∨ (x = b ∧ y = a)) ∧ s' ≤ s + 1 ∧ SB w0 g cap d sb s' w'
set_option maxHeartbeats 2000000 in
theorem sord_any (w0 : World) (g cap n a b sb s : Nat) (d : Array En) (w : World) (h : SB w0 g cap d sb s w) (hs : d.size = n) (ha : a < n) (hb : b < n) (hsw : s ≤ 100) :
    Calls Try.prog 47 #[.iface 46 (.slice (some ⟨g, 0, none⟩) n cap), .int .i64 (a : Int), .int .i64 (b : Int), .pointer (some ⟨sb, 0, none⟩)] w fun e w' => OrdP w0 g cap d sb s a b e w' := by
  have hL := sless h.1 hs (i := b) (j := a) (I := (b : Int)) (J := (a : Int)) hb ha rfl rfl
  have H := Lib.hid h; clear h
  have mL := meth_sless
  cases hlv : ltE d[b]! d[a]! with
  | true =>
    rw [hlv] at hL
    have HL := Lib.hid hL; clear hL hlv
    go_enter Try.func47, Try.ntmps47
    go_wp2_with fail
    refine HL.out.mono ?_
    rintro e w2 ⟨rfl, hb0⟩
    have H2 := H.out.below hb0
    have hc := H2.2.2.cell 0
    have hf := H2.2.2.frozen 0
    simp only [List.getElem?_toArray, List.getElem?_cons_zero] at hc
    have HE := Lib.hid (show OrdP w0 g cap d sb s a b (.returned (.tuple #[.int .i64 (b : Int), .int .i64 (a : Int)])) (w2.setCell ⟨sb, 0, none⟩ (.int .i64 ((s + 1 : Nat) : Int))) from ⟨b, a, s + 1, rfl, .inr ⟨rfl, rfl⟩, Nat.le_refl _, H2.set (s + 1)⟩)
    clear hb0 H2
    have hs9 : (s : Int) ≤ 100 := by omega
    go_wp2
    go_ret2
    exact HE.out
  | false =>
    rw [hlv] at hL
    have HL := Lib.hid hL; clear hL hlv
    go_enter Try.func47, Try.ntmps47
    go_wp2_with fail
    refine HL.out.mono ?_
    rintro e w2 ⟨rfl, hb0⟩
    have HE := Lib.hid (show OrdP w0 g cap d sb s a b (.returned (.tuple #[.int .i64 (a : Int), .int .i64 (b : Int)])) w2 from ⟨a, b, s, rfl, .inl ⟨rfl, rfl⟩, Nat.le_succ _, H.out.below hb0⟩)
    clear hb0
    go_wp2
    go_ret2
    exact HE.out
def MedP (w0 : World) (g cap : Nat) (d : Array En) (sb s a b c : Nat) (e : Ending) (w' : World) : Prop :=
  ∃ x s' : Nat, e = .returned (.int .i64 (x : Int)) ∧ (x = a ∨ x = b ∨ x = c) ∧ s' ≤ s + 3 ∧ SB w0 g cap d sb s' w'
set_option maxHeartbeats 2000000 in
theorem smed_any (w0 : World) (g cap n a b c sb s : Nat) (d : Array En) (w : World) (h : SB w0 g cap d sb s w) (hs : d.size = n) (ha : a < n) (hb : b < n) (hc : c < n) (hsw : s ≤ 90) {I J K : Int} (hI : (a : Int) = I) (hJ : (b : Int) = J) (hK : (c : Int) = K) :
    Calls Try.prog 46 #[.iface 46 (.slice (some ⟨g, 0, none⟩) n cap), .int .i64 I, .int .i64 J, .int .i64 K, .pointer (some ⟨sb, 0, none⟩)] w fun e w' => MedP w0 g cap d sb s a b c e w' := by
  subst hI hJ hK
  have HO := Lib.hid (sord_any w0 g cap n a b sb s d w h hs ha hb (by omega))
  clear h
  have HS := Lib.hid hs; clear hs
  go_enter Try.func46, Try.ntmps46
  go_wp2_with fail
  refine HO.out.mono ?_
  rintro e w2 ⟨x1, y1, s1, rfl, hxy, hs1, h1⟩
  have HO2 := Lib.hid (sord_any w0 g cap n y1 c sb s1 d w2 h1 HS.out (by omega) hc (by omega))
  have HX := Lib.hid hxy; clear hxy h1 HO
  go_wp2_with fail
  refine HO2.out.mono ?_
  rintro e w3 ⟨x2, y2, s2, rfl, hxy, hs2, h2⟩
  have HO3 := Lib.hid (sord_any w0 g cap n x1 x2 sb s2 d w3 h2 HS.out (by have := HX.out; omega) (by have := HX.out; omega) (by omega))
  have HX2 := Lib.hid hxy; clear hxy h2 HO2
  go_wp2_with fail
  refine HO3.out.mono ?_
  rintro e w4 ⟨x3, y3, s3, rfl, hxy, hs3, h3⟩
  have HE := Lib.hid (show MedP w0 g cap d sb s a b c (.returned (.int .i64 (y3 : Int))) w4 from ⟨y3, s3, rfl, by have := HX.out; have := HX2.out; omega, by omega, h3⟩)
  clear hxy h3 HO3
  go_wp2
  go_ret
  exact HE.out
set_option maxHeartbeats 2000000 in
theorem sadj_any (w0 : World) (g cap n a sb s : Nat) (d : Array En) (w : World) (h : SB w0 g cap d sb s w) (hs : d.size = n) (ha0 : 1 ≤ a) (ha : a + 1 < n) (hn : n ≤ 4611686018427387904) (hsw : s ≤ 90) {I : Int} (hI : (a : Int) = I) :
    Calls Try.prog 45 #[.iface 46 (.slice (some ⟨g, 0, none⟩) n cap), .int .i64 I, .pointer (some ⟨sb, 0, none⟩)] w fun e w' => MedP w0 g cap d sb s (a - 1) a (a + 1) e w' := by
  subst hI
  have HO := Lib.hid (smed_any w0 g cap n (a - 1) a (a + 1) sb s d w h hs (by omega) (by omega) ha hsw (I := (a : Int) - 1) (J := (a : Int)) (K := (a : Int) + 1) (by omega) rfl (by omega))
  clear h
  have HS := Lib.hid hs; clear hs
  go_enter Try.func45, Try.ntmps45
  go_wp2_with fail
  refine HO.out.mono ?_
  rintro e w2 ⟨x1, s1, rfl, hx, hs1, h1⟩
  have HE := Lib.hid (show MedP w0 g cap d sb s (a - 1) a (a + 1) (.returned (.int .i64 (x1 : Int))) w2 from ⟨x1, s1, rfl, hx, hs1, h1⟩)
  clear hx h1 HO
  go_wp2
  go_ret
  exact HE.out
def PivP (w0 : World) (g cap a b : Nat) (d : Array En) (e : Ending) (w' : World) : Prop :=
  ∃ p t : Nat, e = .returned (.tuple #[.int .i64 (p : Int), .int .i64 (t : Int)]) ∧ a ≤ p ∧ p < b ∧ t ≤ 2 ∧ SA w0 g cap d w'
set_option maxHeartbeats 4000000 in
theorem spiv_any (w0 : World) (g cap n a b : Nat) (d : Array En) (w : World) (h : SA w0 g cap d w) (hs : d.size = n) (hab : a + 12 < b) (hbn : b ≤ n) (hn : n ≤ 2305843009213693951) :
    Calls Try.prog 37 #[.iface 46 (.slice (some ⟨g, 0, none⟩) n cap), .int .i64 (a : Int), .int .i64 (b : Int)] w fun e w' => PivP w0 g cap a b d e w' := by
  have h0 : SB w0 g cap d w.heap.size 0 (w.alloc (.cells #[.int .i64 0] 3)) := ⟨h.below ((Below.refl _ _).alloc (Nat.le_refl _) _), h.size, Blk.new _ _ _⟩
  have H0 := Lib.hid h0; clear h0 h
  have HS := Lib.hid hs; clear hs
  have e1 : (b : Int) - (a : Int) = ((b - a : Nat) : Int) := by omega
  obtain ⟨m, hm⟩ : ∃ m : Nat, b - a = m := ⟨_, rfl⟩
  obtain ⟨q, hq⟩ : ∃ q : Nat, m / 4 = q := ⟨_, rfl⟩
  rw [hm] at e1
  have e2 : (m : Int) / 4 = (q : Int) := by omega
  have hbm : b = a + m := by omega
  have hm12 : 12 < m := by omega
  have hq4 : 4 * q ≤ m := by omega
  have hq3 : m < 4 * q + 4 := by omega
  have hm8 : (8 : Int) ≤ (m : Int) := by omega
  have hmm : (m : Int) ≤ 2305843009213693951 := by omega
  have hqq : (q : Int) ≤ 2305843009213693951 := by omega
  clear hm hq
  have HB := Lib.hid hbm; clear hbm
  by_cases h50 : 50 ≤ m
  · have h50i : (50 : Int) ≤ (m : Int) := by omega
    go_enter Try.func37, Try.ntmps37
    go_wp2_with fail
    refine (sadj_any w0 g cap n (a + q * 1) _ 0 d _ H0.out HS.out (by omega) (by have := HB.out; omega) (by omega) (by omega) (by omega)).mono ?_
    rintro e w2 ⟨x1, s1, rfl, hx1, hs1, h1⟩
    have H1 := Lib.hid h1; have HX1 := Lib.hid hx1; clear h1 hx1 H0
    go_wp2_with fail
    refine (sadj_any w0 g cap n (a + q * 2) _ s1 d _ H1.out HS.out (by omega) (by have := HB.out; omega) (by omega) (by omega) (by omega)).mono ?_
    rintro e w3 ⟨x2, s2, rfl, hx2, hs2, h2⟩
    have H2 := Lib.hid h2; have HX2 := Lib.hid hx2; clear h2 hx2 H1
    go_wp2_with fail
    refine (sadj_any w0 g cap n (a + q * 3) _ s2 d _ H2.out HS.out (by omega) (by have := HB.out; omega) (by omega) (by omega) (by omega)).mono ?_
    rintro e w4 ⟨x3, s3, rfl, hx3, hs3, h3⟩
    have H3 := Lib.hid h3; have HX3 := Lib.hid hx3; clear h3 hx3 H2
    go_wp2_with fail
    refine (smed_any w0 g cap n x1 x2 x3 _ s3 d _ H3.out HS.out (by have := HB.out; have := HX1.out; omega) (by have := HB.out; have := HX2.out; omega) (by have := HB.out; have := HX3.out; omega) (by omega) rfl rfl rfl).mono ?_
    rintro e w5 ⟨x4, s4, rfl, hx4, hs4, h4⟩
    have HP : ∀ t : Nat, t ≤ 2 → Hid (PivP w0 g cap a b d (.returned (.tuple #[.int .i64 (x4 : Int), .int .i64 (t : Int)])) w5) := fun t ht => Lib.hid ⟨x4, t, rfl, by have := HX1.out; have := HX2.out; have := HX3.out; omega, by have := HX1.out; have := HX2.out; have := HX3.out; have := HB.out; omega, ht, h4.1⟩
    have HP0 := HP 0 (by omega); have HP1 := HP 1 (by omega); have HP2 := HP 2 (by omega)
    have hc := h4.2.2.cell 0
    simp only [List.getElem?_toArray, List.getElem?_cons_zero] at hc
    clear HP h4 hx4 H3
    by_cases t0 : s4 = 0
    · subst t0
      go_wp2
      go_ret2
      exact HP1.out
    · have t0i : ((s4 : Int) == 0) = false := by simp; omega
      by_cases t12 : s4 = 12
      · subst t12
        go_wp2
        go_ret2
        exact HP2.out
      · have t12i : ((s4 : Int) == 12) = false := by simp; omega
        go_wp2
        go_ret2
        exact HP0.out
  · have h50i : ¬ (50 : Int) ≤ (m : Int) := by omega
    go_enter Try.func37, Try.ntmps37
    go_wp2_with fail
    refine (smed_any w0 g cap n (a + q * 1) (a + q * 2) (a + q * 3) _ 0 d _ H0.out HS.out (by have := HB.out; omega) (by have := HB.out; omega) (by have := HB.out; omega) (by omega) (by omega) (by omega) (by omega)).mono ?_
    rintro e w5 ⟨x4, s4, rfl, hx4, hs4, h4⟩
    have HP : ∀ t : Nat, t ≤ 2 → Hid (PivP w0 g cap a b d (.returned (.tuple #[.int .i64 (x4 : Int), .int .i64 (t : Int)])) w5) := fun t ht => Lib.hid ⟨x4, t, rfl, by omega, by have := HB.out; omega, ht, h4.1⟩
    have HP0 := HP 0 (by omega); have HP1 := HP 1 (by omega); have HP2 := HP 2 (by omega)
    have hc := h4.2.2.cell 0
    simp only [List.getElem?_toArray, List.getElem?_cons_zero] at hc
    clear HP h4 hx4 H0
    by_cases t0 : s4 = 0
    · subst t0
      go_wp2
      go_ret2
      exact HP1.out
    · have t0i : ((s4 : Int) == 0) = false := by simp; omega
      by_cases t12 : s4 = 12
      · subst t12
        go_wp2
        go_ret2
        exact HP2.out
      · have t12i : ((s4 : Int) == 12) = false := by simp; omega
        go_wp2
        go_ret2
        exact HP0.out
end Go.Proofs.Ytdmmglnpeoeicaa
