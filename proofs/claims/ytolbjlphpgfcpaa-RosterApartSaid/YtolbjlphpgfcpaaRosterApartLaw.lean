/- RosterApart: (P18.5) what is done with one member turns nothing of another one. Conditions: none. -/
import Derived.Test.YtolbjlphpgfcpaaRoP
namespace Go.Proofs.Ytolbjlphpgfcpaa.rosterApart
set_option linter.unusedVariables false
set_option linter.unusedSimpArgs false
open Go.ChangeShapes Go.WideShapes Go.ChangeAt Go.RowKit
open Go.ChangeMaps (open_string shut_string)
/-- What is held between two rounds. -/
structure Ap (w wr : World) (k : Nat) (u : Int) (y1 y2 : Nat) (o1 o2 : Option Nat) (n1 n2 c1 c2 : Nat) (H1 H2 : Int → Option Mb) : Prop where
  bel : Below w.heap.size w wr
  s1 : RS wr y1 o1 n1 H1 c1
  s2 : RS wr y2 o2 n2 H2 c2
  ly1 : w.heap.size ≤ y1
  ly2 : w.heap.size ≤ y2
  f1 : ∀ i, o1 = some i → w.heap.size ≤ i
  f2 : ∀ i, o2 = some i → w.heap.size ≤ i
  ne : y1 ≠ y2
  a1 : o1 ≠ some y2
  a2 : o2 ≠ some y1
  a3 : ∀ i, o1 = some i → o2 ≠ some i
  eq : H1 u = H2 u
  ln1 : n1 ≤ k
  ln2 : n2 ≤ k
theorem Ap.first {w wr w' : World} {k y1 y2 n1 n2 c1 c2 n1' c1' : Nat} {u : Int} {o1 o2 o1' : Option Nat} {H1 H2 H1' : Int → Option Mb} (h : Ap w wr k u y1 y2 o1 o2 n1 n2 c1 c2 H1 H2) (a : RA y1 o1 wr o1' n1' H1' c1' w') (hn : n1' ≤ n1 + 1) :
    Below w.heap.size w w' ∧ RS w' y1 o1' n1' H1' c1' ∧ RS w' y2 o2 n2 H2 c2 ∧ (∀ i, o1' = some i → w.heap.size ≤ i) ∧ o1' ≠ some y2 ∧ (∀ i, o1' = some i → o2 ≠ some i) :=
  ⟨a.ke.bel h.bel h.ly1 h.f1, a.rs, h.s2.keepM a.ke h.ne.symm h.a1 (fun i hi => ⟨fun e => h.a2 (by rw [hi, e]), fun e => h.a3 i e hi⟩), a.farB h.bel.size h.f1,
    fun e => by
      rcases a.far y2 e with h1 | h1
      · exact h.a1 h1
      · have := h.s2.blk.lt; omega,
    fun i e e2 => by
      rcases a.far i e with h1 | h1
      · exact h.a3 i h1 e2
      · have := h.s2.lt e2; omega⟩
set_option maxRecDepth 100000 in
set_option maxHeartbeats 16000000 in
theorem walkN (v : Value) (O : List Oq) (u : Int) (w : World) (h : ERd elOq w v O) (hO : ∀ o ∈ O, o.I) (hu : -9223372036854775808 ≤ u ∧ u ≤ 9223372036854775807) :
    Calls Try.prog 5 #[v, .int .i64 u] w fun e w' => e = .returned (.bool true) ∧ Below w.heap.size w w' := by
  obtain ⟨A1, c1, rfl, -, hc2⟩ := h.shape
  have HL := Lib.hid h
  have HU := Lib.hid hu
  clear h hu
  obtain ⟨n, hz⟩ : ∃ z, z = O.length := ⟨_, rfl⟩
  rw [← hz] at HL ⊢
  have hmx : n ≤ 9223372036854775807 := by obtain ⟨_, _, e, h1, h2, _⟩ := HL.out; unfold maxLen at h2; omega
  have HN := Lib.hid hz; clear hz hc2
  go_enter Try.func5, Try.ntmps5
  go_wp2_with fail
  refine (rnew_any _).mono ?_
  rintro e w1 ⟨rfl, hR1, hb1⟩
  have HR1 := Lib.hid hR1
  have HB1 := Lib.hid hb1
  clear hR1 hb1
  obtain ⟨y1, hy⟩ : ∃ y, w.heap.size = y := ⟨_, rfl⟩
  have HY1 := Lib.hid hy
  rw [hy] at HR1 ⊢
  clear hy
  go_wp2_with fail
  refine (rnew_any _).mono ?_
  rintro e w2 ⟨rfl, hR2, hb2⟩
  obtain ⟨y2, hy⟩ : ∃ y, w1.heap.size = y := ⟨_, rfl⟩
  rw [hy] at hR2 ⊢
  have HAP := Lib.hid (show Ap w w2 0 u y1 y2 none none 0 0 0 0 (fun _ => none) (fun _ => none) from ⟨below_trans HB1.out hb2, HR1.out.below hb2, hR2, Nat.le_of_eq HY1.out, by have := HB1.out.size; omega, (fun i hi => by cases hi), (fun i hi => by cases hi), by have := HR1.out.blk.lt; omega, by simp, by simp, (fun i hi => by cases hi), rfl, Nat.le_refl _, Nat.le_refl _⟩)
  clear hR2 hb2 hy HR1 HB1
  go_wp2_with fail
  go_loopw [7, 8] (fun i _ wr => ∃ (k n1 n2 c1 c2 : Nat) (o1 o2 : Option Nat) (H1 H2 : Int → Option Mb), k ≤ n ∧ k ≤ 80 ∧ i = .int .i64 k ∧ Hid (Ap w wr k u y1 y2 o1 o2 n1 n2 c1 c2 H1 H2)) (fun i _ _ => n - (intOf i).toNat)
  case atStart => exact ⟨0, 0, 0, 0, 0, none, none, _, _, Nat.zero_le _, Nat.zero_le _, rfl, HAP.out⟩
  case round =>
    rename World => wr
    clear HAP
    obtain ⟨k, n1, n2, c1, c2, o1, o2, H1, H2, hk, hk2, rfl, HP⟩ := hrel
    by_cases hlt : k < n
    · have hd1 : decide ((k : Int) < (n : Int)) = true := by simp; exact hlt
      by_cases h80 : k < 80
      · have hd2 : decide ((k : Int) < 80) = true := by simp; omega
        have hkl : k < O.length := by rw [← HN.out]; exact hlt
        have hx : O[k]? = some O[k] := List.getElem?_eq_getElem hkl
        have HI := Lib.hid (hO _ (List.getElem_mem hkl))
        have HE := Lib.hid (HL.out.below HP.out.bel)
        generalize O[k] = x at *
        have HX := Lib.hid hx
        have hlt2 : (k : Int) < n := by omega
        have HD := Lib.hid (does_any wr y1 n1 c1 o1 H1 x HP.out.s1 HI.out (by have := HP.out.ln1; omega))
        have HFAR := Lib.hid (fun h => op_far H1 x u h)
        have HLOC := Lib.hid (fun h => op_local (H1 := H1) (H2 := H2) x h)
        unfold DoP at HD
        generalize hE1 : opE H1 x = E1 at *
        have HE1 := Lib.hid hE1
        clear hE1
        generalize hH1 : opH H1 x = H1' at *
        have HH1 := Lib.hid hH1
        clear hH1
        generalize opC H1 x c1 = c1' at *
        have HD2 := Lib.hid (fun W h => does_any W y2 n2 c2 o2 H2 x h HI.out (by have := HP.out.ln2; omega))
        unfold DoP at HD2
        clear hx
        obtain ⟨kd, ⟨m0, m1, m2, m3, m4, m5⟩, fk, fa, nn⟩ := x
        simp only [Oq.V, Mb.V] at HD HD2 HFAR HLOC
        obtain ⟨g1, p1, rfl, a0, a1, a2, a3, a4, a5, a6, a7, a8, a9⟩ := HE.out.tenq HX.out
        simp only at a0 a1 a2 a3 a4 a5 a6 a7 a8 a9
        go_wp2_with fail
        refine HD.out.mono ?_
        rintro e w3 ⟨o1', n1', hn1, rfl, hA⟩
        have HP3 := Lib.hid (HP.out.first hA hn1)
        have HN3 := Lib.hid hn1
        clear hA hn1 HD HE a0 a1 a2 a3 a4 a5 a6 a7 a8 a9
        obtain ⟨g1', p1', e1', a0, a1, a2, a3, a4, a5, a6, a7, a8, a9⟩ := (HL.out.below HP3.out.1).tenq HX.out
        simp only [Option.some.injEq, Addr.mk.injEq, and_true] at e1'
        obtain ⟨rfl, rfl⟩ := e1'
        simp only at a0 a1 a2 a3 a4 a5 a6 a7 a8 a9
        by_cases hmu : m0 = u
        · have hme : (m0 != u) = false := by simpa using hmu
          have hloc := HLOC.out (by rw [hmu]; exact HP.out.eq)
          have HLO := Lib.hid hloc
          clear hloc
          have HD3 := Lib.hid (HD2.out w3 HP3.out.2.2.1)
          rw [← HLO.out.1] at HD3
          have hee : (E1 != E1) = false := by simp
          clear HD2
          subst hmu
          go_wp2_with fail
          refine HD3.out.mono ?_
          rintro e w5 ⟨o2', n2', hn2, rfl, hA⟩
          have HQ := HP3.out
          have HA2 := Lib.hid hA
          have HP4 := Lib.hid (show Ap w w5 (k + 1) m0 y1 y2 o1' o2' n1' n2' c1' _ H1' _ from ⟨hA.ke.bel HQ.1 HP.out.ly2 HP.out.f2, HQ.2.1.keepM hA.ke HP.out.ne HP.out.a2 (fun i hi => ⟨fun e => HQ.2.2.2.2.1 (by rw [hi, e]), fun e => HQ.2.2.2.2.2 i hi e⟩), hA.rs, HP.out.ly1, HP.out.ly2, HQ.2.2.2.1, hA.farB HQ.1.size HP.out.f2, HP.out.ne, HQ.2.2.2.2.1, fun e => by
              rcases hA.far y1 e with h1 | h1
              · exact HP.out.a2 h1
              · have := HQ.2.1.blk.lt; omega, fun i e e2 => by
              rcases hA.far i e2 with h1 | h1
              · exact HQ.2.2.2.2.2 i e h1
              · have := HQ.2.1.lt e; omega, HLO.out.2, by have h1 := HP.out.ln1; have h2 := HN3.out; omega, by have h1 := HP.out.ln2; omega⟩)
          clear hA HQ HP3 HP HD3 HA2 a0 a1 a2 a3 a4 a5 a6 a7 a8 a9
          go_wp2
          go_roundw
          case rel => exact ⟨k + 1, _, _, _, _, _, _, _, _, by omega, by omega, by go_num, HP4⟩
          case measure => simp [intOf]; omega
        · have hme : (m0 != u) = true := by simpa using hmu
          have HP4 := Lib.hid (show Ap w w3 (k + 1) u y1 y2 o1' o2 n1' n2 c1' c2 H1' H2 from ⟨HP3.out.1, HP3.out.2.1, HP3.out.2.2.1, HP.out.ly1, HP.out.ly2, HP3.out.2.2.2.1, HP.out.f2, HP.out.ne, HP3.out.2.2.2.2.1, HP.out.a2, HP3.out.2.2.2.2.2, (HFAR.out (fun e => hmu e.symm)).trans HP.out.eq, by have h1 := HP.out.ln1; have h2 := HN3.out; omega, by have h1 := HP.out.ln2; omega⟩)
          clear hmu HP3 HP HD2
          go_wp2
          go_roundw
          case rel => exact ⟨k + 1, _, _, _, _, _, _, _, _, by omega, by omega, by go_num, HP4⟩
          case measure => simp [intOf]; omega
      · have hd2 : decide ((k : Int) < 80) = false := by simp; omega
        have HF1 := Lib.hid (rfind_any wr y1 n1 c1 o1 H1 u HP.out.s1 HU.out)
        have hfl := fi_local HP.out.eq
        rw [hfl.1, hfl.2] at HF1
        have HF2 := Lib.hid (fun W (h : RS W y2 o2 n2 H2 c2) => rfind_any W y2 n2 c2 o2 H2 u h HU.out)
        clear hfl
        generalize fiM H2 u = fm at *
        generalize fiB H2 u = fb at *
        obtain ⟨m0, m1, m2, m3, m4, m5⟩ := fm
        simp only [Mb.V] at HF1 HF2
        go_wp2_with fail
        refine HF1.out.mono ?_
        rintro e w3 ⟨rfl, hb⟩
        go_upto_region 10 with fail
        have hal : Below w3.heap.size w3 (w3.alloc (.cells #[.int .i64 m0, .int .i64 m1, .int .i64 m2, .int .i64 m3, .int .i64 m4, .int .u64 m5] 34)) := (Below.refl _ _).alloc (Nat.le_refl _) _
        have HZ := Lib.hid (Blk.new w3 34 #[.int .i64 m0, .int .i64 m1, .int .i64 m2, .int .i64 m3, .int .i64 m4, .int .u64 m5])
        have HB3 := Lib.hid (below_trans HP.out.bel (below_trans hb hal))
        have HS3 := Lib.hid ((HP.out.s2.below hb).below hal)
        clear hb hal HF1
        generalize (w3.alloc (.cells #[.int .i64 m0, .int .i64 m1, .int .i64 m2, .int .i64 m3, .int .i64 m4, .int .u64 m5] 34)) = w4 at *
        generalize w3.heap.size = za at *
        go_wp2_with fail
        refine (HF2.out _ HS3.out).mono ?_
        rintro e w5 ⟨rfl, hb⟩
        go_upto_region 11 with fail
        have hal : Below w5.heap.size w5 (w5.alloc (.cells #[.int .i64 m0, .int .i64 m1, .int .i64 m2, .int .i64 m3, .int .i64 m4, .int .u64 m5] 34)) := (Below.refl _ _).alloc (Nat.le_refl _) _
        have HZ2 := Lib.hid (Blk.new w5 34 #[.int .i64 m0, .int .i64 m1, .int .i64 m2, .int .i64 m3, .int .i64 m4, .int .u64 m5])
        have HZ1 := Lib.hid (Blk.thru0 (Blk.thru0 HZ.out hb) hal)
        have HB5 := Lib.hid (below_trans HB3.out (below_trans hb hal))
        clear hb hal HZ HB3 HS3 HF2 HP
        generalize (w5.alloc (.cells #[.int .i64 m0, .int .i64 m1, .int .i64 m2, .int .i64 m3, .int .i64 m4, .int .u64 m5] 34)) = w6 at *
        generalize w5.heap.size = zb at *
        have p0 := HZ1.out.cell 0
        have p1 := HZ1.out.cell 1
        have p2 := HZ1.out.cell 2
        have p3 := HZ1.out.cell 3
        have p4 := HZ1.out.cell 4
        have p5 := HZ1.out.cell 5
        have q0 := HZ2.out.cell 0
        have q1 := HZ2.out.cell 1
        have q2 := HZ2.out.cell 2
        have q3 := HZ2.out.cell 3
        have q4 := HZ2.out.cell 4
        have q5 := HZ2.out.cell 5
        simp only [List.getElem?_toArray, List.getElem?_cons_zero, List.getElem?_cons_succ] at p0 p1 p2 p3 p4 p5 q0 q1 q2 q3 q4 q5
        have e0 : (m0 == m0) = true := by simp
        have e1 : (m1 == m1) = true := by simp
        have e2 : (m2 == m2) = true := by simp
        have e3 : (m3 == m3) = true := by simp
        have e4 : (m4 == m4) = true := by simp
        have e5 : ((m5 : Int) == (m5 : Int)) = true := by simp
        have e6 : (fb == fb) = true := by simp
        go_wp2_with fail
        refine (rknown_any _).mono ?_
        rintro e w7 ⟨rfl, hb⟩
        have HB7 := Lib.hid (below_trans HB5.out hb)
        clear hb p0 p1 p2 p3 p4 p5 q0 q1 q2 q3 q4 q5 e0 e1 e2 e3 e4 e5 e6
        go_wp2
        go_ret
        exact ⟨rfl, HB7.out⟩
    · have hd1 : decide ((k : Int) < (n : Int)) = false := by simp; omega
      have HF1 := Lib.hid (rfind_any wr y1 n1 c1 o1 H1 u HP.out.s1 HU.out)
      have hfl := fi_local HP.out.eq
      rw [hfl.1, hfl.2] at HF1
      have HF2 := Lib.hid (fun W (h : RS W y2 o2 n2 H2 c2) => rfind_any W y2 n2 c2 o2 H2 u h HU.out)
      clear hfl
      generalize fiM H2 u = fm at *
      generalize fiB H2 u = fb at *
      obtain ⟨m0, m1, m2, m3, m4, m5⟩ := fm
      simp only [Mb.V] at HF1 HF2
      go_wp2_with fail
      refine HF1.out.mono ?_
      rintro e w3 ⟨rfl, hb⟩
      go_upto_region 10 with fail
      have hal : Below w3.heap.size w3 (w3.alloc (.cells #[.int .i64 m0, .int .i64 m1, .int .i64 m2, .int .i64 m3, .int .i64 m4, .int .u64 m5] 34)) := (Below.refl _ _).alloc (Nat.le_refl _) _
      have HZ := Lib.hid (Blk.new w3 34 #[.int .i64 m0, .int .i64 m1, .int .i64 m2, .int .i64 m3, .int .i64 m4, .int .u64 m5])
      have HB3 := Lib.hid (below_trans HP.out.bel (below_trans hb hal))
      have HS3 := Lib.hid ((HP.out.s2.below hb).below hal)
      clear hb hal HF1
      generalize (w3.alloc (.cells #[.int .i64 m0, .int .i64 m1, .int .i64 m2, .int .i64 m3, .int .i64 m4, .int .u64 m5] 34)) = w4 at *
      generalize w3.heap.size = za at *
      go_wp2_with fail
      refine (HF2.out _ HS3.out).mono ?_
      rintro e w5 ⟨rfl, hb⟩
      go_upto_region 11 with fail
      have hal : Below w5.heap.size w5 (w5.alloc (.cells #[.int .i64 m0, .int .i64 m1, .int .i64 m2, .int .i64 m3, .int .i64 m4, .int .u64 m5] 34)) := (Below.refl _ _).alloc (Nat.le_refl _) _
      have HZ2 := Lib.hid (Blk.new w5 34 #[.int .i64 m0, .int .i64 m1, .int .i64 m2, .int .i64 m3, .int .i64 m4, .int .u64 m5])
      have HZ1 := Lib.hid (Blk.thru0 (Blk.thru0 HZ.out hb) hal)
      have HB5 := Lib.hid (below_trans HB3.out (below_trans hb hal))
      clear hb hal HZ HB3 HS3 HF2 HP
      generalize (w5.alloc (.cells #[.int .i64 m0, .int .i64 m1, .int .i64 m2, .int .i64 m3, .int .i64 m4, .int .u64 m5] 34)) = w6 at *
      generalize w5.heap.size = zb at *
      have p0 := HZ1.out.cell 0
      have p1 := HZ1.out.cell 1
      have p2 := HZ1.out.cell 2
      have p3 := HZ1.out.cell 3
      have p4 := HZ1.out.cell 4
      have p5 := HZ1.out.cell 5
      have q0 := HZ2.out.cell 0
      have q1 := HZ2.out.cell 1
      have q2 := HZ2.out.cell 2
      have q3 := HZ2.out.cell 3
      have q4 := HZ2.out.cell 4
      have q5 := HZ2.out.cell 5
      simp only [List.getElem?_toArray, List.getElem?_cons_zero, List.getElem?_cons_succ] at p0 p1 p2 p3 p4 p5 q0 q1 q2 q3 q4 q5
      have e0 : (m0 == m0) = true := by simp
      have e1 : (m1 == m1) = true := by simp
      have e2 : (m2 == m2) = true := by simp
      have e3 : (m3 == m3) = true := by simp
      have e4 : (m4 == m4) = true := by simp
      have e5 : ((m5 : Int) == (m5 : Int)) = true := by simp
      have e6 : (fb == fb) = true := by simp
      go_wp2_with fail
      refine (rknown_any _).mono ?_
      rintro e w7 ⟨rfl, hb⟩
      have HB7 := Lib.hid (below_trans HB5.out hb)
      clear hb p0 p1 p2 p3 p4 p5 q0 q1 q2 q3 q4 q5 e0 e1 e2 e3 e4 e5 e6
      go_wp2
      go_ret
      exact ⟨rfl, HB7.out⟩
theorem walk (a : Option Addr) (z c : Nat) (u : Int) (w : World) (h : IsSl w 10 okOq a z c) (hu : -9223372036854775808 ≤ u ∧ u ≤ 9223372036854775807) :
    Calls Try.prog 5 #[.slice a z c, .int .i64 u] w fun e w' => e = .returned (.bool true) ∧ Below w.heap.size w w' := by
  obtain ⟨L, h1, _, h3⟩ := oqs_of h
  exact walkN _ L u w h1 h3 hu
theorem own : ownKnob Try.prog.godebug = none := by kernel_rfl
theorem laidOut : laidOutB Try.prog = true := by kernel_rfl
set_option maxRecDepth 100000 in
theorem lifted (os : Os) (started : os.Started) (H : Type) (enc : TypeId × Value → H) :
    ReturnsInHanded {} Try.checked os 5 .any (Rows.rosterApartSpec.pre6 enc Try.prog Try.f5 Rows.rosterApartRow.domain false) (Rows.rosterApartSpec.post enc Try.prog Try.f5 false true false false) := by
  refine returnsInHanded_of_change_sized (C := Try.checked) own started (by kernel_rfl) Try.func5
    (ChangeSpec.witness6 (enc := enc) (C := Try.checked) false ⟨#[], #[.slice none 0 0, .int .i64 0], []⟩ 8 (by kernel_rfl) (by kernel_rfl) (by kernel_rfl) (by kernel_rfl)) ?_
  intro W base args ds gs before hval0 hW hcnd hsz0 _
  have hval : ∀ (j : Nat) t v, Try.f5.params[j]? = some t → args[j]? = some v → Value.okWide Try.prog W .any base t v := hval0
  have hW' := hW
  obtain ⟨p, q, hA0, hV, rfl, hfz, hnd⟩ := hW
  have hA : DataW.TrodAll enc Try.prog W 0 (fun _ => true) true Try.f5.params.toList args.toList ds p := hA0
  rw [Try.params5] at hA hval
  obtain ⟨v0, vs0, d0, ds0, p0, q0, hargs, rfl, rfl, h0, r0⟩ := trodAll_cons hA
  obtain ⟨v1, vs1, d1, ds1, p1, q1, rfl, rfl, rfl, h1, r1⟩ := trodAll_cons r0
  obtain ⟨rfl, rfl, rfl⟩ := trodAll_nil r1
  obtain rfl : args = #[v0, v1] := by cases args; simp_all
  obtain ⟨rfl, rfl⟩ := trodVars_none hV
  have k0 := h0
  have lt0 : ∀ x ∈ p0, x.block < W.heap.size := by obtain ⟨m, hm⟩ := k0; exact DataW.trod_lt m _ _ _ hm
  obtain ⟨a0, len0, cap0, rfl⟩ := okWide_slice Try.underlying22 (hval 0 22 v0 rfl rfl)
  have w0 : IsSl W 10 (okOqW W) a0 len0 cap0 := by
    obtain ⟨fuel, hf⟩ := h0
    exact isSl_of Try.underlying22 (by kernel_rfl) okOqP hf (fun n hn => of_decide_eq_true (List.all_eq_true.1 hsz0 n (DataW.weights_mem_each (j := 0) (t := 22) (d := d0) rfl rfl n hn)))
  have k1 := h1
  have lt1 : ∀ x ∈ p1, x.block < W.heap.size := by obtain ⟨m, hm⟩ := k1; exact DataW.trod_lt m _ _ _ hm
  obtain ⟨a1, rfl, rfl, rfl, w1⟩ := open_int Try.underlying3 (hval 1 3 v1 rfl rfl) h1
  clear hA0 hval0
  refine (walk a0 len0 cap0 a1 W w0 (bounds_i64 w1)).mono fun e W' ⟨he, bel⟩ => ?_
  subst he
  exact ⟨_, rfl, _, _, _, [], _, [], hW', trodAll_mk1 (shut_bool Try.underlying4 _), (trodAll_cons_mk (Below.trod laidOut (by kernel_rfl) (of_decide_eq_true (by kernel_rfl)) k0 bel lt0) (trodAll_cons_mk (Below.trod laidOut (by kernel_rfl) (of_decide_eq_true (by kernel_rfl)) k1 bel lt1) trodAll_mk0)), rfl, bel.frame _, fun h => by cases h⟩
theorem over : Rows.rosterApartRow.holds Try.pinned (OpenSpec.ofChange Rows.rosterApartSpec) :=
  OpenClaim.holds_of_wide 5 Try.f5 rfl rfl rfl rfl rfl rfl rfl ⟨rfl, rfl, rfl, rfl, rfl⟩ rfl rfl rfl rfl rfl (by kernel_rfl) Try.func5 (by kernel_rfl)
    (of_decide_eq_true (by kernel_rfl)) (by unfold Func.isWrapper; first | (rw [if_pos (by decide +kernel)]; kernel_rfl) | (rw [if_neg (by decide +kernel)]; exact ⟨rfl, rfl⟩))
    (fun os started H enc _ => lifted os started H enc)
/-- The statement. -/
theorem proved : Rows.RosterApartSaid := over
#print axioms proved
end Go.Proofs.Ytolbjlphpgfcpaa.rosterApart
