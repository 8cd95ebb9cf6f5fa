/- region: check, Has, and which points count, by contract. -/
import Derived.Test.YtimfcgnnfgoaaaaRgA
namespace Go.Proofs.Ytimfcgnnfgoaaaa
set_option linter.unusedVariables false
set_option linter.unusedSimpArgs false
open Go.RowKit
/-- Regions as they lie, in a row. -/
structure RGs (w : World) (v : Value) (G : List (Hd × List Bx)) : Prop where
  row : ERd elSl w v (G.map (·.1))
  each : ∀ p ∈ G, ERd elR w p.1.v p.2
theorem RGs.below {w w' : World} {v : Value} {G : List (Hd × List Bx)} (h : RGs w v G) (hb : Below w.heap.size w w') : RGs w' v G := ⟨h.row.below hb, fun p hp => (h.each p hp).below hb⟩
def chkN (G : List (Hd × List Bx)) : Int := if G.any (fun p => decide (256 < p.2.length)) = true then 2 else if G.all (fun p => allRight p.2) = true then 0 else 1
theorem chk_long {G : List (Hd × List Bx)} {k : Nat} {p : Hd × List Bx} (h : G[k]? = some p) (h2 : 256 < p.2.length) : chkN G = 2 := by
  unfold chkN
  rw [if_pos]
  rw [List.any_eq_true]
  exact ⟨p, List.mem_of_getElem? h, by simpa using h2⟩
theorem chk_short {G : List (Hd × List Bx)} {k : Nat} (h : ∀ j, j < k → ∀ p, G[j]? = some p → p.2.length ≤ 256) (hk : k = G.length) : G.any (fun p => decide (256 < p.2.length)) = false := by
  rw [List.any_eq_false]
  intro p hp
  obtain ⟨i, hi, rfl⟩ := List.getElem_of_mem hp
  have := h i (by omega) _ (List.getElem?_eq_getElem hi)
  simp; omega
theorem chk_arg {G : List (Hd × List Bx)} (h : G.any (fun p => decide (256 < p.2.length)) = false) {k : Nat} {p : Hd × List Bx} (h1 : G[k]? = some p) (h2 : allRight p.2 = false) : chkN G = 1 := by
  unfold chkN
  rw [h]
  have : G.all (fun p => allRight p.2) = false := by
    cases h3 : G.all (fun p => allRight p.2) with
    | false => rfl
    | true =>
      rw [List.all_eq_true] at h3
      have := h3 p (List.mem_of_getElem? h1)
      rw [h2] at this; cases this
  rw [this]; rfl
theorem chk_ok {G : List (Hd × List Bx)} (h : G.any (fun p => decide (256 < p.2.length)) = false) {k : Nat} (h1 : ∀ j, j < k → ∀ p, G[j]? = some p → allRight p.2 = true) (hk : k = G.length) : chkN G = 0 := by
  unfold chkN
  rw [h]
  have : G.all (fun p => allRight p.2) = true := by
    rw [List.all_eq_true]
    intro p hp
    obtain ⟨i, hi, rfl⟩ := List.getElem_of_mem hp
    exact h1 i (by omega) _ (List.getElem?_eq_getElem hi)
  rw [this]; rfl
theorem RGs.head {w : World} {A : Option Addr} {n c : Nat} {G : List (Hd × List Bx)} (h : RGs w (.slice A n c) G) {k : Nat} {p : Hd × List Bx} (hp : G[k]? = some p) : ∃ g o, A = some ⟨g, o, none⟩ ∧ g < w.heap.size ∧ w.cell? ⟨g, o + k, none⟩ = some (.slice p.1.A p.2.length p.1.c) ∧ ERd elR w (.slice p.1.A p.2.length p.1.c) p.2 := by
  obtain ⟨g, o, rfl, hc⟩ := h.row.cell (i := k) (x := p.1) (by rw [List.getElem?_map, hp]; rfl)
  have he := h.each p (List.mem_of_getElem? hp)
  have hn : p.1.n = p.2.length := ERd.len he
  have h0 := hc 0 _ rfl
  have e : o + k * elSl.k + 0 = o + k := by simp [elSl]
  rw [e] at h0
  rw [hn] at h0
  have he2 : ERd elR w (.slice p.1.A p.1.n p.1.c) p.2 := he
  rw [hn] at he2
  exact ⟨g, o, rfl, World.block_lt_of_cell? w _ h0, h0, he2⟩
set_option maxRecDepth 100000 in
set_option maxHeartbeats 4000000 in
theorem check_any (w : World) (A : Option Addr) (n c : Nat) (G : List (Hd × List Bx)) (h : RGs w (.slice A n c) G) (hn : n = G.length) (hl : n ≤ 1000000) (hl2 : ∀ p ∈ G, p.2.length ≤ 1000000) :
    Calls Try.prog 34 #[.slice A n c] w fun e w' => e = .returned (.int .i64 (chkN G)) ∧ Below w.heap.size w w' := by
  have HL := Lib.hid h
  have HN := Lib.hid hn
  have HL2 := Lib.hid hl2
  have HB0 := Lib.hid (show ∀ j, j < 0 → ∀ p, G[j]? = some p → p.2.length ≤ 256 from fun j hj => by omega)
  clear h hn hl2
  go_enter Try.func34, Try.ntmps34
  go_wp2_with fail
  go_loopw [4, 11] (fun _ i wr => ∃ (k : Nat), k ≤ n ∧ i = .int .i64 k ∧ wr = w ∧ Hid (∀ j, j < k → ∀ p, G[j]? = some p → p.2.length ≤ 256)) (fun _ i _ => n - (intOf i).toNat)
  case atStart => exact ⟨0, Nat.zero_le _, rfl, rfl, HB0⟩
  case round =>
    obtain ⟨k, hk, rfl, hw, HB⟩ := hrel
    subst hw
    by_cases hlt : k < n
    · have hki : (k : Int) < (n : Int) := by omega
      have hkl : k < G.length := by rw [← HN.out]; exact hlt
      have hx : G[k]? = some G[k] := List.getElem?_eq_getElem hkl
      obtain ⟨g, o, rfl, hg, a0, -⟩ := HL.out.head hx
      generalize G[k] = p at *
      have HX := Lib.hid hx
      clear hx hg
      by_cases hb : 256 < p.2.length
      · have hb2 : (256 : Int) < (p.2.length : Int) := by omega
        have HZ := Lib.hid (chk_long HX.out hb)
        clear hb
        go_wp2
        go_ret
        exact ⟨by rw [HZ.out]; rfl, Below.refl _ _⟩
      · have hb2 : ¬ (256 : Int) < (p.2.length : Int) := by omega
        have HR := Lib.hid (show ∀ j, j < k + 1 → ∀ p, G[j]? = some p → p.2.length ≤ 256 from fun j hj q hq => by
          by_cases e : j = k
          · subst e; rw [HX.out] at hq; cases hq; omega
          · exact HB.out j (by omega) q hq)
        clear hb
        go_wp2_with fail
        go_roundw
        case rel => exact ⟨k + 1, by omega, by go_num, by first | rfl | trivial, HR⟩
        case measure => simp [intOf]; omega
    · obtain rfl : k = n := by omega
      have HS := Lib.hid (chk_short HB.out HN.out)
      clear HB HB0
      have HB0 := Lib.hid (show Below wr.heap.size wr wr ∧ ∀ j, j < 0 → ∀ p, G[j]? = some p → allRight p.2 = true from ⟨Below.refl _ _, fun j hj => by omega⟩)
      go_wp2_with fail
      go_loopw [6, 21] (fun _ i wx => ∃ (i0 : Nat), i0 ≤ k ∧ i = .int .i64 i0 ∧ Hid (Below wr.heap.size wr wx ∧ ∀ j, j < i0 → ∀ p, G[j]? = some p → allRight p.2 = true)) (fun _ i _ => k - (intOf i).toNat)
      case atStart => exact ⟨0, Nat.zero_le _, rfl, HB0⟩
      case round =>
        rename World => wx
        obtain ⟨i0, hi0, rfl, HB⟩ := hrel
        by_cases hlt2 : i0 < k
        · have hki : (i0 : Int) < (k : Int) := by omega
          have hkl : i0 < G.length := by rw [← HN.out]; exact hlt2
          have hx : G[i0]? = some G[i0] := List.getElem?_eq_getElem hkl
          obtain ⟨g, o, rfl, hg, a0, hR⟩ := (HL.out.below HB.out.1).head hx
          have HM := Lib.hid (HL2.out _ (List.getElem_mem hkl))
          generalize G[i0] = p at *
          have HX := Lib.hid hx
          have HR := Lib.hid hR
          obtain ⟨⟨PA, pn, pc⟩, L⟩ := p
          simp only at a0 HR HM HX
          clear hx hg hR
          obtain ⟨m, hm⟩ : ∃ m, m = L.length := ⟨_, rfl⟩
          rw [← hm] at a0 HR HM
          have HMN := Lib.hid hm; clear hm
          have hm9 : m ≤ 1000000 := HM.out
          have HC0 := Lib.hid (show Below wr.heap.size wr wx ∧ ∀ j, j < 0 → ∀ x, L[j]? = some x → rightX x = true from ⟨HB.out.1, fun j hj => by omega⟩)
          go_wp2_with fail
          go_loopw [27] (fun i wy => ∃ (j0 : Nat), j0 ≤ m ∧ i = .int .i64 j0 ∧ Hid (Below wr.heap.size wr wy ∧ Below wx.heap.size wx wy ∧ ∀ j, j < j0 → ∀ x, L[j]? = some x → rightX x = true)) (fun i _ => m - (intOf i).toNat)
          case atStart => exact ⟨0, Nat.zero_le _, rfl, Lib.hid ⟨HC0.out.1, Below.refl _ _, HC0.out.2⟩⟩
          case round =>
            rename World => wy
            obtain ⟨j0, hj0, rfl, HC⟩ := hrel
            by_cases hlt3 : j0 < m
            · have hki3 : (j0 : Int) < (m : Int) := by omega
              have hkl3 : j0 < L.length := by rw [← HMN.out]; exact hlt3
              have hx : L[j0]? = some L[j0] := List.getElem?_eq_getElem hkl3
              obtain ⟨g2, o2, rfl, hg2, b0, b1, b2, b3⟩ := (HR.out.below HC.out.2.1).rect hx
              generalize L[j0] = x at *
              have HX3 := Lib.hid hx
              clear hx hg2 a0
              go_wp2_with fail
              refine (right_any _ _ _ _ _).mono ?_
              rintro e w1 ⟨rfl, hb⟩
              have hal : Below wy.heap.size wy (wy.alloc (.cells #[.int .i64 x.x0, .int .i64 x.y0, .int .i64 x.x1, .int .i64 x.y1] 39)) := (Below.refl _ _).alloc (Nat.le_refl _) _
              have HB1 := Lib.hid (show Below wr.heap.size wr w1 from below_trans (below_trans HC.out.1 hal) hb)
              have HB2 := Lib.hid (show Below wx.heap.size wx w1 from below_trans (below_trans HC.out.2.1 hal) hb)
              clear hb hal b0 b1 b2 b3
              cases hr : rightB x.x0 x.y0 x.x1 x.y1 with
              | false =>
                have HZ := Lib.hid (chk_arg HS.out HX.out (not_right HX3.out hr))
                go_wp2
                go_ret
                exact ⟨by rw [HZ.out]; rfl, HB1.out⟩
              | true =>
                have HRR := Lib.hid (show ∀ j, j < j0 + 1 → ∀ x, L[j]? = some x → rightX x = true from fun j hj y hy => by
                  by_cases e : j = j0
                  · subst e; rw [HX3.out] at hy; cases hy; exact hr
                  · exact HC.out.2.2 j (by omega) y hy)
                go_wp2_with fail
                go_roundw
                case rel => exact ⟨j0 + 1, by omega, by go_num, Lib.hid ⟨HB1.out, HB2.out, HRR.out⟩⟩
                case measure => simp [intOf]; omega
            · obtain rfl : j0 = m := by omega
              have HA := Lib.hid (take_right HC.out.2.2 HMN.out)
              have HRR := Lib.hid (show Below wr.heap.size wr wy ∧ ∀ j, j < i0 + 1 → ∀ p, G[j]? = some p → allRight p.2 = true from ⟨HC.out.1, fun j hj q hq => by
                by_cases e : j = i0
                · subst e; rw [HX.out] at hq; cases hq; exact HA.out
                · exact HB.out.2 j (by omega) q hq⟩)
              clear HC HA a0
              go_wp2_with fail
              go_roundw
              case rel => exact ⟨i0 + 1, by omega, by go_num, HRR⟩
              case measure => simp [intOf]; omega
        · obtain rfl : i0 = k := by omega
          have HZ := Lib.hid (chk_ok HS.out HB.out.2 HN.out)
          go_wp2
          go_ret
          exact ⟨by rw [HZ.out]; rfl, HB.out.1⟩
/-- Which points count, of the document's three kinds. -/
def cHow (how : Int) (p q : Bool) : Bool := if how = 1 then p && !q else if how = 2 then p && q else p || q
set_option maxHeartbeats 2000000 in
theorem counts_any (w : World) (v1 v2 : Value) (L M : List Bx) (x y how : Int) (h1 : ERd elR w v1 L) (h2 : ERd elR w v2 M) (hl : L.length ≤ 1000000) (hm : M.length ≤ 1000000) :
    Calls Try.prog 46 #[v1, v2, .int .i64 x, .int .i64 y, .int .i64 how] w fun e w' => e = .returned (.bool (cHow how (hasAny L x y) (hasAny M x y))) ∧ Below w.heap.size w w' := by
  have H1 := Lib.hid (rhas13_any w v1 L x y h1 hl)
  have H2 := Lib.hid (fun W (hW : Below w.heap.size w W) => rhas13_any W v2 M x y (h2.below hW) hm)
  clear h1 h2
  generalize hasAny L x y = p at *
  generalize hasAny M x y = q at *
  have HE := Lib.hid (show (how = 1 → ∀ p q, cHow how p q = (p && !q)) ∧ (how = 2 → ∀ p q, cHow how p q = (p && q)) ∧ (how ≠ 1 → how ≠ 2 → ∀ p q, cHow how p q = (p || q)) from ⟨fun h p q => by rw [cHow, if_pos h], fun h p q => by rw [cHow, if_neg (by omega), if_pos h], fun h h2 p q => by rw [cHow, if_neg h, if_neg h2]⟩)
  generalize cHow how = CH at *
  go_enter Try.func46, Try.ntmps46
  go_wp2_with fail
  refine H1.out.mono ?_
  rintro e w1 ⟨rfl, hb1⟩
  have HB1 := Lib.hid hb1
  clear hb1
  go_wp2_with fail
  refine (H2.out w1 HB1.out).mono ?_
  rintro e w2 ⟨rfl, hb2⟩
  have HB2 := Lib.hid (below_trans HB1.out hb2)
  clear hb2
  by_cases g1 : how = 1
  · subst g1
    cases p <;> cases q <;> (go_wp2; go_ret; exact ⟨by rw [HE.out.1 (by first | rfl | trivial)]; rfl, HB2.out⟩)
  · have g1b : (how == 1) = false := by simpa using g1
    by_cases g2 : how = 2
    · subst g2
      cases p <;> cases q <;> (go_wp2; go_ret; exact ⟨by rw [HE.out.2.1 (by first | rfl | trivial)]; rfl, HB2.out⟩)
    · have g2b : (how == 2) = false := by simpa using g2
      have HF := Lib.hid (HE.out.2.2 g1 g2)
      clear g1 g2
      cases p <;> cases q <;> (go_wp2; go_ret; exact ⟨by rw [HF.out]; rfl, HB2.out⟩)

theorem union1_any (p q : Bool) (w : World) : Calls Try.prog 27 #[.bool p, .bool q] w fun e w' => e = .returned (.bool (p || q)) ∧ w = w' := by
  cases p <;> cases q <;> (go_enter Try.func27, Try.ntmps27; go_wp2; go_ret; exact ⟨rfl, rfl⟩)
theorem minus1_any (p q : Bool) (w : World) : Calls Try.prog 28 #[.bool p, .bool q] w fun e w' => e = .returned (.bool (p && !q)) ∧ w = w' := by
  cases p <;> cases q <;> (go_enter Try.func28, Try.ntmps28; go_wp2; go_ret; exact ⟨rfl, rfl⟩)
theorem meet1_any (p q : Bool) (w : World) : Calls Try.prog 29 #[.bool p, .bool q] w fun e w' => e = .returned (.bool (p && q)) ∧ w = w' := by
  cases p <;> cases q <;> (go_enter Try.func29, Try.ntmps29; go_wp2; go_ret; exact ⟨rfl, rfl⟩)
theorem same1_any (p q : Bool) (w : World) : Calls Try.prog 40 #[.bool p, .bool q] w fun e w' => e = .returned (.bool (p != q)) ∧ w = w' := by
  cases p <;> cases q <;> (go_enter Try.func40, Try.ntmps40; go_wp2; go_ret; exact ⟨rfl, rfl⟩)
end Go.Proofs.Ytimfcgnnfgoaaaa
