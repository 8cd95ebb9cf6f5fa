/- A table behind operations, by contract. -/
import Derived.Test.YtmlmndaflgfdkaaTo21
import Derived.Test.YtmlmndaflgfdkaaToH
import Derived.StillTailTactics
namespace Go.Proofs.Ytmlmndaflgfdkaa
set_option linter.unusedVariables false
set_option linter.unusedSimpArgs false
open Go.RowKit
def elO : El Ot := { T := 32, k := 12, by_ := 96, z := wOp, enc := fun o => [.int .i64 o.kind, .int .u64 o.src, .int .u64 o.draw, .int .i64 o.g.ops, .int .i64 o.g.zoom, .int .i64 o.g.x0, .int .i64 o.g.y0, .int .i64 o.g.x1, .int .i64 o.g.y1, .bool o.g.void, .int .i64 o.g.til, .int .i64 o.now] }
theorem elO_ok : elO.Ok := ⟨by decide, fun _ => rfl, fun x u hu => by simp only [elO, List.mem_cons, List.not_mem_nil, or_false] at hu; rcases hu with rfl | rfl | rfl | rfl | rfl | rfl | rfl | rfl | rfl | rfl | rfl | rfl <;> rfl, by kernel_rfl, rfl, by decide⟩
theorem list_of {α : Type} (n : Nat) {Q : Nat → α → Prop} (h : ∀ i, i < n → ∃ x, Q i x) : ∃ l : List α, l.length = n ∧ ∀ i x, l[i]? = some x → Q i x := by
  induction n with
  | zero => exact ⟨[], rfl, fun i x hx => by simp at hx⟩
  | succ n ih =>
    obtain ⟨l, h1, h2⟩ := ih fun i hi => h i (by omega)
    obtain ⟨y, hy⟩ := h n (by omega)
    refine ⟨l ++ [y], by simp [h1], fun i x hx => ?_⟩
    by_cases hi : i < l.length
    · rw [List.getElem?_append_left hi] at hx
      exact h2 i x hx
    · rw [List.getElem?_append_right (by omega)] at hx
      have h0 : i - l.length = 0 := by
        by_cases h0 : i - l.length = 0
        · exact h0
        · obtain ⟨m, hm⟩ : ∃ m, i - l.length = m + 1 := ⟨i - l.length - 1, by omega⟩
          rw [hm] at hx; simp at hx
      rw [h0] at hx
      simp at hx
      subst hx
      have : i = n := by omega
      subst this
      exact hy
theorem ops_of {w : World} {a : Option Addr} {len cap : Nat} (h : IsSl w 12 okOp a len cap) : ∃ L : List Ot, ERd elO w (.slice a len cap) L ∧ L.length = len ∧ ∀ o ∈ L, o.I := by
  have hq : ∀ i, i < len → ∃ b : Ot, b.I ∧ ∃ g o, a = some ⟨g, o, none⟩ ∧ ∀ j u, (elO.enc b)[j]? = some u → w.cell? ⟨g, o + i * 12 + j, none⟩ = some u := by
    intro i hi
    obtain ⟨xb, xo, cs, rfl, hl, hcell, b, hI, h0, h1, h2, h3, h4, h5, h6, h7, h8, h9, h10, h11⟩ := h.at2 i hi (by decide)
    refine ⟨b, hI, xb, xo, rfl, fun j u hu => ?_⟩
    have hj : cs[j]? = some u := by
      match j, hu with
      | 0, hu => simp [elO] at hu; rw [h0, hu]
      | 1, hu => simp [elO] at hu; rw [h1, hu]
      | 2, hu => simp [elO] at hu; rw [h2, hu]
      | 3, hu => simp [elO] at hu; rw [h3, hu]
      | 4, hu => simp [elO] at hu; rw [h4, hu]
      | 5, hu => simp [elO] at hu; rw [h5, hu]
      | 6, hu => simp [elO] at hu; rw [h6, hu]
      | 7, hu => simp [elO] at hu; rw [h7, hu]
      | 8, hu => simp [elO] at hu; rw [h8, hu]
      | 9, hu => simp [elO] at hu; rw [h9, hu]
      | 10, hu => simp [elO] at hu; rw [h10, hu]
      | 11, hu => simp [elO] at hu; rw [h11, hu]
      | j + 12, hu => simp [elO] at hu
    have := hcell j u hj
    rwa [← Nat.add_assoc] at this
  obtain ⟨L, h1, h2⟩ := list_of len hq
  obtain ⟨l1, l2⟩ := h.le
  refine ⟨L, ⟨a, cap, by rw [h1], by omega, l2, fun i x hx => ?_⟩, h1, fun o ho => ?_⟩
  · obtain ⟨_, g, o, e, hc⟩ := h2 i x hx
    exact ⟨g, o, e, fun j u hu => hc j u hu⟩
  · obtain ⟨i, hi, rfl⟩ := List.getElem_of_mem ho
    exact (h2 i _ (List.getElem?_eq_getElem hi)).1
theorem ERd.twelve {w : World} {A : Option Addr} {n c : Nat} {L : List Ot} (h : ERd elO w (.slice A n c) L) {i : Nat} {x : Ot} (hi : L[i]? = some x) : ∃ g o, A = some ⟨g, o, none⟩ ∧ w.cell? ⟨g, o + i * 12, none⟩ = some (.int .i64 x.kind) ∧ w.cell? ⟨g, o + i * 12 + 1, none⟩ = some (.int .u64 x.src) ∧ w.cell? ⟨g, o + i * 12 + 2, none⟩ = some (.int .u64 x.draw) ∧ w.cell? ⟨g, o + i * 12 + 3, none⟩ = some (.int .i64 x.g.ops) ∧ w.cell? ⟨g, o + i * 12 + 4, none⟩ = some (.int .i64 x.g.zoom) ∧ w.cell? ⟨g, o + i * 12 + 5, none⟩ = some (.int .i64 x.g.x0) ∧ w.cell? ⟨g, o + i * 12 + 6, none⟩ = some (.int .i64 x.g.y0) ∧ w.cell? ⟨g, o + i * 12 + 7, none⟩ = some (.int .i64 x.g.x1) ∧ w.cell? ⟨g, o + i * 12 + 8, none⟩ = some (.int .i64 x.g.y1) ∧ w.cell? ⟨g, o + i * 12 + 9, none⟩ = some (.bool x.g.void) ∧ w.cell? ⟨g, o + i * 12 + 10, none⟩ = some (.int .i64 x.g.til) ∧ w.cell? ⟨g, o + i * 12 + 11, none⟩ = some (.int .i64 x.now) := by
  obtain ⟨A', c', e, h1, h2, h3⟩ := h
  injection e with e1 e2 e3
  subst e1
  obtain ⟨g, o, rfl, hc⟩ := h3 i x hi
  exact ⟨g, o, rfl, hc 0 _ rfl, hc 1 _ rfl, hc 2 _ rfl, hc 3 _ rfl, hc 4 _ rfl, hc 5 _ rfl, hc 6 _ rfl, hc 7 _ rfl, hc 8 _ rfl, hc 9 _ rfl, hc 10 _ rfl, hc 11 _ rfl⟩
theorem below_ke {B y : Nat} {v : Value} {w w1 w2 : World} (h : Below B w w1) (k : KeT y v w1 w2) (hy : B ≤ y) (hv : ∀ i, v.ownBlock = some i → B ≤ i) (hs : B ≤ w1.heap.size) : Below B w w2 :=
  ⟨k.os.trans h.os, k.tape.trans h.tape, k.output.trans h.output, Nat.le_trans h.size k.size, fun i hi => (k.block i (by omega) (by omega) (fun e => by have := hv i e; omega)).trans (h.block i hi)⟩
/-- What is told of a table that was made and played with. -/
def PlP (w : World) (e : Ending) (w' : World) : Prop := ∃ (y : Nat) (v : Value) (L : List Tk), e = .returned (ptrA y) ∧ Below w.heap.size w w' ∧ TB w' y v L ∧ TOk L ∧ w.heap.size ≤ y ∧ ∀ i, v.ownBlock = some i → w.heap.size ≤ i
set_option maxRecDepth 100000 in
set_option maxHeartbeats 8000000 in
theorem played_any (w : World) (u : Value) (O : List Ot) (h : ERd elO w u O) (hO : ∀ o ∈ O, o.I) : Calls Try.prog 29 #[u] w (PlP w) := by
  obtain ⟨A1, c1, rfl, hc1, hc2⟩ := h.shape
  have HL := Lib.hid h
  clear h
  obtain ⟨n, hn⟩ : ∃ n, n = O.length := ⟨_, rfl⟩
  rw [← hn] at HL hc1 ⊢
  have HN := Lib.hid hn; clear hn
  have hmx : n ≤ 9223372036854775807 := by unfold maxLen at hc2; omega
  clear hc1 hc2
  go_enter Try.func29, Try.ntmps29
  go_wp2_with fail
  refine (tnew_any _).mono ?_
  rintro e w1 ⟨rfl, hT1, hb1⟩
  have HT1 := Lib.hid hT1
  have HB1 := Lib.hid hb1
  clear hT1 hb1
  obtain ⟨y, hy⟩ : ∃ y, w.heap.size = y := ⟨_, rfl⟩
  rw [hy] at HT1 ⊢
  have HY : Hid (w.heap.size ≤ y) := by unfold Hid; omega
  clear hy
  go_wp2_with fail
  go_loopw [4] (fun i wr => ∃ (k : Nat) (v0 : Value) (L : List Tk), k ≤ n ∧ i = .int .i64 k ∧ Hid (Below w.heap.size w wr) ∧ Hid (TB wr y v0 L) ∧ Hid (TOk L) ∧ Hid (∀ i, v0.ownBlock = some i → w.heap.size ≤ i)) (fun i _ => n - (intOf i).toNat)
  case atStart => exact ⟨0, _, [], Nat.zero_le _, rfl, HB1.out, HT1.out, TOk.nil, fun i hi => by simp [Value.ownBlock] at hi⟩
  case round =>
    rename World => wr
    clear HT1 HB1
    obtain ⟨k, v0, L, hk, rfl, HB, HT, HK, HV⟩ := hrel
    by_cases hlt : k < n
    · have hd1 : decide ((k : Int) < (n : Int)) = true := by simp; exact hlt
      by_cases h40 : k < 40
      · have hd2 : decide ((k : Int) < 40) = true := by simp; omega
        have hkl : k < O.length := by rw [← HN.out]; exact hlt
        have hx : O[k]? = some O[k] := List.getElem?_eq_getElem hkl
        have hI := hO _ (List.getElem_mem hkl)
        obtain ⟨g, o, rfl, b0, b1, b2, b3, b4, b5, b6, b7, b8, b9, b10, b11⟩ := (HL.out.below HB.out).twelve hx
        have HSO := Lib.hid HK.out.so
        have HLE := Lib.hid (show L.length ≤ 1000 by have := HK.out.len; omega)
        generalize O[k] = x at *
        clear hx
        have hsr := hI.src
        have hdr := hI.draw
        clear hI
        obtain ⟨kd, sr, dr, ⟨g0, g1, g2, g3, g4, g5, g6, g7⟩, nw⟩ := x
        simp only at b0 b1 b2 b3 b4 b5 b6 b7 b8 b9 b10 b11 hsr hdr
        have hlt2 : (k : Int) < n := by omega
        by_cases hk0 : kd = 0
        · have hke : (kd == 0) = true := by simpa using hk0
          clear hk0
          go_upto_region 7 with fail
          have HC := Lib.hid (fun (W : World) (h : TB W y v0 L) => mint_any W y dr v0 L ⟨g0, g1, g2, g3, g4, g5, g6, g7⟩ nw h HLE.out HSO.out hdr)
          go_still_tail 16, (by kernel_rfl)
          change wpList _ _ _ _ _ wr.drew
          have HB1 := Lib.hid (show Below w.heap.size w wr.drew from below_drawn HB.out 1)
          have HT1 := Lib.hid (show TB wr.drew y v0 L from HT.out.below (below_drawn (Below.refl _ _) 1))
          clear HB HT b0 b1 b2 b3 b4 b5 b6 b7 b8 b9 b10 b11
          generalize wr.drew = W1 at *
          go_wp2_with fail
          refine (HC.out _ HT1.out).mono ?_
          rintro e w2 ⟨v2, rfl, hT2⟩
          have HB2 := Lib.hid (below_ke HB1.out hT2.ke HY.out HV.out HB1.out.size)
          have HT2 := Lib.hid hT2.tb
          have HV2 := Lib.hid (show ∀ i, v2.ownBlock = some i → w.heap.size ≤ i from fun i hi => by
            rcases hT2.far i hi with h | h
            · exact HV.out i h
            · exact Nat.le_trans HB1.out.size h)
          have HK2 := Lib.hid ((HK.out.left nw).mint dr ⟨g0, g1, g2, g3, g4, g5, g6, g7⟩ hdr)
          clear hT2 HB1 HT1 HC
          go_wp2
          go_roundw
          case rel => exact ⟨k + 1, v2, _, by omega, by go_num, HB2, HT2, HK2, HV2⟩
          case measure => simp [intOf]; omega

        · have hke : (kd == 0) = false := by simpa using hk0
          by_cases hk1 : kd = 1
          · have hke1 : (kd == 1) = true := by simpa using hk1
            clear hk1 hk0
            go_upto_region 9 with fail
            have HC := Lib.hid (fun (W : World) (h : TB W y v0 L) => derive_any W y sr dr v0 L ⟨g0, g1, g2, g3, g4, g5, g6, g7⟩ nw h HLE.out HSO.out hdr hsr)
            go_still_tail 21, (by kernel_rfl)
            change wpList _ _ _ _ _ wr.drew
            have HB1 := Lib.hid (show Below w.heap.size w wr.drew from below_drawn HB.out 1)
            have HT1 := Lib.hid (show TB wr.drew y v0 L from HT.out.below (below_drawn (Below.refl _ _) 1))
            clear HB HT b0 b1 b2 b3 b4 b5 b6 b7 b8 b9 b10 b11
            generalize wr.drew = W1 at *
            go_wp2_with fail
            refine (HC.out _ HT1.out).mono ?_
            rintro e w2 ⟨v2, rfl, hT2⟩
            have HB2 := Lib.hid (below_ke HB1.out hT2.ke HY.out HV.out HB1.out.size)
            have HT2 := Lib.hid hT2.tb
            have HV2 := Lib.hid (show ∀ i, v2.ownBlock = some i → w.heap.size ≤ i from fun i hi => by
              rcases hT2.far i hi with h | h
              · exact HV.out i h
              · exact Nat.le_trans HB1.out.size h)
            have HK2 := Lib.hid ((HK.out.left nw).derive sr dr ⟨g0, g1, g2, g3, g4, g5, g6, g7⟩ hsr hdr)
            clear hT2 HB1 HT1 HC
            go_wp2
            go_roundw
            case rel => exact ⟨k + 1, v2, _, by omega, by go_num, HB2, HT2, HK2, HV2⟩
            case measure => simp [intOf]; omega

          · have hke1 : (kd == 1) = false := by simpa using hk1
            by_cases hk2 : kd = 2
            · have hke2 : (kd == 2) = true := by simpa using hk2
              clear hk2 hk1 hk0
              go_upto_region 11 with fail
              have HC := Lib.hid (fun (W : World) (h : TB W y v0 L) => revoke_any W y sr v0 L nw h HLE.out HSO.out hsr)
              go_still_tail 11, (by kernel_rfl)
              change wpList _ _ _ _ _ wr.drew
              have HB1 := Lib.hid (show Below w.heap.size w wr.drew from below_drawn HB.out 1)
              have HT1 := Lib.hid (show TB wr.drew y v0 L from HT.out.below (below_drawn (Below.refl _ _) 1))
              clear HB HT b0 b1 b2 b3 b4 b5 b6 b7 b8 b9 b10 b11
              generalize wr.drew = W1 at *
              go_wp2_with fail
              refine (HC.out _ HT1.out).mono ?_
              rintro e w2 ⟨v2, rfl, hT2⟩
              have HB2 := Lib.hid (below_ke HB1.out hT2.ke HY.out HV.out HB1.out.size)
              have HT2 := Lib.hid hT2.tb
              have HV2 := Lib.hid (show ∀ i, v2.ownBlock = some i → w.heap.size ≤ i from fun i hi => by
                rcases hT2.far i hi with h | h
                · exact HV.out i h
                · exact Nat.le_trans HB1.out.size h)
              have HK2 := Lib.hid ((HK.out.left nw).rev sr)
              clear hT2 HB1 HT1 HC
              go_wp2
              go_roundw
              case rel => exact ⟨k + 1, v2, _, by omega, by go_num, HB2, HT2, HK2, HV2⟩
              case measure => simp [intOf]; omega

            · have hke2 : (kd == 2) = false := by simpa using hk2
              clear hk2 hk1 hk0
              go_wp2
              go_roundw
              case rel => exact ⟨k + 1, v0, L, by omega, by go_num, HB, HT, HK, HV⟩
              case measure => simp [intOf]; omega
      · have hd2 : decide ((k : Int) < 40) = false := by simp; omega
        go_wp2
        go_ret
        exact ⟨y, v0, L, rfl, HB.out, HT.out, HK.out, HY.out, HV.out⟩
    · have hd1 : decide ((k : Int) < (n : Int)) = false := by simp; omega
      obtain rfl : k = n := by omega
      go_wp2
      go_ret
      exact ⟨y, v0, L, rfl, HB.out, HT.out, HK.out, HY.out, HV.out⟩
end Go.Proofs.Ytmlmndaflgfdkaa
