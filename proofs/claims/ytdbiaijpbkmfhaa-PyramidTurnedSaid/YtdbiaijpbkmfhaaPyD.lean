/- pyramid: the document's Level, by contract. -/
import Derived.Test.YtdbiaijpbkmfhaaPyC
namespace Go.Proofs.Ytdbiaijpbkmfhaa
set_option linter.unusedVariables false
set_option linter.unusedSimpArgs false
open Go.RowKit
/-- How many fresh codes the first k points have. -/
def lvN (S : List Pn) (l k : Nat) : Nat := nd ((S.take k).reverse.map (codeAt l))
def seen (S : List Pn) (l k m : Nat) : Bool := !(decide (codeAt l (at_ S k) ∈ (S.take m).map (codeAt l)))
theorem lvN_zero (S : List Pn) (l : Nat) : lvN S l 0 = 0 := by simp [lvN, nd]
theorem lvN_more (S : List Pn) (l k : Nat) (hk : k < S.length) : lvN S l (k + 1) = if seen S l k k = true then lvN S l k + 1 else lvN S l k := by
  unfold lvN seen
  rw [take_more hk, List.reverse_append, List.reverse_singleton, List.singleton_append, List.map_cons, nd]
  by_cases h : codeAt l (at_ S k) ∈ (S.take k).map (codeAt l)
  · have h2 : codeAt l (at_ S k) ∈ (S.take k).reverse.map (codeAt l) := by simpa using h
    rw [if_pos h2, if_neg (by rw [decide_eq_true h]; decide)]
  · have h2 : ¬ codeAt l (at_ S k) ∈ (S.take k).reverse.map (codeAt l) := by simpa using h
    rw [if_neg h2, if_pos (by rw [decide_eq_false h]; decide)]
theorem lvN_all (S : List Pn) (l : Nat) : lvN S l S.length = nd (S.map (codeAt l)) := by
  rw [lvN, List.take_of_length_le (Nat.le_refl _)]
  exact nd_perm ((List.reverse_perm S).map _)
theorem lvN_le (S : List Pn) (l k : Nat) : lvN S l k ≤ k := by
  have := nd_le ((S.take k).reverse.map (codeAt l))
  rw [List.length_map, List.length_reverse, List.length_take] at this
  unfold lvN
  omega
theorem seen_zero (S : List Pn) (l k : Nat) : seen S l k 0 = true := by simp [seen]
theorem seen_more (S : List Pn) (l k m : Nat) (hm : m < S.length) : seen S l k (m + 1) = (seen S l k m && !(codeAt l (at_ S k) == codeAt l (at_ S m))) := by
  unfold seen
  rw [take_more hm, List.map_append, Bool.eq_iff_iff]
  simp only [List.mem_append, List.map_cons, List.map_nil, List.mem_singleton, Bool.and_eq_true, Bool.not_eq_true', decide_eq_false_iff_not, beq_eq_false_iff_ne, ne_eq, not_or]
theorem same_cell (p q : Pn) (l : Nat) (hl : l < 17) (hp : fitsB p.1 p.2 = true) (hq : fitsB q.1 q.2 = true) :
    (codeAt l p = codeAt l q) ↔ (a1 16 p.1 p.2 (l : Int) = a1 16 q.1 q.2 (l : Int) ∧ a2 16 p.1 p.2 (l : Int) = a2 16 q.1 q.2 (l : Int)) := by
  have h1 := lev_ok p l hl hp
  have h2 := lev_ok q l hl hq
  constructor
  · intro e
    have a := code_back _ _ _ h1.2.2
    have b := code_back _ _ _ h2.2.2
    rw [codeAt, codeAt] at e
    rw [e] at a
    exact ⟨a.2.2.1.symm.trans b.2.2.1, a.2.2.2.symm.trans b.2.2.2⟩
  · rintro ⟨f1, f2⟩
    rw [codeAt, codeAt, f1, f2]
attribute [local go_sem] eq_cellV
set_option maxRecDepth 100000 in
set_option maxHeartbeats 16000000 in
theorem rlevel_yes (A : Option Addr) (n c l : Nat) (S : List Pn) (w : World) (h : Rd w A n c S) (hn : n ≤ 1000000) (hl : l < 17) (hfit : FitS S) :
    Calls Try.prog 23 #[.slice A n c, .int .i64 (l : Int)] w fun e w' => e = .returned (.int .i64 (lvN S l n : Int)) ∧ Below w.heap.size w w' := by
  have hSn := Lib.hid h.1
  have HH := Lib.hid h; clear h
  have HF := Lib.hid hfit; clear hfit
  have HLV := Lib.hid (rlevel_any (l : Int))
  rw [(levB_iff (l : Int)).2 (by omega)] at HLV
  have HAT := Lib.hid (fun i (hi : i < n) => HF.out (at_ S i) (by rw [at_get (by rw [hSn.out]; exact hi)]; exact List.getElem_mem _))
  go_enter Try.func23, Try.ntmps23
  go_wp2
  go_loopw [5, 6] (fun m i wr => ∃ (k : Nat), k ≤ n ∧ i = .int .i64 k ∧ m = .int .i64 (lvN S l k : Int) ∧ Hid (Below w.heap.size w wr)) (fun _ i _ => n - (intOf i).toNat)
  case atStart => exact ⟨0, Nat.zero_le _, rfl, by rw [lvN_zero]; rfl, Lib.hid (Below.refl _ _)⟩
  case round =>
    obtain ⟨k, hk, rfl, rfl, HR⟩ := hrel
    have hle := lvN_le S l k
    by_cases hlt : k < n
    · have hki : (k : Int) < (n : Int) := by omega
      have hle2 : (lvN S l k : Int) ≤ 1000000 := by omega
      have HMO := Lib.hid (lvN_more S l k (by rw [hSn.out]; exact hlt))
      generalize hm1 : lvN S l k = m1 at *
      generalize hm2 : lvN S l (k + 1) = m2 at *
      obtain ⟨g, off, rfl, p0, p1⟩ := HH.out.cell hlt
      clear hle
      go_wp2_with fail
      refine (HLV.out _).mono ?_
      rintro e w1 ⟨rfl, hb1⟩
      subst hb1
      have HB1 := Lib.hid HR.out
      have q0 := cell_later HB1.out p0
      have q1 := cell_later HB1.out p1
      have HPK := Lib.hid (HAT.out k hlt)
      have hlk := lev_ok (at_ S k) l hl HPK.out
      have HOF := Lib.hid (rof_u (at_ S k).1 (at_ S k).2 (l : Int))
      rw [hlk.1, hlk.2.1] at HOF
      clear hlk p0 p1
      have HSAME := Lib.hid (fun i (hi : i < n) => same_cell (at_ S k) (at_ S i) l hl (HAT.out k hlt) (HAT.out i hi))
      generalize hax : a1 16 (at_ S k).1 (at_ S k).2 (l : Int) = ax at *
      generalize hay : a2 16 (at_ S k).1 (at_ S k).2 (l : Int) = ay at *
      clear hax hay
      generalize hp0 : (at_ S k).1 = px at *
      generalize hp1 : (at_ S k).2 = py at *
      clear hp0 hp1
      go_wp2_with fail
      refine (HOF.out _).mono ?_
      rintro e w2 ⟨rfl, hb2⟩
      have hA2 : Below w2.heap.size w2 (w2.alloc (.cells #[.int .i64 (l : Int), .int .i64 ax, .int .i64 ay] 24)) := (Below.refl _ _).alloc (Nat.le_refl _) _
      have HB2 := Lib.hid (below_trans (below_trans HB1.out hb2) hA2)
      have HK2 := Lib.hid (Blk.new w2 24 #[.int .i64 (l : Int), .int .i64 ax, .int .i64 ay])
      clear hb2 hA2 q0 q1 HB1
      go_wp2_with fail
      generalize w2.alloc (.cells #[.int .i64 (l : Int), .int .i64 ax, .int .i64 ay] 24) = W2 at *
      generalize w2.heap.size = b8 at *
      go_loopw [7, 10] (fun f j wr2 => ∃ (m : Nat), m ≤ k ∧ j = .int .i64 m ∧ f = .bool (seen S l k m) ∧ Hid (Below w.heap.size w wr2 ∧ Blk wr2 b8 24 #[.int .i64 (l : Int), .int .i64 ax, .int .i64 ay])) (fun _ j _ => k - (intOf j).toNat)
      case atStart => exact ⟨0, Nat.zero_le _, rfl, by rw [seen_zero], Lib.hid ⟨HB2.out, HK2.out⟩⟩
      case round =>
        obtain ⟨m, hm, rfl, rfl, HR2⟩ := hrel
        by_cases hmk : m < k
        · have hmi : (m : Int) < (k : Int) := by omega
          obtain ⟨g', off', he, p0, p1⟩ := HH.out.cell (show m < n by omega)
          cases he
          have q0 := cell_later HR2.out.1 p0
          have q1 := cell_later HR2.out.1 p1
          have hlk := lev_ok (at_ S m) l hl (HAT.out m (by omega))
          have HOF2 := Lib.hid (rof_u (at_ S m).1 (at_ S m).2 (l : Int))
          rw [hlk.1, hlk.2.1] at HOF2
          have HSE := Lib.hid (seen_more S l k m (by rw [hSn.out]; omega))
          have HSM := Lib.hid (HSAME.out m (by omega))
          clear hlk p0 p1
          generalize hax : a1 16 (at_ S m).1 (at_ S m).2 (l : Int) = bx at *
          generalize hay : a2 16 (at_ S m).1 (at_ S m).2 (l : Int) = by' at *
          clear hax hay
          generalize hp0 : (at_ S m).1 = px at *
          generalize hp1 : (at_ S m).2 = py at *
          clear hp0 hp1
          go_wp2_with fail
          refine (HOF2.out _).mono ?_
          rintro e w3 ⟨rfl, hb3⟩
          have hA3 : Below w3.heap.size w3 (w3.alloc (.cells #[.int .i64 (l : Int), .int .i64 bx, .int .i64 by'] 24)) := (Below.refl _ _).alloc (Nat.le_refl _) _
          have HB3 := Lib.hid (below_trans HR2.out.1 (below_trans hb3 hA3))
          have HK3 := Lib.hid (HR2.out.2.thru0 (below_trans hb3 hA3))
          have HC3 := Lib.hid (Blk.new w3 24 #[.int .i64 (l : Int), .int .i64 bx, .int .i64 by'])
          clear hb3 hA3 q0 q1
          have x0 := HK3.out.cell 0
          have x1 := HK3.out.cell 1
          have x2 := HK3.out.cell 2
          have y0 := HC3.out.cell 0
          have y1 := HC3.out.cell 1
          have y2 := HC3.out.cell 2
          simp only [List.getElem?_toArray, List.getElem?_cons_zero, List.getElem?_cons_succ] at x0 x1 x2 y0 y1 y2
          generalize hs1 : seen S l k m = s1 at *
          generalize hs2 : seen S l k (m + 1) = s2 at *
          cases s1 with
          | false =>
            have HE := Lib.hid (show s2 = false by have := HSE.out; simpa using this)
            go_wp2_with fail
            go_roundw
            case rel => exact ⟨m + 1, by omega, by go_num, by rw [hs2, HE.out], Lib.hid ⟨HB3.out, HK3.out⟩⟩
            case measure => simp [intOf]; omega
          | true =>
            by_cases hc : codeAt l (at_ S k) = codeAt l (at_ S m)
            · have HE := Lib.hid (show s2 = false by have := HSE.out; simpa [hc] using this)
              obtain ⟨rfl, rfl⟩ := HSM.out.1 hc
              clear hc
              go_wp2_with fail
              go_roundw
              case rel => exact ⟨m + 1, by omega, by go_num, by rw [hs2, HE.out], Lib.hid ⟨HB3.out, HK3.out⟩⟩
              case measure => simp [intOf]; omega
            · have HE := Lib.hid (show s2 = true by have := HSE.out; rw [show (codeAt l (at_ S k) == codeAt l (at_ S m)) = false from beq_eq_false_iff_ne.2 hc] at this; simpa using this)
              have hne : (ax == bx && ay == by') = false := by
                rw [← Bool.not_eq_true]
                intro e
                rw [Bool.and_eq_true, beq_iff_eq, beq_iff_eq] at e
                exact hc (HSM.out.2 e)
              generalize hb1 : (ax == bx) = e1 at *
              generalize hb2 : (ay == by') = e2 at *
              clear hc
              cases e1 <;> cases e2
              all_goals first
                | (exfalso; simp at hne; done)
                | (clear hne
                   go_wp2_with fail
                   go_roundw
                   case rel => exact ⟨m + 1, by omega, by go_num, by rw [hs2, HE.out], Lib.hid ⟨HB3.out, HK3.out⟩⟩
                   case measure => simp [intOf]; omega)
        · obtain rfl : m = k := by omega
          generalize hs1 : seen S l m m = s1 at *
          cases s1 with
          | false =>
            have HE := Lib.hid (show m2 = m1 by have := HMO.out; simpa using this)
            go_wp2_with fail
            go_roundw
            case rel => exact ⟨m + 1, by omega, by go_num, by rw [hm2, HE.out], Lib.hid HR2.out.1⟩
            case measure => simp [intOf]; omega
          | true =>
            have HE := Lib.hid (show m2 = m1 + 1 by have := HMO.out; simpa using this)
            go_wp2_with fail
            go_roundw
            case rel => exact ⟨m + 1, by omega, by go_num, by rw [hm2, HE.out]; simp, Lib.hid HR2.out.1⟩
            case measure => simp [intOf]; omega
    · obtain rfl : k = n := by omega
      go_wp2
      go_ret
      exact ⟨rfl, HR.out⟩
set_option maxHeartbeats 4000000 in
theorem rlevel_no (A : Option Addr) (n c : Nat) (S : List Pn) (L : Int) (w : World) (h : Rd w A n c S) (hL : levB L = false) :
    Calls Try.prog 23 #[.slice A n c, .int .i64 L] w fun e w' => e = .returned (.int .i64 0) ∧ Below w.heap.size w w' := by
  have HLV := Lib.hid (rlevel_any L)
  rw [hL] at HLV
  clear h
  go_enter Try.func23, Try.ntmps23
  go_wp2
  go_loopw [5, 6] (fun m i wr => i = .int .i64 0 ∧ m = .int .i64 0 ∧ wr = w) (fun _ i _ => 0)
  case atStart => exact ⟨rfl, rfl, rfl⟩
  case round =>
    obtain ⟨rfl, rfl, rfl⟩ := hrel
    by_cases h0 : 0 < n
    · have h0i : (0 : Int) < (n : Int) := by omega
      go_wp2_with fail
      refine (HLV.out _).mono ?_
      rintro e w1 ⟨rfl, hb1⟩
      subst hb1
      go_wp2
      go_ret
      exact ⟨rfl, Below.refl _ _⟩
    · obtain rfl : n = 0 := by omega
      go_wp2
      go_ret
      exact ⟨rfl, Below.refl _ _⟩
theorem rlevel_u (A : Option Addr) (n c : Nat) (S : List Pn) (L : Int) (w : World) (h : Rd w A n c S) (hn : n ≤ 1000000) (hfit : FitS S) :
    Calls Try.prog 23 #[.slice A n c, .int .i64 L] w fun e w' => e = .returned (.int .i64 (levN S L : Int)) ∧ Below w.heap.size w w' := by
  cases hL : levB L with
  | false => rw [levN, if_neg (by simp [hL])]; exact rlevel_no A n c S L w h hL
  | true =>
    have hb := (levB_iff L).1 hL
    obtain ⟨l, rfl⟩ := Int.eq_ofNat_of_zero_le hb.1
    rw [levN, if_pos hL]
    have := rlevel_yes A n c l S w h hn (by omega) hfit
    rw [← h.1, lvN_all] at this
    rw [← h.1]
    exact this
end Go.Proofs.Ytdbiaijpbkmfhaa
