/- The document's under and Without, by contract. -/
import Derived.Test.YtmlmndaflgfdkaaTo18
namespace Go.Proofs.Ytmlmndaflgfdkaa
set_option linter.unusedVariables false
set_option linter.unusedSimpArgs false
open Go.RowKit
theorem Blk.setCellsT {g : Nat} {t : TypeId} : ∀ (vs : List Value) (o : Nat) (cur : Array Value) (w : World), Blk w g t cur → o + vs.length ≤ cur.size → Blk (w.setCells g o vs) g t (cur.toList.take o ++ vs ++ cur.toList.drop (o + vs.length)).toArray
  | [], o, cur, w, h, _ => by
    simp only [World.setCells, List.append_nil, List.length_nil, Nat.add_zero, List.take_append_drop, Array.toArray_toList]
    exact h
  | v :: r, o, cur, w, h, hl => by
    simp only [List.length_cons] at hl
    have ih := Blk.setCellsT r (o + 1) (cur.setIfInBounds o v) (w.setCell ⟨g, o, none⟩ v) (h.set_ o v) (by simp; omega)
    have e := list_seg_step cur.toList o v r (by simp; omega)
    rw [Array.toList_setIfInBounds, e] at ih
    exact ih
theorem Blk.set10 {w : World} {g : Nat} {t : TypeId} {cur : Array Value} (h : Blk w g t cur) (hs : cur.size = 10) (v0 v1 v2 v3 v4 v5 v6 v7 v8 v9 : Value) : Blk ((((((((((w.setCell ⟨g, 0, none⟩ v0).setCell ⟨g, 1, none⟩ v1).setCell ⟨g, 2, none⟩ v2).setCell ⟨g, 3, none⟩ v3).setCell ⟨g, 4, none⟩ v4).setCell ⟨g, 5, none⟩ v5).setCell ⟨g, 6, none⟩ v6).setCell ⟨g, 7, none⟩ v7).setCell ⟨g, 8, none⟩ v8).setCell ⟨g, 9, none⟩ v9) g t #[v0, v1, v2, v3, v4, v5, v6, v7, v8, v9] := by
  have h9 := Blk.setCellsT [v0, v1, v2, v3, v4, v5, v6, v7, v8, v9] 0 cur w h (by simp [hs])
  have e : (cur.toList.take 0 ++ [v0, v1, v2, v3, v4, v5, v6, v7, v8, v9] ++ cur.toList.drop (0 + [v0, v1, v2, v3, v4, v5, v6, v7, v8, v9].length)).toArray = #[v0, v1, v2, v3, v4, v5, v6, v7, v8, v9] := by simp [hs]
  rw [e] at h9
  exact h9
/-- A row of any elements made since w. -/
structure FE {α : Type} (E : El α) (w : World) (v : Value) (L : List α) (wr : World) : Prop where
  own : EOwn E wr v L
  bel : Below w.heap.size w wr
  far : ∀ i, v.ownBlock = some i → w.heap.size ≤ i
theorem FE.nil_ {α : Type} {E : El α} (w wr : World) (h : Below w.heap.size w wr) : FE E w (.slice none 0 0) [] wr := ⟨EOwn.nil_ _, h, fun i hi => by simp [Value.ownBlock] at hi⟩
theorem FE.push {α : Type} {E : El α} {w wr w' : World} {v v' : Value} {L : List α} {x : α} {o : Obj} (h : FE E w v L wr) (ha : EAppended E v (L ++ [x]) (wr.alloc o) v' w') : FE E w v' (L ++ [x]) w' := by
  have hs : w.heap.size ≤ (wr.alloc o).heap.size := by have := h.bel.size; simp; omega
  have hb := ha.below hs h.far
  exact ⟨ha.own, (h.bel.alloc (h.bel.size) o).trans hb.1, hb.2⟩
theorem FE.below {α : Type} {E : El α} {w wr w' : World} {v : Value} {L : List α} (h : FE E w v L wr) (hb : Below wr.heap.size wr w') : FE E w v L w' := ⟨h.own.below hb, below_trans h.bel hb, h.far⟩
theorem new_t (w : World) (t : TypeId) (x : Tk) : ∀ j u, (elT.enc x)[j]? = some u → (w.alloc (.cells (elT.enc x).toArray t)).cell? ⟨w.heap.size, j, none⟩ = some u := by
  intro j u hu
  rw [(Blk.new w t (elT.enc x).toArray).cell]
  simpa using hu
/-- Is it the one with that secret, or made of it (so many steps up)? -/
def unR (L : List Tk) (s : Nat) : Nat → Tk → Bool
  | 0, _ => false
  | f + 1, k => if k.sec = s then true else if rfB L k.par = true then unR L s f (rfG L k.par) else false
theorem SecOk.rf {L : List Tk} (h : SecOk L) (s : Nat) : (rfG L s).sec ≤ 18446744073709551615 ∧ (rfG L s).par ≤ 18446744073709551615 := by
  unfold rfG
  split
  · exact ⟨by decide, by decide⟩
  · have h1 := fnd_lt (secs L) s
    rw [secs_length] at h1
    have h2 : (fnd (secs L) s).toNat < L.length := by omega
    rw [List.getD_eq_getElem?_getD, List.getElem?_eq_getElem h2]
    exact h _ (List.getElem_mem h2)
set_option maxRecDepth 100000 in
set_option maxHeartbeats 8000000 in
theorem under_any (w : World) (v : Value) (L : List Tk) (k : Tk) (s : Nat) (h : ERd elT w v L) (hl : L.length ≤ 1000000) (hs : SecOk L) (hk : k.sec ≤ 18446744073709551615 ∧ k.par ≤ 18446744073709551615) (hss : s ≤ 18446744073709551615) :
    Calls Try.prog 38 #[v, k.V, .int .u64 s] w fun e w' => e = .returned (.bool (unR L s (L.length + 1) k)) ∧ Below w.heap.size w w' := by
  obtain ⟨A1, c1, rfl, -, -⟩ := h.shape
  have HL := Lib.hid h
  clear h
  obtain ⟨n, hn⟩ : ∃ n, n = L.length := ⟨_, rfl⟩
  rw [← hn] at HL hl ⊢
  have HN := Lib.hid hn; clear hn
  obtain ⟨res, hres⟩ : ∃ res, unR L s (n + 1) k = res := ⟨_, rfl⟩
  rw [hres]
  have HS0 := Lib.hid hres
  clear hres
  have hal : Below w.heap.size w (w.alloc (.cells (elT.enc k).toArray 35)) := (Below.refl _ _).alloc (Nat.le_refl _) _
  have HB0 := Lib.hid hal
  have HK0 := Lib.hid (Blk.new w 35 (elT.enc k).toArray)
  have HKS := Lib.hid hk
  clear hal hk
  simp only [Tk.V]
  go_enter Try.func38, Try.ntmps38
  go_wp2_with fail
  have HB1 : Hid (Below w.heap.size w (w.alloc (.cells #[.int .u64 k.sec, .int .u64 k.par, .int .i64 k.g.ops, .int .i64 k.g.zoom, .int .i64 k.g.x0, .int .i64 k.g.y0, .int .i64 k.g.x1, .int .i64 k.g.y1, .bool k.g.void, .int .i64 k.g.til] 35))) := HB0.out
  have HK1 : Hid (Blk (w.alloc (.cells #[.int .u64 k.sec, .int .u64 k.par, .int .i64 k.g.ops, .int .i64 k.g.zoom, .int .i64 k.g.x0, .int .i64 k.g.y0, .int .i64 k.g.x1, .int .i64 k.g.y1, .bool k.g.void, .int .i64 k.g.til] 35)) w.heap.size 35 (elT.enc k).toArray) := HK0.out
  go_loopw [7, 8] (fun ok i wr => ∃ (j : Nat) (b : Bool) (q : Tk), j ≤ n + 1 ∧ i = .int .i64 j ∧ ok = .bool b ∧ Hid (Below w.heap.size w wr) ∧ Hid (Blk wr w.heap.size 35 (elT.enc q).toArray) ∧ Hid ((if b = true then unR L s (n + 1 - j) q else false) = res) ∧ Hid (q.sec ≤ 18446744073709551615 ∧ q.par ≤ 18446744073709551615)) (fun _ i _ => n + 1 - (intOf i).toNat)
  case atStart => exact ⟨0, true, k, Nat.zero_le _, rfl, rfl, HB1.out, HK1.out, HS0.out, HKS.out⟩
  case round =>
    rename World => wr
    clear HB0 HB1 HK0 HK1 HS0 HKS
    obtain ⟨j, b, q, hj, rfl, rfl, HB, HK, HS, HKS⟩ := hrel
    cases b with
    | false =>
      have HE : Hid (res = false) := HS.out.symm
      by_cases hjn : j ≤ n
      · have hj1 : decide ((j : Int) ≤ (n : Int)) = true := by simp; exact hjn
        go_wp2
        go_ret
        exact ⟨by rw [HE.out]; rfl, HB.out⟩
      · have hj1 : decide ((j : Int) ≤ (n : Int)) = false := by simp; omega
        go_wp2
        go_ret
        exact ⟨by rw [HE.out]; rfl, HB.out⟩
    | true =>
      by_cases hjn : j ≤ n
      · have hj1 : decide ((j : Int) ≤ (n : Int)) = true := by simp; exact hjn
        have HU : Hid ((if q.sec = s then true else if rfB L q.par = true then unR L s (n + 1 - (j + 1)) (rfG L q.par) else false) = res) := by
          have h9 := HS.out
          rw [if_pos rfl, show n + 1 - j = (n + 1 - (j + 1)) + 1 by omega, unR] at h9
          exact h9
        have hq1 := HKS.out.1
        have hq2 := HKS.out.2
        obtain ⟨xs, xp, ⟨g0, g1, g2, g3, g4, g5, g6, g7⟩⟩ := q
        simp only at HU hq1 hq2
        have HKL : Hid (Blk wr w.heap.size 35 #[.int .u64 xs, .int .u64 xp, .int .i64 g0, .int .i64 g1, .int .i64 g2, .int .i64 g3, .int .i64 g4, .int .i64 g5, .bool g6, .int .i64 g7]) := HK.out
        clear HS HK
        have hkz := HKL.out.lt
        have r0 := HKL.out.cell 0
        have r1 := HKL.out.cell 1
        have r2 := HKL.out.cell 2
        have r3 := HKL.out.cell 3
        have r4 := HKL.out.cell 4
        have r5 := HKL.out.cell 5
        have r6 := HKL.out.cell 6
        have r7 := HKL.out.cell 7
        have r8 := HKL.out.cell 8
        have r9 := HKL.out.cell 9
        simp only [List.getElem?_toArray, List.getElem?_cons_zero, List.getElem?_cons_succ] at r0 r1 r2 r3 r4 r5 r6 r7 r8 r9
        have fr0 := HKL.out.frozen 0
        have fr1 := HKL.out.frozen 1
        have fr2 := HKL.out.frozen 2
        have fr3 := HKL.out.frozen 3
        have fr4 := HKL.out.frozen 4
        have fr5 := HKL.out.frozen 5
        have fr6 := HKL.out.frozen 6
        have fr7 := HKL.out.frozen 7
        have fr8 := HKL.out.frozen 8
        have fr9 := HKL.out.frozen 9
        by_cases hxs : xs = s
        · have hxe : ((xs : Int) == (s : Int)) = true := by simp; omega
          have HE := Lib.hid (show res = true by have h9 := HU.out; rw [if_pos hxs] at h9; exact h9.symm)
          clear hxs
          go_wp2
          go_ret
          exact ⟨by rw [HE.out]; rfl, HB.out⟩
        · have hxe : ((xs : Int) == (s : Int)) = false := by simp; omega
          have HE := Lib.hid (show (if rfB L xp = true then unR L s (n + 1 - (j + 1)) (rfG L xp) else false) = res by have h9 := HU.out; rw [if_neg hxs] at h9; exact h9)
          have HFI := Lib.hid (rfindT_any wr _ L xp (HL.out.below HB.out) (by rw [← HN.out]; exact hl) hq2)
          have HRS := Lib.hid (hs.rf xp)
          obtain ⟨q2, hq2'⟩ : ∃ q2, rfG L xp = q2 := ⟨_, rfl⟩
          obtain ⟨b2, hb2⟩ : ∃ b2, rfB L xp = b2 := ⟨_, rfl⟩
          rw [hq2'] at HFI HRS HE
          rw [hb2] at HFI HE
          clear hxs hq2' hb2 HU
          obtain ⟨ys, yp, ⟨m0, m1, m2, m3, m4, m5, m6, m7⟩⟩ := q2
          simp only [Tk.V] at HFI
          go_wp2_with fail
          refine HFI.out.mono ?_
          rintro e w2 ⟨rfl, hb2⟩
          have HB2 := Lib.hid (below_trans HB.out hb2)
          have HK2 := Lib.hid (Blk.thru0 HKL.out hb2)
          clear hb2 r0 r1 r2 r3 r4 r5 r6 r7 r8 r9 HKL fr0 fr1 fr2 fr3 fr4 fr5 fr6 fr7 fr8 fr9 HB HFI
          have r0 := HK2.out.cell 0
          have r1 := HK2.out.cell 1
          have r2 := HK2.out.cell 2
          have r3 := HK2.out.cell 3
          have r4 := HK2.out.cell 4
          have r5 := HK2.out.cell 5
          have r6 := HK2.out.cell 6
          have r7 := HK2.out.cell 7
          have r8 := HK2.out.cell 8
          have r9 := HK2.out.cell 9
          simp only [List.getElem?_toArray, List.getElem?_cons_zero, List.getElem?_cons_succ] at r0 r1 r2 r3 r4 r5 r6 r7 r8 r9
          have fr0 := HK2.out.frozen 0
          have fr1 := HK2.out.frozen 1
          have fr2 := HK2.out.frozen 2
          have fr3 := HK2.out.frozen 3
          have fr4 := HK2.out.frozen 4
          have fr5 := HK2.out.frozen 5
          have fr6 := HK2.out.frozen 6
          have fr7 := HK2.out.frozen 7
          have fr8 := HK2.out.frozen 8
          have fr9 := HK2.out.frozen 9
          have hkz2 := HK2.out.lt
          have hbw := HB2.out.size
          go_wp2
          clear r0 r1 r2 r3 r4 r5 r6 r7 r8 r9 fr0 fr1 fr2 fr3 fr4 fr5 fr6 fr7 fr8 fr9
          go_roundw
          case rel => exact ⟨j + 1, b2, ⟨ys, yp, ⟨m0, m1, m2, m3, m4, m5, m6, m7⟩⟩, by omega, by go_num, rfl, by have hb := HB2.out; unfold Hid; go_grown, HK2.out.set10 rfl _ _ _ _ _ _ _ _ _ _, HE.out, HRS.out⟩
          case measure => simp [intOf]; omega
      · have hj1 : decide ((j : Int) ≤ (n : Int)) = false := by simp; omega
        have HE := Lib.hid (show res = false by have h9 := HS.out; rw [if_pos rfl, show n + 1 - j = 0 by omega] at h9; exact h9.symm)
        go_wp2
        go_ret
        exact ⟨by rw [HE.out]; rfl, HB.out⟩
end Go.Proofs.Ytmlmndaflgfdkaa
