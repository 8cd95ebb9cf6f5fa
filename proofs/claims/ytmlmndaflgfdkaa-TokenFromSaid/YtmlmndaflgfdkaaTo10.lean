/- token: what goes, and the table without it, by contract. -/
import Derived.Test.YtmlmndaflgfdkaaTo9
namespace Go.Proofs.Ytmlmndaflgfdkaa
set_option linter.unusedVariables false
set_option linter.unusedSimpArgs false
open Go.RowKit
def stepG (p : Tk → Bool) (G : List Nat) (k : Tk) : List Nat := if p k = true ∨ hasN G k.par = true then G ++ [k.sec] else G
/-- The secrets of those that go. -/
def gone (p : Tk → Bool) (L : List Tk) : List Nat := L.foldl (stepG p) []
theorem gone_take (p : Tk → Bool) (L : List Tk) (k : Nat) (hk : k < L.length) : gone p (L.take (k + 1)) = stepG p (gone p (L.take k)) L[k] := by
  rw [gone, List.take_succ_eq_append_getElem hk, List.foldl_append]; rfl
theorem gone_len (p : Tk → Bool) (L : List Tk) : (gone p L).length ≤ L.length := by
  have h : ∀ (L : List Tk) (G : List Nat), (L.foldl (stepG p) G).length ≤ G.length + L.length := by
    intro L
    induction L with
    | nil => intro G; simp
    | cons x r ih =>
      intro G
      have h1 := ih (stepG p G x)
      have h2 : (stepG p G x).length ≤ G.length + 1 := by unfold stepG; split <;> simp
      simp only [List.foldl_cons, List.length_cons]
      omega
  simpa [gone] using h L []
theorem gone_sub (p : Tk → Bool) (L : List Tk) : ∀ s ∈ gone p L, ∃ k ∈ L, k.sec = s := by
  have h : ∀ (L : List Tk) (G : List Nat), ∀ s ∈ L.foldl (stepG p) G, s ∈ G ∨ ∃ k ∈ L, k.sec = s := by
    intro L
    induction L with
    | nil => intro G s hs; exact .inl hs
    | cons x r ih =>
      intro G s hs
      rcases ih (stepG p G x) s hs with h1 | ⟨k, hk, h1⟩
      · unfold stepG at h1
        split at h1
        · rcases List.mem_append.1 h1 with h2 | h2
          · exact .inl h2
          · exact .inr ⟨x, List.mem_cons_self .., (List.mem_singleton.1 h2).symm⟩
        · exact .inl h1
      · exact .inr ⟨k, List.mem_cons_of_mem _ hk, h1⟩
  intro s hs
  rcases h L [] s hs with h1 | h1
  · cases h1
  · exact h1
/-- The table's tickets without those that go. -/
def dropT (p : Tk → Bool) (L : List Tk) : List Tk := keepT (gone p L) L
/-- All blocks but the table's and its row's are kept. -/
structure KeT (y : Nat) (v : Value) (w w' : World) : Prop where
  os : w'.os = w.os
  tape : w'.tape = w.tape
  output : w'.output = w.output
  size : w.heap.size ≤ w'.heap.size
  block : ∀ k, k < w.heap.size → k ≠ y → v.ownBlock ≠ some k → w'.heap[k]? = w.heap[k]?
/-- What is done with a table: its tickets behind it. -/
structure TS (y : Nat) (v : Value) (w : World) (v' : Value) (L' : List Tk) (w' : World) : Prop where
  tb : TB w' y v' L'
  ke : KeT y v w w'
  far : ∀ i, v'.ownBlock = some i → v.ownBlock = some i ∨ w.heap.size ≤ i
theorem KeT.of_below {y : Nat} {v : Value} {a b : World} (h : Below a.heap.size a b) : KeT y v a b := ⟨h.os, h.tape, h.output, h.size, fun i hi _ _ => h.block i hi⟩
theorem KeT.trans {y : Nat} {v v' : Value} {a b c : World} (h : KeT y v a b) (k : KeT y v' b c) (hf : ∀ i, v'.ownBlock = some i → v.ownBlock = some i ∨ a.heap.size ≤ i) : KeT y v a c :=
  ⟨k.os.trans h.os, k.tape.trans h.tape, k.output.trans h.output, Nat.le_trans h.size k.size, fun i hi h1 h2 => (k.block i (Nat.lt_of_lt_of_le hi h.size) h1 (fun e => by
    rcases hf i e with h3 | h3
    · exact h2 h3
    · omega)).trans (h.block i hi h1 h2)⟩
theorem TS.trans {y : Nat} {v v' v'' : Value} {a b c : World} {L L' : List Tk} (h : TS y v a v' L b) (k : TS y v' b v'' L' c) : TS y v a v'' L' c :=
  ⟨k.tb, h.ke.trans k.ke h.far, fun i hi => by
    rcases k.far i hi with h1 | h1
    · exact h.far i h1
    · exact .inr (Nat.le_trans h.ke.size h1)⟩
theorem TS.below {y : Nat} {v v' : Value} {a b c : World} {L : List Tk} (h : TS y v a v' L b) (hb : Below b.heap.size b c) : TS y v a v' L c :=
  ⟨h.tb.below hb, h.ke.trans (v' := v') (KeT.of_below hb) h.far, h.far⟩
theorem TS.start {y : Nat} {v : Value} {w w' : World} {L : List Tk} (h : TB w y v L) (hb : Below w.heap.size w w') : TS y v w v L w' := ⟨h.below hb, KeT.of_below hb, fun i hi => .inl hi⟩
theorem push_gone {w w4 w6 : World} {gv v2 : Value} {G : List Nat} {x : Nat} {o : Obj} (hW : Below w.heap.size w w4) (hC : Blk w4 w.heap.size 86 #[gv]) (hF : ∀ i, gv.ownBlock = some i → w.heap.size < i) (hA : EAppended elU gv (G ++ [x]) (w4.alloc o) v2 w6) :
    Blk w6 w.heap.size 86 #[gv] ∧ (Below w.heap.size w (w6.setCell ⟨w.heap.size, 0, none⟩ v2) ∧ Blk (w6.setCell ⟨w.heap.size, 0, none⟩ v2) w.heap.size 86 #[v2] ∧ EOwn elU (w6.setCell ⟨w.heap.size, 0, none⟩ v2) v2 (G ++ [x]) ∧ ∀ i, v2.ownBlock = some i → w.heap.size < i) := by
  have hlt := hC.lt
  have hsz : w.heap.size + 1 ≤ (w4.alloc o).heap.size := by simp; omega
  have hb := hA.below hsz (fun i hi => hF i hi)
  have hc6 : Blk w6 w.heap.size 86 #[gv] := (hA.keep (k := w.heap.size) (by omega) (fun e => by have := hF _ e; omega)).trans (hC.alloc o)
  have hW6 : Below w.heap.size w w6 := (hW.alloc hW.size o).trans (hb.1.mono (by omega))
  refine ⟨hc6, hW6.setCell (Nat.le_refl _) v2, hc6.set1 v2, ?_, fun i hi => hb.2 i hi⟩
  refine hA.own.keep fun i hi e => ?_
  exact Below.heap_setCell w6 ⟨w.heap.size, 0, none⟩ v2 i (fun e2 => by have := hb.2 i e; simp at e2; omega)
set_option maxHeartbeats 2000000 in
theorem past_any (w : World) (now : Int) (k : Tk) :
    Calls Try.prog 48 #[.int .i64 now, k.V] w fun e w' => e = .returned (.bool (decide (k.g.til < now))) ∧ Below w.heap.size w w' := by
  obtain ⟨xs, xp, ⟨g0, g1, g2, g3, g4, g5, g6, g7⟩⟩ := k
  simp only [Tk.V]
  go_enter Try.func48, Try.ntmps48
  go_wp2
  go_ret
  exact ⟨rfl, by go_grown⟩
set_option maxHeartbeats 2000000 in
theorem revc_any (w : World) (c s : Nat) (k : Tk) (hs : s ≤ 18446744073709551615) (hk : k.sec ≤ 18446744073709551615) (h : Blk w c 26 #[.int .u64 s]) :
    Calls Try.prog 36 #[k.V, ptrA c] w fun e w' => e = .returned (.bool (decide (k.sec = s))) ∧ Below w.heap.size w w' := by
  have HB := Lib.hid h; clear h
  obtain ⟨xs, xp, ⟨g0, g1, g2, g3, g4, g5, g6, g7⟩⟩ := k
  simp only [Tk.V] at hk ⊢
  have hz := HB.out.lt
  go_enter Try.func36, Try.ntmps36
  have t0 : (w.alloc (.cells #[.int .u64 xs, .int .u64 xp, .int .i64 g0, .int .i64 g1, .int .i64 g2, .int .i64 g3, .int .i64 g4, .int .i64 g5, .bool g6, .int .i64 g7] 35)).cell? ⟨c, 0, none⟩ = some (.int .u64 s) := (HB.out.alloc _).cell 0
  go_wp2_with fail
  refine (equal_any xs s hk hs _).mono ?_
  rintro e w2 ⟨rfl, hb2⟩
  have HB2 := Lib.hid (below_trans ((Below.refl _ _).alloc (Nat.le_refl _) _) hb2)
  clear hb2
  go_wp2
  go_ret
  exact ⟨rfl, HB2.out⟩
set_option maxRecDepth 100000 in
set_option maxHeartbeats 8000000 in
theorem drop_past (w : World) (y : Nat) (v : Value) (L : List Tk) (p : Tk → Bool) (now : Int) (h : TB w y v L) (hl : L.length ≤ 1000) (hs : SecOk L)
    (hp : ∀ W, Below w.heap.size w W → ∀ k ∈ L, Calls Try.prog 48 #[.int .i64 now, k.V] W fun e w' => e = .returned (.bool (p k)) ∧ Below W.heap.size W w') :
    Calls Try.prog 35 #[ptrA y, .func (.func 48) #[.int .i64 now] #[]] w fun e w' => ∃ v', e = .returned (.tuple #[]) ∧ TS y v w v' (dropT p L) w' := by
  obtain ⟨A1, c1, rfl, hc1, hc2⟩ := h.own.slice
  have HB := Lib.hid h.blk
  have HO := Lib.hid h.own
  have HNE := Lib.hid h.ne
  have HH := Lib.hid h
  have HP := Lib.hid hp
  have hyz := h.blk.lt
  have ht : Try.prog.underlying 86 = some (.slice elU.T) := Try.underlying86
  have HT := Lib.hid ht; clear ht h hp hc2
  obtain ⟨n, hn⟩ : ∃ n, n = L.length := ⟨_, rfl⟩
  rw [← hn] at HB HO HNE HH hl hc1 ⊢
  have HN := Lib.hid hn; clear hn
  have hal : Below w.heap.size w (w.alloc (.cells #[.slice none 0 0] 86)) := (Below.refl _ _).alloc (Nat.le_refl _) _
  have HC := Lib.hid (Blk.new w 86 #[.slice none 0 0])
  have HA := Lib.hid hal
  clear hal
  go_enter Try.func35, Try.ntmps35
  go_upto_region 1 with fail
  have t0 : (w.alloc (.cells #[.slice none 0 0] 86)).cell? ⟨y, 0, none⟩ = some (.slice A1 n c1) := (HB.out.alloc _).cell 0
  go_wp2_with fail
  go_loopw [6, 12] (fun _ i wr => ∃ (k : Nat) (gv : Value), k ≤ n ∧ i = .int .i64 k ∧ Hid (Below w.heap.size w wr) ∧ Hid (Blk wr w.heap.size 86 #[gv]) ∧ Hid (EOwn elU wr gv (gone p (L.take k))) ∧ Hid (∀ i, gv.ownBlock = some i → w.heap.size < i)) (fun _ i _ => n - (intOf i).toNat)
  case atStart => exact ⟨0, _, Nat.zero_le _, rfl, HA.out, HC.out, EOwn.nil_ _, fun i hi => by simp [Value.ownBlock] at hi⟩
  case round =>
    rename World => wr
    clear t0 HA HC
    obtain ⟨k, gv, hk, rfl, HW, HC, HG, HF⟩ := hrel
    by_cases hlt : k < n
    · have hkl : k < L.length := by rw [← HN.out]; exact hlt
      have hx : L[k]? = some L[k] := List.getElem?_eq_getElem hkl
      have HTK := Lib.hid (gone_take p L k hkl)
      have hsx := hs _ (List.getElem_mem hkl)
      have HPX := Lib.hid (fun W hW => HP.out W hW L[k] (List.getElem_mem hkl))
      have HLE := Lib.hid (show (gone p (L.take k)).length ≤ 1000 by have h1 := gone_len p (L.take k); rw [List.length_take] at h1; omega)
      have HGL := Lib.hid (show ∀ s ∈ gone p (L.take k), s ≤ 18446744073709551615 from fun s hs2 => by
        obtain ⟨q, hq, rfl⟩ := gone_sub p _ s hs2
        exact (hs q (List.mem_of_mem_take hq)).1)
      obtain ⟨g, rfl, a0, a1, a2, a3, a4, a5, a6, a7, a8, a9⟩ := (HO.out.below HW.out).ten hx
      generalize L[k] = x at *
      clear hx
      obtain ⟨xs, xp, ⟨g0, g1, g2, g3, g4, g5, g6, g7⟩⟩ := x
      simp only [Tk.V] at a0 a1 a2 a3 a4 a5 a6 a7 a8 a9 HTK HPX hsx
      have hsx1 := hsx.1
      have hsx2 := hsx.2
      clear hsx
      obtain ⟨b, hb⟩ : ∃ b, p ⟨xs, xp, ⟨g0, g1, g2, g3, g4, g5, g6, g7⟩⟩ = b := ⟨_, rfl⟩
      have HTB := Lib.hid hb
      rw [hb] at HPX
      clear hb
      have hlt2 : (k : Int) < n := by omega
      go_upto_region 4 with fail
      have HKR := Lib.hid (Blk.new wr 35 #[.int .u64 xs, .int .u64 xp, .int .i64 g0, .int .i64 g1, .int .i64 g2, .int .i64 g3, .int .i64 g4, .int .i64 g5, .bool g6, .int .i64 g7])
      have hal : Below wr.heap.size wr (wr.alloc (.cells #[.int .u64 xs, .int .u64 xp, .int .i64 g0, .int .i64 g1, .int .i64 g2, .int .i64 g3, .int .i64 g4, .int .i64 g5, .bool g6, .int .i64 g7] 35)) := (Below.refl _ _).alloc (Nat.le_refl _) _
      have HW3 := Lib.hid (below_trans HW.out hal)
      have HC3 := Lib.hid (Blk.thru0 HC.out hal)
      have HG3 := Lib.hid (HG.out.below hal)
      clear a0 a1 a2 a3 a4 a5 a6 a7 a8 a9 hal HW HC HG
      generalize (wr.alloc (.cells #[.int .u64 xs, .int .u64 xp, .int .i64 g0, .int .i64 g1, .int .i64 g2, .int .i64 g3, .int .i64 g4, .int .i64 g5, .bool g6, .int .i64 g7] 35)) = W3 at *
      generalize wr.heap.size = tr at *
      have r0 := HKR.out.cell 0
      have r1 := HKR.out.cell 1
      have r2 := HKR.out.cell 2
      have r3 := HKR.out.cell 3
      have r4 := HKR.out.cell 4
      have r5 := HKR.out.cell 5
      have r6 := HKR.out.cell 6
      have r7 := HKR.out.cell 7
      have r8 := HKR.out.cell 8
      have r9 := HKR.out.cell 9
      simp only [List.getElem?_toArray, List.getElem?_cons_zero, List.getElem?_cons_succ] at r0 r1 r2 r3 r4 r5 r6 r7 r8 r9
      go_wp2_with fail
      refine (HPX.out _ HW3.out).mono ?_
      rintro e w4 ⟨rfl, hb4⟩
      have HW4 := Lib.hid (below_trans HW3.out hb4)
      have HC4 := Lib.hid (Blk.thru0 HC3.out hb4)
      have HG4 := Lib.hid (HG3.out.below hb4)
      have HKR4 := Lib.hid (Blk.thru0 HKR.out hb4)
      clear hb4 HW3 HC3 HG3 HKR r0 r1 r2 r3 r4 r5 r6 r7 r8 r9 HPX
      obtain ⟨A2, c2, rfl, -, -⟩ := HG4.out.slice
      generalize hGG : gone p (L.take k) = G at *
      have HGG := Lib.hid hGG
      clear hGG
      cases b with
      | true =>
        have HS := Lib.hid (show stepG p G ⟨xs, xp, ⟨g0, g1, g2, g3, g4, g5, g6, g7⟩⟩ = G ++ [xs] from if_pos (.inl HTB.out))
        have r0 := HKR4.out.cell 0
        have r1 := HKR4.out.cell 1
        have r2 := HKR4.out.cell 2
        have r3 := HKR4.out.cell 3
        have r4 := HKR4.out.cell 4
        have r5 := HKR4.out.cell 5
        have r6 := HKR4.out.cell 6
        have r7 := HKR4.out.cell 7
        have r8 := HKR4.out.cell 8
        have r9 := HKR4.out.cell 9
        simp only [List.getElem?_toArray, List.getElem?_cons_zero, List.getElem?_cons_succ] at r0 r1 r2 r3 r4 r5 r6 r7 r8 r9
        have q0 := HC4.out.cell 0
        simp only [List.getElem?_toArray, List.getElem?_cons_zero] at q0
        have HZ4 := Lib.hid HC4.out.lt
        have hf0 := HC4.out.frozen 0
        have hcz := HC4.out.lt
        have HGLEN := Lib.hid (show G.length ≤ 1000000 by have := HLE.out; omega)
        go_wp2_with ((at_builtin; refine wpList_epush elU_ok rfl (.tmp 25) (.tmp 28) _ rfl HT.out _ G xs w4.heap.size 1 rfl rfl (HG4.out.below ((Below.refl _ _).alloc (Nat.le_refl _) _)) (new_u _ _ xs) HGLEN.out ?_; intro v2 w6 hA2; have HPU := Lib.hid (push_gone HW4.out HC4.out HF.out hA2); obtain ⟨gg, cap2, hv2, -⟩ := hA2; subst hv2; simp only [List.length_append, List.length_cons, List.length_nil, Nat.zero_add] at HPU ⊢; have q6 := HPU.out.1.cell 0; have f6 := HPU.out.1.frozen 0; simp only [List.getElem?_toArray, List.getElem?_cons_zero] at q6; clear r0 r1 r2 r3 r4 r5 r6 r7 r8 r9 q0 hf0))
        clear q6 f6
        go_roundw
        case rel => exact ⟨k + 1, _, by omega, by go_num, HPU.out.2.1, HPU.out.2.2.1, by have h9 := HPU.out.2.2.2.1; rw [← HS.out, ← HTK.out] at h9; exact h9, HPU.out.2.2.2.2⟩
        case measure => simp [intOf]; omega

      | false =>
        have HRU := Lib.hid (HG4.out.ru HGL.out)
        have r0 := HKR4.out.cell 0
        have r1 := HKR4.out.cell 1
        have r2 := HKR4.out.cell 2
        have r3 := HKR4.out.cell 3
        have r4 := HKR4.out.cell 4
        have r5 := HKR4.out.cell 5
        have r6 := HKR4.out.cell 6
        have r7 := HKR4.out.cell 7
        have r8 := HKR4.out.cell 8
        have r9 := HKR4.out.cell 9
        simp only [List.getElem?_toArray, List.getElem?_cons_zero, List.getElem?_cons_succ] at r0 r1 r2 r3 r4 r5 r6 r7 r8 r9
        have q0 := HC4.out.cell 0
        simp only [List.getElem?_toArray, List.getElem?_cons_zero] at q0
        obtain ⟨b2, hb2⟩ : ∃ b2, hasN G xp = b2 := ⟨_, rfl⟩
        have hth := fun W h => thas_any W A2 c2 G xp hsx2 h HLE.out
        rw [hb2] at hth
        have HTH := Lib.hid hth
        have HB2 := Lib.hid hb2
        clear hb2 hth
        go_wp2_with fail
        refine (HTH.out _ HRU.out).mono ?_
        rintro e w5 ⟨rfl, hb5⟩
        have HW5 := Lib.hid (below_trans HW4.out hb5)
        have HC5 := Lib.hid (Blk.thru0 HC4.out hb5)
        have HG5 := Lib.hid (HG4.out.below hb5)
        have HKR5 := Lib.hid (Blk.thru0 HKR4.out hb5)
        clear hb5 HW4 HC4 HG4 HKR4 r0 r1 r2 r3 r4 r5 r6 r7 r8 r9 q0 HRU HTH
        cases b2 with
        | false =>
          have HS := Lib.hid (show gone p (L.take (k + 1)) = G by rw [HTK.out]; exact if_neg (by rw [HTB.out, HB2.out]; simp))
          have HG6 := Lib.hid (show EOwn elU w5 (.slice A2 G.length c2) (gone p (L.take (k + 1))) by rw [HS.out]; exact HG5.out)
          go_wp2
          go_roundw
          case rel => exact ⟨k + 1, _, by omega, by go_num, HW5, HC5, HG6, HF⟩
          case measure => simp [intOf]; omega
        | true =>
          have HS := Lib.hid (show stepG p G ⟨xs, xp, ⟨g0, g1, g2, g3, g4, g5, g6, g7⟩⟩ = G ++ [xs] from if_pos (.inr HB2.out))
          have r0 := HKR5.out.cell 0
          have r1 := HKR5.out.cell 1
          have r2 := HKR5.out.cell 2
          have r3 := HKR5.out.cell 3
          have r4 := HKR5.out.cell 4
          have r5 := HKR5.out.cell 5
          have r6 := HKR5.out.cell 6
          have r7 := HKR5.out.cell 7
          have r8 := HKR5.out.cell 8
          have r9 := HKR5.out.cell 9
          simp only [List.getElem?_toArray, List.getElem?_cons_zero, List.getElem?_cons_succ] at r0 r1 r2 r3 r4 r5 r6 r7 r8 r9
          have q0 := HC5.out.cell 0
          simp only [List.getElem?_toArray, List.getElem?_cons_zero] at q0
          have hf0 := HC5.out.frozen 0
          have hcz := HC5.out.lt
          have HGLEN := Lib.hid (show G.length ≤ 1000000 by have := HLE.out; omega)
          go_wp2_with ((at_builtin; refine wpList_epush elU_ok rfl (.tmp 25) (.tmp 28) _ rfl HT.out _ G xs w5.heap.size 1 rfl rfl (HG5.out.below ((Below.refl _ _).alloc (Nat.le_refl _) _)) (new_u _ _ xs) HGLEN.out ?_; intro v2 w6 hA2; have HPU := Lib.hid (push_gone HW5.out HC5.out HF.out hA2); obtain ⟨gg, cap2, hv2, -⟩ := hA2; subst hv2; simp only [List.length_append, List.length_cons, List.length_nil, Nat.zero_add] at HPU ⊢; have q6 := HPU.out.1.cell 0; have f6 := HPU.out.1.frozen 0; simp only [List.getElem?_toArray, List.getElem?_cons_zero] at q6; clear r0 r1 r2 r3 r4 r5 r6 r7 r8 r9 q0 hf0))
          clear q6 f6
          go_roundw
          case rel => exact ⟨k + 1, _, by omega, by go_num, HPU.out.2.1, HPU.out.2.2.1, by have h9 := HPU.out.2.2.2.1; rw [← HS.out, ← HTK.out] at h9; exact h9, HPU.out.2.2.2.2⟩
          case measure => simp [intOf]; omega

    · obtain rfl : k = n := by omega
      have HGX := Lib.hid (show gone p (L.take k) = gone p L by rw [List.take_of_length_le (by rw [← HN.out]; omega)])
      rw [HGX.out] at HG
      have HLE := Lib.hid (show (gone p L).length ≤ 1000 by have h1 := gone_len p L; rw [← HN.out] at h1; omega)
      have HGL := Lib.hid (show ∀ s ∈ gone p L, s ≤ 18446744073709551615 from fun s hs2 => by
        obtain ⟨q, hq, rfl⟩ := gone_sub p _ s hs2
        exact (hs q hq).1)
      obtain ⟨A2, c2, rfl, -, -⟩ := HG.out.slice
      have HGN : Hid (GN wr w.heap.size (.slice A1 k c1) (gone p L)) := ⟨⟨A2, c2, HC.out, HG.out.ru HGL.out, fun ad e h1 => by
        have h2 := HF.out ad.block (by rw [e]; rfl)
        have h3 := HO.out.lt h1
        omega⟩, fun h1 => by have h3 := HO.out.lt h1; omega⟩
      have HDE := Lib.hid (delete_any wr _ _ _ L (HO.out.below HW.out) HGN.out HLE.out (by rw [← HN.out]; exact hl) hs)
      have hyb := Blk.thru0 HB.out HW.out
      have HYB := Lib.hid hyb
      have t0 := hyb.cell 0
      simp only [List.getElem?_toArray, List.getElem?_cons_zero] at t0
      clear hyb HC HG HF HGX HLE HGL HGN
      go_wp2_with fail
      refine HDE.out.mono ?_
      rintro e w2 ⟨v', rfl, hO2, hK2, hv2⟩
      obtain ⟨A3, c3, rfl, -, -⟩ := hO2.slice
      have HY2 := Lib.hid (show Blk w2 y 67 #[.slice A1 k c1] from (hK2.block y HYB.out.lt HNE.out).trans HYB.out)
      have HEND : Hid (TS y (.slice A1 k c1) w (.slice A3 (keepT (gone p L) L).length c3) (dropT p L) (w2.setCell ⟨y, 0, none⟩ (.slice A3 (keepT (gone p L) L).length c3))) := by
        have hne3 : (Value.slice A3 (keepT (gone p L) L).length c3).ownBlock ≠ some y := by rw [hv2]; exact HNE.out
        refine ⟨⟨HY2.out.set1 _, hO2.keep fun i hi e => Below.heap_setCell w2 ⟨y, 0, none⟩ _ i (fun e2 => hne3 (by rw [e]; simpa using e2)), hne3⟩, ?_, fun i hi => .inl (by rw [← hv2]; exact hi)⟩
        have hB := (Below.refl 0 w2).setCell (p := ⟨y, 0, none⟩) (Nat.zero_le _) (.slice A3 (keepT (gone p L) L).length c3)
        refine ⟨hB.os.trans (hK2.os.trans HW.out.os), hB.tape.trans (hK2.tape.trans HW.out.tape), hB.output.trans (hK2.output.trans HW.out.output), Nat.le_trans HW.out.size (Nat.le_trans hK2.size hB.size), fun i hi h1 h2 => ?_⟩
        rw [Below.heap_setCell w2 ⟨y, 0, none⟩ _ i (by simpa using h1), hK2.block i (Nat.lt_of_lt_of_le hi HW.out.size) h2, HW.out.block i hi]
      have q0 := HY2.out.cell 0
      have f0 := HY2.out.frozen 0
      simp only [List.getElem?_toArray, List.getElem?_cons_zero] at q0
      clear t0 hO2 hK2 hv2 HDE
      go_wp2
      refine bodyPost_end (v := .tuple #[]) ?_ rfl ⟨_, rfl, HEND.out⟩
      simp [results, Try.results35, go_sem, *]
set_option maxRecDepth 100000 in
set_option maxHeartbeats 8000000 in
theorem drop_rev (w : World) (y : Nat) (v : Value) (L : List Tk) (p : Tk → Bool) (cc : Nat) (h : TB w y v L) (hl : L.length ≤ 1000) (hs : SecOk L)
    (hp : ∀ W, Below w.heap.size w W → ∀ k ∈ L, Calls Try.prog 36 #[k.V, ptrA cc] W fun e w' => e = .returned (.bool (p k)) ∧ Below W.heap.size W w') :
    Calls Try.prog 35 #[ptrA y, .func (.func 36) #[] #[ptrA cc]] w fun e w' => ∃ v', e = .returned (.tuple #[]) ∧ TS y v w v' (dropT p L) w' := by
  obtain ⟨A1, c1, rfl, hc1, hc2⟩ := h.own.slice
  have HB := Lib.hid h.blk
  have HO := Lib.hid h.own
  have HNE := Lib.hid h.ne
  have HH := Lib.hid h
  have HP := Lib.hid hp
  have hyz := h.blk.lt
  have ht : Try.prog.underlying 86 = some (.slice elU.T) := Try.underlying86
  have HT := Lib.hid ht; clear ht h hp hc2
  obtain ⟨n, hn⟩ : ∃ n, n = L.length := ⟨_, rfl⟩
  rw [← hn] at HB HO HNE HH hl hc1 ⊢
  have HN := Lib.hid hn; clear hn
  have hal : Below w.heap.size w (w.alloc (.cells #[.slice none 0 0] 86)) := (Below.refl _ _).alloc (Nat.le_refl _) _
  have HC := Lib.hid (Blk.new w 86 #[.slice none 0 0])
  have HA := Lib.hid hal
  clear hal
  go_enter Try.func35, Try.ntmps35
  go_upto_region 1 with fail
  have t0 : (w.alloc (.cells #[.slice none 0 0] 86)).cell? ⟨y, 0, none⟩ = some (.slice A1 n c1) := (HB.out.alloc _).cell 0
  go_wp2_with fail
  go_loopw [6, 12] (fun _ i wr => ∃ (k : Nat) (gv : Value), k ≤ n ∧ i = .int .i64 k ∧ Hid (Below w.heap.size w wr) ∧ Hid (Blk wr w.heap.size 86 #[gv]) ∧ Hid (EOwn elU wr gv (gone p (L.take k))) ∧ Hid (∀ i, gv.ownBlock = some i → w.heap.size < i)) (fun _ i _ => n - (intOf i).toNat)
  case atStart => exact ⟨0, _, Nat.zero_le _, rfl, HA.out, HC.out, EOwn.nil_ _, fun i hi => by simp [Value.ownBlock] at hi⟩
  case round =>
    rename World => wr
    clear t0 HA HC
    obtain ⟨k, gv, hk, rfl, HW, HC, HG, HF⟩ := hrel
    by_cases hlt : k < n
    · have hkl : k < L.length := by rw [← HN.out]; exact hlt
      have hx : L[k]? = some L[k] := List.getElem?_eq_getElem hkl
      have HTK := Lib.hid (gone_take p L k hkl)
      have hsx := hs _ (List.getElem_mem hkl)
      have HPX := Lib.hid (fun W hW => HP.out W hW L[k] (List.getElem_mem hkl))
      have HLE := Lib.hid (show (gone p (L.take k)).length ≤ 1000 by have h1 := gone_len p (L.take k); rw [List.length_take] at h1; omega)
      have HGL := Lib.hid (show ∀ s ∈ gone p (L.take k), s ≤ 18446744073709551615 from fun s hs2 => by
        obtain ⟨q, hq, rfl⟩ := gone_sub p _ s hs2
        exact (hs q (List.mem_of_mem_take hq)).1)
      obtain ⟨g, rfl, a0, a1, a2, a3, a4, a5, a6, a7, a8, a9⟩ := (HO.out.below HW.out).ten hx
      generalize L[k] = x at *
      clear hx
      obtain ⟨xs, xp, ⟨g0, g1, g2, g3, g4, g5, g6, g7⟩⟩ := x
      simp only [Tk.V] at a0 a1 a2 a3 a4 a5 a6 a7 a8 a9 HTK HPX hsx
      have hsx1 := hsx.1
      have hsx2 := hsx.2
      clear hsx
      obtain ⟨b, hb⟩ : ∃ b, p ⟨xs, xp, ⟨g0, g1, g2, g3, g4, g5, g6, g7⟩⟩ = b := ⟨_, rfl⟩
      have HTB := Lib.hid hb
      rw [hb] at HPX
      clear hb
      have hlt2 : (k : Int) < n := by omega
      go_upto_region 4 with fail
      have HKR := Lib.hid (Blk.new wr 35 #[.int .u64 xs, .int .u64 xp, .int .i64 g0, .int .i64 g1, .int .i64 g2, .int .i64 g3, .int .i64 g4, .int .i64 g5, .bool g6, .int .i64 g7])
      have hal : Below wr.heap.size wr (wr.alloc (.cells #[.int .u64 xs, .int .u64 xp, .int .i64 g0, .int .i64 g1, .int .i64 g2, .int .i64 g3, .int .i64 g4, .int .i64 g5, .bool g6, .int .i64 g7] 35)) := (Below.refl _ _).alloc (Nat.le_refl _) _
      have HW3 := Lib.hid (below_trans HW.out hal)
      have HC3 := Lib.hid (Blk.thru0 HC.out hal)
      have HG3 := Lib.hid (HG.out.below hal)
      clear a0 a1 a2 a3 a4 a5 a6 a7 a8 a9 hal HW HC HG
      generalize (wr.alloc (.cells #[.int .u64 xs, .int .u64 xp, .int .i64 g0, .int .i64 g1, .int .i64 g2, .int .i64 g3, .int .i64 g4, .int .i64 g5, .bool g6, .int .i64 g7] 35)) = W3 at *
      generalize wr.heap.size = tr at *
      have r0 := HKR.out.cell 0
      have r1 := HKR.out.cell 1
      have r2 := HKR.out.cell 2
      have r3 := HKR.out.cell 3
      have r4 := HKR.out.cell 4
      have r5 := HKR.out.cell 5
      have r6 := HKR.out.cell 6
      have r7 := HKR.out.cell 7
      have r8 := HKR.out.cell 8
      have r9 := HKR.out.cell 9
      simp only [List.getElem?_toArray, List.getElem?_cons_zero, List.getElem?_cons_succ] at r0 r1 r2 r3 r4 r5 r6 r7 r8 r9
      go_wp2_with fail
      refine (HPX.out _ HW3.out).mono ?_
      rintro e w4 ⟨rfl, hb4⟩
      have HW4 := Lib.hid (below_trans HW3.out hb4)
      have HC4 := Lib.hid (Blk.thru0 HC3.out hb4)
      have HG4 := Lib.hid (HG3.out.below hb4)
      have HKR4 := Lib.hid (Blk.thru0 HKR.out hb4)
      clear hb4 HW3 HC3 HG3 HKR r0 r1 r2 r3 r4 r5 r6 r7 r8 r9 HPX
      obtain ⟨A2, c2, rfl, -, -⟩ := HG4.out.slice
      generalize hGG : gone p (L.take k) = G at *
      have HGG := Lib.hid hGG
      clear hGG
      cases b with
      | true =>
        have HS := Lib.hid (show stepG p G ⟨xs, xp, ⟨g0, g1, g2, g3, g4, g5, g6, g7⟩⟩ = G ++ [xs] from if_pos (.inl HTB.out))
        have r0 := HKR4.out.cell 0
        have r1 := HKR4.out.cell 1
        have r2 := HKR4.out.cell 2
        have r3 := HKR4.out.cell 3
        have r4 := HKR4.out.cell 4
        have r5 := HKR4.out.cell 5
        have r6 := HKR4.out.cell 6
        have r7 := HKR4.out.cell 7
        have r8 := HKR4.out.cell 8
        have r9 := HKR4.out.cell 9
        simp only [List.getElem?_toArray, List.getElem?_cons_zero, List.getElem?_cons_succ] at r0 r1 r2 r3 r4 r5 r6 r7 r8 r9
        have q0 := HC4.out.cell 0
        simp only [List.getElem?_toArray, List.getElem?_cons_zero] at q0
        have HZ4 := Lib.hid HC4.out.lt
        have hf0 := HC4.out.frozen 0
        have hcz := HC4.out.lt
        have HGLEN := Lib.hid (show G.length ≤ 1000000 by have := HLE.out; omega)
        go_wp2_with ((at_builtin; refine wpList_epush elU_ok rfl (.tmp 25) (.tmp 28) _ rfl HT.out _ G xs w4.heap.size 1 rfl rfl (HG4.out.below ((Below.refl _ _).alloc (Nat.le_refl _) _)) (new_u _ _ xs) HGLEN.out ?_; intro v2 w6 hA2; have HPU := Lib.hid (push_gone HW4.out HC4.out HF.out hA2); obtain ⟨gg, cap2, hv2, -⟩ := hA2; subst hv2; simp only [List.length_append, List.length_cons, List.length_nil, Nat.zero_add] at HPU ⊢; have q6 := HPU.out.1.cell 0; have f6 := HPU.out.1.frozen 0; simp only [List.getElem?_toArray, List.getElem?_cons_zero] at q6; clear r0 r1 r2 r3 r4 r5 r6 r7 r8 r9 q0 hf0))
        clear q6 f6
        go_roundw
        case rel => exact ⟨k + 1, _, by omega, by go_num, HPU.out.2.1, HPU.out.2.2.1, by have h9 := HPU.out.2.2.2.1; rw [← HS.out, ← HTK.out] at h9; exact h9, HPU.out.2.2.2.2⟩
        case measure => simp [intOf]; omega

      | false =>
        have HRU := Lib.hid (HG4.out.ru HGL.out)
        have r0 := HKR4.out.cell 0
        have r1 := HKR4.out.cell 1
        have r2 := HKR4.out.cell 2
        have r3 := HKR4.out.cell 3
        have r4 := HKR4.out.cell 4
        have r5 := HKR4.out.cell 5
        have r6 := HKR4.out.cell 6
        have r7 := HKR4.out.cell 7
        have r8 := HKR4.out.cell 8
        have r9 := HKR4.out.cell 9
        simp only [List.getElem?_toArray, List.getElem?_cons_zero, List.getElem?_cons_succ] at r0 r1 r2 r3 r4 r5 r6 r7 r8 r9
        have q0 := HC4.out.cell 0
        simp only [List.getElem?_toArray, List.getElem?_cons_zero] at q0
        obtain ⟨b2, hb2⟩ : ∃ b2, hasN G xp = b2 := ⟨_, rfl⟩
        have hth := fun W h => thas_any W A2 c2 G xp hsx2 h HLE.out
        rw [hb2] at hth
        have HTH := Lib.hid hth
        have HB2 := Lib.hid hb2
        clear hb2 hth
        go_wp2_with fail
        refine (HTH.out _ HRU.out).mono ?_
        rintro e w5 ⟨rfl, hb5⟩
        have HW5 := Lib.hid (below_trans HW4.out hb5)
        have HC5 := Lib.hid (Blk.thru0 HC4.out hb5)
        have HG5 := Lib.hid (HG4.out.below hb5)
        have HKR5 := Lib.hid (Blk.thru0 HKR4.out hb5)
        clear hb5 HW4 HC4 HG4 HKR4 r0 r1 r2 r3 r4 r5 r6 r7 r8 r9 q0 HRU HTH
        cases b2 with
        | false =>
          have HS := Lib.hid (show gone p (L.take (k + 1)) = G by rw [HTK.out]; exact if_neg (by rw [HTB.out, HB2.out]; simp))
          have HG6 := Lib.hid (show EOwn elU w5 (.slice A2 G.length c2) (gone p (L.take (k + 1))) by rw [HS.out]; exact HG5.out)
          go_wp2
          go_roundw
          case rel => exact ⟨k + 1, _, by omega, by go_num, HW5, HC5, HG6, HF⟩
          case measure => simp [intOf]; omega
        | true =>
          have HS := Lib.hid (show stepG p G ⟨xs, xp, ⟨g0, g1, g2, g3, g4, g5, g6, g7⟩⟩ = G ++ [xs] from if_pos (.inr HB2.out))
          have r0 := HKR5.out.cell 0
          have r1 := HKR5.out.cell 1
          have r2 := HKR5.out.cell 2
          have r3 := HKR5.out.cell 3
          have r4 := HKR5.out.cell 4
          have r5 := HKR5.out.cell 5
          have r6 := HKR5.out.cell 6
          have r7 := HKR5.out.cell 7
          have r8 := HKR5.out.cell 8
          have r9 := HKR5.out.cell 9
          simp only [List.getElem?_toArray, List.getElem?_cons_zero, List.getElem?_cons_succ] at r0 r1 r2 r3 r4 r5 r6 r7 r8 r9
          have q0 := HC5.out.cell 0
          simp only [List.getElem?_toArray, List.getElem?_cons_zero] at q0
          have hf0 := HC5.out.frozen 0
          have hcz := HC5.out.lt
          have HGLEN := Lib.hid (show G.length ≤ 1000000 by have := HLE.out; omega)
          go_wp2_with ((at_builtin; refine wpList_epush elU_ok rfl (.tmp 25) (.tmp 28) _ rfl HT.out _ G xs w5.heap.size 1 rfl rfl (HG5.out.below ((Below.refl _ _).alloc (Nat.le_refl _) _)) (new_u _ _ xs) HGLEN.out ?_; intro v2 w6 hA2; have HPU := Lib.hid (push_gone HW5.out HC5.out HF.out hA2); obtain ⟨gg, cap2, hv2, -⟩ := hA2; subst hv2; simp only [List.length_append, List.length_cons, List.length_nil, Nat.zero_add] at HPU ⊢; have q6 := HPU.out.1.cell 0; have f6 := HPU.out.1.frozen 0; simp only [List.getElem?_toArray, List.getElem?_cons_zero] at q6; clear r0 r1 r2 r3 r4 r5 r6 r7 r8 r9 q0 hf0))
          clear q6 f6
          go_roundw
          case rel => exact ⟨k + 1, _, by omega, by go_num, HPU.out.2.1, HPU.out.2.2.1, by have h9 := HPU.out.2.2.2.1; rw [← HS.out, ← HTK.out] at h9; exact h9, HPU.out.2.2.2.2⟩
          case measure => simp [intOf]; omega

    · obtain rfl : k = n := by omega
      have HGX := Lib.hid (show gone p (L.take k) = gone p L by rw [List.take_of_length_le (by rw [← HN.out]; omega)])
      rw [HGX.out] at HG
      have HLE := Lib.hid (show (gone p L).length ≤ 1000 by have h1 := gone_len p L; rw [← HN.out] at h1; omega)
      have HGL := Lib.hid (show ∀ s ∈ gone p L, s ≤ 18446744073709551615 from fun s hs2 => by
        obtain ⟨q, hq, rfl⟩ := gone_sub p _ s hs2
        exact (hs q hq).1)
      obtain ⟨A2, c2, rfl, -, -⟩ := HG.out.slice
      have HGN : Hid (GN wr w.heap.size (.slice A1 k c1) (gone p L)) := ⟨⟨A2, c2, HC.out, HG.out.ru HGL.out, fun ad e h1 => by
        have h2 := HF.out ad.block (by rw [e]; rfl)
        have h3 := HO.out.lt h1
        omega⟩, fun h1 => by have h3 := HO.out.lt h1; omega⟩
      have HDE := Lib.hid (delete_any wr _ _ _ L (HO.out.below HW.out) HGN.out HLE.out (by rw [← HN.out]; exact hl) hs)
      have hyb := Blk.thru0 HB.out HW.out
      have HYB := Lib.hid hyb
      have t0 := hyb.cell 0
      simp only [List.getElem?_toArray, List.getElem?_cons_zero] at t0
      clear hyb HC HG HF HGX HLE HGL HGN
      go_wp2_with fail
      refine HDE.out.mono ?_
      rintro e w2 ⟨v', rfl, hO2, hK2, hv2⟩
      obtain ⟨A3, c3, rfl, -, -⟩ := hO2.slice
      have HY2 := Lib.hid (show Blk w2 y 67 #[.slice A1 k c1] from (hK2.block y HYB.out.lt HNE.out).trans HYB.out)
      have HEND : Hid (TS y (.slice A1 k c1) w (.slice A3 (keepT (gone p L) L).length c3) (dropT p L) (w2.setCell ⟨y, 0, none⟩ (.slice A3 (keepT (gone p L) L).length c3))) := by
        have hne3 : (Value.slice A3 (keepT (gone p L) L).length c3).ownBlock ≠ some y := by rw [hv2]; exact HNE.out
        refine ⟨⟨HY2.out.set1 _, hO2.keep fun i hi e => Below.heap_setCell w2 ⟨y, 0, none⟩ _ i (fun e2 => hne3 (by rw [e]; simpa using e2)), hne3⟩, ?_, fun i hi => .inl (by rw [← hv2]; exact hi)⟩
        have hB := (Below.refl 0 w2).setCell (p := ⟨y, 0, none⟩) (Nat.zero_le _) (.slice A3 (keepT (gone p L) L).length c3)
        refine ⟨hB.os.trans (hK2.os.trans HW.out.os), hB.tape.trans (hK2.tape.trans HW.out.tape), hB.output.trans (hK2.output.trans HW.out.output), Nat.le_trans HW.out.size (Nat.le_trans hK2.size hB.size), fun i hi h1 h2 => ?_⟩
        rw [Below.heap_setCell w2 ⟨y, 0, none⟩ _ i (by simpa using h1), hK2.block i (Nat.lt_of_lt_of_le hi HW.out.size) h2, HW.out.block i hi]
      have q0 := HY2.out.cell 0
      have f0 := HY2.out.frozen 0
      simp only [List.getElem?_toArray, List.getElem?_cons_zero] at q0
      clear t0 hO2 hK2 hv2 HDE
      go_wp2
      refine bodyPost_end (v := .tuple #[]) ?_ rfl ⟨_, rfl, HEND.out⟩
      simp [results, Try.results35, go_sem, *]
end Go.Proofs.Ytmlmndaflgfdkaa
