/- token: a table's calls, by contract. -/
import Derived.Test.YtmlmndaflgfdkaaTo12
import Derived.Test.YtmlmndaflgfdkaaRow2
namespace Go.Proofs.Ytmlmndaflgfdkaa
set_option linter.unusedVariables false
set_option linter.unusedSimpArgs false
open Go.RowKit
theorem granted_any (L : List Tk) (y : Nat) (v : Value) (hl : L.length ≤ 1000) (hs : SecOk L) (hO : OrdT L) (f : Nat) : ∀ (i : Nat) (w : World), i ≤ f → i < L.length → TB w y v L →
    Calls Try.prog 39 #[ptrA y, .int .i64 i] w fun e w' => e = .returned (grI L f i).V ∧ Below w.heap.size w w' := by
  induction f with
  | zero =>
    intro i w hf hi h
    have h0 := hO i hi
    exact granted_step L y v i _ w hi hl hs h (.inl ⟨by omega, rfl⟩)
  | succ f ih =>
    intro i w hf hi h
    have h0 := hO i hi
    by_cases hp : fnd (secs L) (L.getD i Tk.zero).par < 0
    · exact granted_step L y v i _ w hi hl hs h (.inl ⟨hp, by rw [grI, if_pos hp]⟩)
    · refine granted_step L y v i _ w hi hl hs h (.inr ⟨by omega, grI L f (fnd (secs L) (L.getD i Tk.zero).par).toNat, by rw [grI, if_neg hp], fun W hW => ?_⟩)
      have h1 := ih (fnd (secs L) (L.getD i Tk.zero).par).toNat W (by omega) (by have := fnd_lt (secs L) (L.getD i Tk.zero).par; rw [secs_length] at this; omega) hW
      rw [Int.toNat_of_nonneg (by omega)] at h1
      exact h1
theorem SecOk.keep {L : List Tk} (h : SecOk L) (G : List Nat) : SecOk (keepT G L) := fun k hk => h k (List.mem_filter.1 hk).1
theorem keepT_le (G : List Nat) (L : List Tk) : (keepT G L).length ≤ L.length := List.length_filter_le _ _
theorem SecOk.left {L : List Tk} (h : SecOk L) (now : Int) : SecOk (leftC now L) := h.keep _
theorem leftC_le (now : Int) (L : List Tk) : (leftC now L).length ≤ L.length := keepT_le _ _
/-- A store into a block of one's own, made since. -/
theorem TS.setFar {y r : Nat} {v v' : Value} {w w' : World} {L : List Tk} (h : TS y v w v' L w') (hr : w.heap.size ≤ r) (hy : r ≠ y) (hv : v'.ownBlock ≠ some r) (o : Nat) (u : Value) : TS y v w v' L (w'.setCell ⟨r, o, none⟩ u) := by
  have hB := (Below.refl 0 w').setCell (p := ⟨r, o, none⟩) (Nat.zero_le _) u
  refine ⟨⟨h.tb.blk.far (p := ⟨r, o, none⟩) (Ne.symm hy) u, h.tb.own.keep fun i hi e => Below.heap_setCell w' ⟨r, o, none⟩ u i (fun e2 => hv (by rw [e]; simpa using e2)), h.tb.ne⟩, ⟨hB.os.trans h.ke.os, hB.tape.trans h.ke.tape, hB.output.trans h.ke.output, Nat.le_trans h.ke.size hB.size, fun i hi h1 h2 => ?_⟩, h.far⟩
  rw [Below.heap_setCell w' ⟨r, o, none⟩ u i (by simp; omega), h.ke.block i hi h1 h2]
/-- A table's operation that began behind a new block: that block is kept. -/
theorem TS.new {y : Nat} {v v' : Value} {w w' : World} {L L' : List Tk} {cs : Array Value} {t : TypeId} (h0 : TB w y v L) (h : TS y v (w.alloc (.cells cs t)) v' L' w') : Blk w' w.heap.size t cs ∧ TS y v w v' L' w' ∧ v'.ownBlock ≠ some w.heap.size ∧ y ≠ w.heap.size := by
  have hy := h0.blk.lt
  have hz : (w.alloc (.cells cs t)).heap.size = w.heap.size + 1 := by simp
  have hv : v.ownBlock ≠ some w.heap.size := fun e => by have := h0.own.lt e; omega
  refine ⟨(h.ke.block w.heap.size (by omega) (by omega) hv).trans (Blk.new w t cs), (TS.start h0 ((Below.refl _ _).alloc (Nat.le_refl _) _)).trans h, fun e => ?_, by omega⟩
  rcases h.far _ e with h1 | h1
  · exact hv h1
  · omega
theorem TB.alloc {w : World} {y : Nat} {v : Value} {L : List Tk} (h : TB w y v L) (o : Obj) : TB (w.alloc o) y v L := h.below ((Below.refl _ _).alloc (Nat.le_refl _) _)
def OpP (y : Nat) (v : Value) (E : Int) (L' : List Tk) (w : World) (e : Ending) (w' : World) : Prop := ∃ v', e = .returned (.int .i64 E) ∧ TS y v w v' L' w'
set_option maxRecDepth 100000 in
set_option maxHeartbeats 4000000 in
theorem mint_any (w : World) (y d : Nat) (v : Value) (L : List Tk) (g : Gt) (now : Int) (h : TB w y v L) (hl : L.length ≤ 1000) (hs : SecOk L) (hd : d ≤ 18446744073709551615) :
    Calls Try.prog 13 #[ptrA y, .int .u64 d, g.V, .int .i64 now] w (OpP y v (putE (leftC now L) ⟨d, 0, g⟩) (putL (leftC now L) ⟨d, 0, g⟩) w) := by
  have H := Lib.hid h
  have HL := Lib.hid (hs.left now)
  have HLL := Lib.hid (Nat.le_trans (leftC_le now L) hl)
  obtain ⟨g0, g1, g2, g3, g4, g5, g6, g7⟩ := g
  simp only [Gt.V]
  have HLA := Lib.hid (lapse_any _ y v L now (h.alloc (.cells #[.int .i64 g0, .int .i64 g1, .int .i64 g2, .int .i64 g3, .int .i64 g4, .int .i64 g5, .bool g6, .int .i64 g7] 30)) hl hs)
  clear h
  go_enter Try.func13, Try.ntmps13
  go_wp2_with fail
  refine HLA.out.mono ?_
  rintro e w1 ⟨v1, rfl, hT⟩
  have hN := TS.new H.out hT
  have HB := Lib.hid hN.1
  have HT := Lib.hid hN.2.1
  clear hT hN HLA
  have q0 := HB.out.cell 0
  have q1 := HB.out.cell 1
  have q2 := HB.out.cell 2
  have q3 := HB.out.cell 3
  have q4 := HB.out.cell 4
  have q5 := HB.out.cell 5
  have q6 := HB.out.cell 6
  have q7 := HB.out.cell 7
  simp only [List.getElem?_toArray, List.getElem?_cons_zero, List.getElem?_cons_succ] at q0 q1 q2 q3 q4 q5 q6 q7
  go_wp2_with fail
  refine (tput_any _ y v1 _ ⟨d, 0, ⟨g0, g1, g2, g3, g4, g5, g6, g7⟩⟩ HT.out.tb HLL.out HL.out hd).mono ?_
  rintro e w2 ⟨v2, rfl, hT2⟩
  have HT2 := Lib.hid (HT.out.trans hT2)
  clear hT2 q0 q1 q2 q3 q4 q5 q6 q7
  go_wp2
  go_ret
  exact ⟨v2, rfl, HT2.out⟩
/-- What deriving tells, and does. -/
def derE (L : List Tk) (s d : Nat) (g : Gt) : Int := if fnd (secs L) s < 0 then 21 else putE L ⟨d, s, g⟩
def derL (L : List Tk) (s d : Nat) (g : Gt) : List Tk := if fnd (secs L) s < 0 then L else putL L ⟨d, s, g⟩
set_option maxRecDepth 100000 in
set_option maxHeartbeats 4000000 in
theorem derive_any (w : World) (y s d : Nat) (v : Value) (L : List Tk) (g : Gt) (now : Int) (h : TB w y v L) (hl : L.length ≤ 1000) (hs : SecOk L) (hd : d ≤ 18446744073709551615) (hss : s ≤ 18446744073709551615) :
    Calls Try.prog 15 #[ptrA y, .int .u64 s, .int .u64 d, g.V, .int .i64 now] w (OpP y v (derE (leftC now L) s d g) (derL (leftC now L) s d g) w) := by
  have H := Lib.hid h
  have HL := Lib.hid (hs.left now)
  have HLL := Lib.hid (Nat.le_trans (leftC_le now L) hl)
  obtain ⟨g0, g1, g2, g3, g4, g5, g6, g7⟩ := g
  simp only [Gt.V]
  have HLA := Lib.hid (lapse_any _ y v L now (h.alloc (.cells #[.int .i64 g0, .int .i64 g1, .int .i64 g2, .int .i64 g3, .int .i64 g4, .int .i64 g5, .bool g6, .int .i64 g7] 30)) hl hs)
  clear h
  go_enter Try.func15, Try.ntmps15
  go_wp2_with fail
  refine HLA.out.mono ?_
  rintro e w1 ⟨v1, rfl, hT⟩
  have hN := TS.new H.out hT
  have HB := Lib.hid hN.1
  have HT := Lib.hid hN.2.1
  clear hT hN HLA
  generalize leftC now L = L1 at *
  have HF := Lib.hid (tfind_any w1 y v1 L1 s hss HT.out.tb HLL.out HL.out)
  obtain ⟨p, hp⟩ : ∃ p, fnd (secs L1) s = p := ⟨_, rfl⟩
  rw [hp] at HF
  have HP := Lib.hid hp
  clear hp
  by_cases hp0 : p < 0
  · have HE := Lib.hid (show derE L1 s d ⟨g0, g1, g2, g3, g4, g5, g6, g7⟩ = 21 from if_pos (by rw [HP.out]; exact hp0))
    have HD := Lib.hid (show derL L1 s d ⟨g0, g1, g2, g3, g4, g5, g6, g7⟩ = L1 from if_pos (by rw [HP.out]; exact hp0))
    go_wp2_with fail
    refine HF.out.mono ?_
    rintro e w2 ⟨rfl, hb2⟩
    have HB2 := Lib.hid (HT.out.below hb2)
    clear hb2
    go_wp2
    go_ret
    exact ⟨v1, by rw [HE.out]; rfl, by rw [HD.out]; exact HB2.out⟩
  · have HE := Lib.hid (show derE L1 s d ⟨g0, g1, g2, g3, g4, g5, g6, g7⟩ = putE L1 ⟨d, s, ⟨g0, g1, g2, g3, g4, g5, g6, g7⟩⟩ from if_neg (by rw [HP.out]; exact hp0))
    have HD := Lib.hid (show derL L1 s d ⟨g0, g1, g2, g3, g4, g5, g6, g7⟩ = putL L1 ⟨d, s, ⟨g0, g1, g2, g3, g4, g5, g6, g7⟩⟩ from if_neg (by rw [HP.out]; exact hp0))
    go_wp2_with fail
    refine HF.out.mono ?_
    rintro e w2 ⟨rfl, hb2⟩
    have HB2 := Lib.hid (HT.out.below hb2)
    have HK2 := Lib.hid (Blk.thru0 HB.out hb2)
    clear hb2
    have q0 := HK2.out.cell 0
    have q1 := HK2.out.cell 1
    have q2 := HK2.out.cell 2
    have q3 := HK2.out.cell 3
    have q4 := HK2.out.cell 4
    have q5 := HK2.out.cell 5
    have q6 := HK2.out.cell 6
    have q7 := HK2.out.cell 7
    simp only [List.getElem?_toArray, List.getElem?_cons_zero, List.getElem?_cons_succ] at q0 q1 q2 q3 q4 q5 q6 q7
    go_wp2_with fail
    refine (tput_any _ y v1 _ ⟨d, s, ⟨g0, g1, g2, g3, g4, g5, g6, g7⟩⟩ HB2.out.tb HLL.out HL.out hd).mono ?_
    rintro e w3 ⟨v2, rfl, hT2⟩
    have HT2 := Lib.hid (HB2.out.trans hT2)
    clear hT2 q0 q1 q2 q3 q4 q5 q6 q7
    go_wp2
    go_ret
    exact ⟨v2, by rw [HE.out]; rfl, by rw [HD.out]; exact HT2.out⟩
/-- What revoking tells, and does. -/
def revE (L : List Tk) (s : Nat) : Int := if fnd (secs L) s < 0 then 21 else 0
def revL (L : List Tk) (s : Nat) : List Tk := if fnd (secs L) s < 0 then L else dropT (fun k => decide (k.sec = s)) L
set_option maxRecDepth 100000 in
set_option maxHeartbeats 4000000 in
theorem revoke_any (w : World) (y s : Nat) (v : Value) (L : List Tk) (now : Int) (h : TB w y v L) (hl : L.length ≤ 1000) (hs : SecOk L) (hss : s ≤ 18446744073709551615) :
    Calls Try.prog 16 #[ptrA y, .int .u64 s, .int .i64 now] w (OpP y v (revE (leftC now L) s) (revL (leftC now L) s) w) := by
  have H := Lib.hid h
  have HL := Lib.hid (hs.left now)
  have HLL := Lib.hid (Nat.le_trans (leftC_le now L) hl)
  have HLA := Lib.hid (lapse_any _ y v L now (h.alloc (.cells #[.int .u64 s] 26)) hl hs)
  clear h
  go_enter Try.func16, Try.ntmps16
  go_wp2_with fail
  refine HLA.out.mono ?_
  rintro e w1 ⟨v1, rfl, hT⟩
  have hN := TS.new H.out hT
  have HB := Lib.hid hN.1
  have HT := Lib.hid hN.2.1
  clear hT hN HLA
  generalize leftC now L = L1 at *
  have q0 := HB.out.cell 0
  simp only [List.getElem?_toArray, List.getElem?_cons_zero] at q0
  have HF := Lib.hid (tfind_any w1 y v1 L1 s hss HT.out.tb HLL.out HL.out)
  obtain ⟨p, hp⟩ : ∃ p, fnd (secs L1) s = p := ⟨_, rfl⟩
  rw [hp] at HF
  have HP := Lib.hid hp
  clear hp
  by_cases hp0 : p < 0
  · have HE := Lib.hid (show revE L1 s = 21 from if_pos (by rw [HP.out]; exact hp0))
    have HD := Lib.hid (show revL L1 s = L1 from if_pos (by rw [HP.out]; exact hp0))
    go_wp2_with fail
    refine HF.out.mono ?_
    rintro e w2 ⟨rfl, hb2⟩
    have HB2 := Lib.hid (HT.out.below hb2)
    clear hb2
    go_wp2
    go_ret
    exact ⟨v1, by rw [HE.out]; rfl, by rw [HD.out]; exact HB2.out⟩
  · have HE := Lib.hid (show revE L1 s = 0 from if_neg (by rw [HP.out]; exact hp0))
    have HD := Lib.hid (show revL L1 s = dropT (fun k => decide (k.sec = s)) L1 from if_neg (by rw [HP.out]; exact hp0))
    go_wp2_with fail
    refine HF.out.mono ?_
    rintro e w2 ⟨rfl, hb2⟩
    have HB2 := Lib.hid (HT.out.below hb2)
    have HK2 := Lib.hid (Blk.thru0 HB.out hb2)
    clear hb2 q0
    have HDR := Lib.hid (drop_rev w2 y v1 L1 (fun k => decide (k.sec = s)) w.heap.size HB2.out.tb HLL.out HL.out (fun W hW k hk => revc_any W w.heap.size s k hss (HL.out k hk).1 (Blk.thru0 HK2.out hW)))
    go_wp2_with fail
    refine HDR.out.mono ?_
    rintro e w3 ⟨v2, rfl, hT2⟩
    have HT2 := Lib.hid (HB2.out.trans hT2)
    clear hT2
    go_wp2
    go_ret
    exact ⟨v2, by rw [HE.out]; rfl, by rw [HD.out]; exact HT2.out⟩
/-- What is told of all tickets: a row of their own. -/
def TicP (y : Nat) (v : Value) (L' : List Tk) (w : World) (e : Ending) (w' : World) : Prop := ∃ v' v2, e = .returned v2 ∧ TS y v w v' L' w' ∧ EOwn elT w' v2 L' ∧ (∀ i, v2.ownBlock = some i → w.heap.size ≤ i ∧ i ≠ y ∧ v'.ownBlock ≠ some i)
set_option maxRecDepth 100000 in
set_option maxHeartbeats 4000000 in
theorem tickets_any (w : World) (y : Nat) (v : Value) (L : List Tk) (now : Int) (h : TB w y v L) (hl : L.length ≤ 1000) (hs : SecOk L) :
    Calls Try.prog 21 #[ptrA y, .int .i64 now] w (TicP y v (leftC now L) w) := by
  have HLL := Lib.hid (Nat.le_trans (leftC_le now L) hl)
  have HLA := Lib.hid (lapse_any _ y v L now h hl hs)
  clear h
  go_enter Try.func21, Try.ntmps21
  go_wp2_with fail
  refine HLA.out.mono ?_
  rintro e w1 ⟨v1, rfl, hT⟩
  have HT := Lib.hid hT
  clear hT HLA
  generalize leftC now L = L1 at *
  obtain ⟨A1, c1, rfl, -, -⟩ := HT.out.tb.own.slice
  have q0 := HT.out.tb.blk.cell 0
  simp only [List.getElem?_toArray, List.getElem?_cons_zero] at q0
  have HC := Lib.hid (cloneT_any w1 _ L1 (ERd.of_own elT_ok HT.out.tb.own) (by have := HLL.out; show L1.length * 80 ≤ _; omega))
  go_wp2_with fail
  refine HC.out.mono ?_
  rintro e w2 ⟨v2, rfl, hO, hf, hb⟩
  have HB2 := Lib.hid (HT.out.below hb)
  have HF := Lib.hid hf
  have HO := Lib.hid hO
  clear hO hf hb
  go_wp2
  go_ret
  refine ⟨_, v2, rfl, HB2.out, HO.out, fun i hi => ?_⟩
  have h1 := HF.out i hi
  have h2 := HT.out.ke.size
  have h3 := HT.out.tb.blk.lt
  exact ⟨by omega, by omega, fun e => by have := HT.out.tb.own.lt e; omega⟩
set_option maxHeartbeats 4000000 in
theorem len_any (w : World) (y : Nat) (v : Value) (L : List Tk) (now : Int) (h : TB w y v L) (hl : L.length ≤ 1000) (hs : SecOk L) :
    Calls Try.prog 22 #[ptrA y, .int .i64 now] w (OpP y v ((leftC now L).length : Nat) (leftC now L) w) := by
  have HT := Lib.hid (tickets_any w y v L now h hl hs)
  clear h
  go_enter Try.func22, Try.ntmps22
  go_wp2_with fail
  refine HT.out.mono ?_
  rintro e w1 ⟨v1, v2, rfl, hT, hO, -⟩
  obtain ⟨A1, c1, rfl, -, -⟩ := hO.slice
  have HTT := Lib.hid hT
  clear hT hO
  go_wp2
  go_ret
  exact ⟨v1, rfl, HTT.out⟩
end Go.Proofs.Ytmlmndaflgfdkaa
