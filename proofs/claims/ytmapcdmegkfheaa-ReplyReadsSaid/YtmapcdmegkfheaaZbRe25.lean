/- reply: read of what has items, by contract. -/
import Derived.Test.YtmapcdmegkfheaaZbRe24
import Derived.Deep.RegionLaw
namespace Go.Proofs.Ytmapcdmegkfheaa
set_option linter.unusedVariables false
set_option linter.unusedSimpArgs false
open Go.RowKit
theorem step_epush {α : Type} {E : El α} {w : World} {ops : Array Oper} {o : Oper} {a : Act} {K : Act → World → Prop} {Q : Exit → Act → World → Prop} {F : Prop} (hE : E.Ok) (hgd : o.guard = none) (s x : Operand) (t : TypeId)
    (ho : o.op = .call { callee := .builtin .append, args := #[s, x], argTypes := #[t, t] }) (ht : Try.prog.underlying t = some (.slice E.T)) (v : Value) (L : List α) (e : α) (b c : Nat) (hs : a.eval s = v) (hx : a.eval x = .slice (some ⟨b, 0, none⟩) 1 c)
    (h : EOwn E w v L) (h0 : ∀ j u, (E.enc e)[j]? = some u → w.cell? ⟨b, j, none⟩ = some u) (hl : L.length ≤ 1000000)
    (hK : ∀ v' w', EAppended E v (L ++ [e]) w v' w' → K (a.put o.dst v') w') : if Region.wanted o (yielded ops a.tmps) = true then Oper.wp Try.prog o a w K Q else F := by
  have hw : Region.wanted o (yielded ops a.tmps) = true := by simp [Region.wanted, hgd]
  rw [if_pos hw]
  exact wp_epush hE s x t ho ht v L e b c hs hx h h0 hl hK
theorem new_cellT (w : World) (cs : Array Value) (t : TypeId) (i : Nat) {v : Value} (h : cs[i]? = some v) : (w.alloc (.cells cs t)).cell? ⟨w.heap.size, i, none⟩ = some v := by rw [(Blk.new w t cs).cell]; exact h
theorem own_ne {α : Type} {E : El α} {w : World} {v : Value} {L : List α} {k : Nat} {t : TypeId} {cs : Array Value} (h : EOwn E w v L) (hb : Blk w k t cs) (ht : E.T ≠ t) : ∀ i, v.ownBlock = some i → i ≠ k := by
  intro i hi
  rcases h with ⟨rfl, _⟩ | ⟨g, cap, rfl, cur, h1, _⟩
  · simp [Value.ownBlock] at hi
  · simp [Value.ownBlock] at hi
    subst hi
    exact Blk.ne_ h1 hb ht
/-- What is known while items are read: z the result's block, a the answer's, q the reader's. -/
structure LS {α : Type} (E : El α) (w : World) (z a q o : Nat) (cz ca : Array Value) (R : Bs) (L : List α) (v : Value) (wr : World) : Prop where
  za : z ≠ a
  zq : z ≠ q
  aq : a ≠ q
  wz : w.heap.size ≤ z
  wa : w.heap.size ≤ a
  tr : E.T ≠ TRs
  ta : E.T ≠ TA
  bel : Below w.heap.size w wr
  rs : RS w.heap.size q R wr
  ba : Blk wr a TA (ca.setIfInBounds o v)
  bz : Blk wr z TA cz
  own : EOwn E wr v L
  far : ∀ i, v.ownBlock = some i → w.heap.size ≤ i
section
variable {α : Type} {E : El α} {w wr w' : World} {z a q o : Nat} {cz ca : Array Value} {R R' : Bs} {L : List α} {v : Value}
theorem LS.below (h : LS E w z a q o cz ca R L v wr) (hb : Below wr.heap.size wr w') : LS E w z a q o cz ca R L v w' :=
  ⟨h.za, h.zq, h.aq, h.wz, h.wa, h.tr, h.ta, below_trans h.bel hb, h.rs.below hb, h.ba.thru0 hb, h.bz.thru0 hb, h.own.below hb, h.far⟩
theorem LS.cut {u : Value} (h : LS E w z a q o cz ca R L v wr) (hw : w' = wr.setCell ⟨q, 0, none⟩ u) (hr : RS w.heap.size q R' w') : LS E w z a q o cz ca R' L v w' := by
  obtain ⟨A, c, hbq, _⟩ := h.rs.st
  have hn := own_ne h.own hbq h.tr
  subst hw
  refine ⟨h.za, h.zq, h.aq, h.wz, h.wa, h.tr, h.ta, (Nf.set (S := [q]) (g := q) wr 0 u (by simp)).below h.bel (by simp; exact h.rs.hq), hr, h.ba.far (p := ⟨q, 0, none⟩) h.aq u, h.bz.far (p := ⟨q, 0, none⟩) h.zq u, h.own.keep fun i hi e => ?_, h.far⟩
  exact Below.heap_setCell wr ⟨q, 0, none⟩ u i (hn i e)
theorem LS.push {ob : Obj} {v2 : Value} {x : α} {w7 : World} (h : LS E w z a q o cz ca R L v wr) (hA : EAppended E v (L ++ [x]) (wr.alloc ob) v2 w7) (ho : o < ca.size) :
    Blk w7 a TA (ca.setIfInBounds o v) ∧ LS E w z a q o cz ca R (L ++ [x]) v2 (w7.setCell ⟨a, o, none⟩ v2) := by
  have hb : Below wr.heap.size wr (wr.alloc ob) := (Below.refl _ _).alloc (Nat.le_refl _) _
  have h1 := h.below hb
  obtain ⟨A, c, hbq, hq2, hq3, hq4⟩ := h1.rs.st
  have na := own_ne h1.own h1.ba h1.ta
  have nz := own_ne h1.own h1.bz h1.ta
  have nq := own_ne h1.own hbq h1.tr
  obtain ⟨g, cap, rfl, hr, hg, hor⟩ := hA
  have kp : ∀ k, k < (wr.alloc ob).heap.size → (∀ i, v.ownBlock = some i → i ≠ k) → w7.heap[k]? = (wr.alloc ob).heap[k]? := fun k hk hn => hg.block k hk (fun e => hn k e.symm rfl)
  have ba7 : Blk w7 a TA (ca.setIfInBounds o v) := (kp a h1.ba.lt na).trans h1.ba
  have bz7 : Blk w7 z TA cz := (kp z h1.bz.lt nz).trans h1.bz
  have bq7 : Blk w7 q TRs #[.slice A R.length c] := (kp q hbq.lt nq).trans hbq
  obtain ⟨cur, hcur, _⟩ := hr
  have nga : g ≠ a := Blk.ne_ hcur ba7 h.ta
  have hfar : ∀ i, (Value.slice (some ⟨g, 0, none⟩) (L ++ [x]).length cap).ownBlock = some i → w.heap.size ≤ i := by
    intro i hi
    simp [Value.ownBlock] at hi
    subst hi
    rcases hor with h2 | h2
    · exact h.far _ h2
    · rw [h2]; exact h1.bel.size
  have hbel : Below w.heap.size w w7 := h1.bel.grown hg h1.bel.size h.far
  have hB : w.heap.size ≤ (wr.alloc ob).heap.size := h1.bel.size
  refine ⟨ba7, h.za, h.zq, h.aq, h.wz, h.wa, h.tr, h.ta, (Nf.set (S := [a]) (g := a) w7 o _ (by simp)).below hbel (by simp; exact h.wa), ?_, ?_, bz7.far (p := ⟨a, o, none⟩) h.za _, ?_, hfar⟩
  · have hrs7 : RS w.heap.size q R w7 := ⟨h1.rs.hq, A, c, bq7, hq2, hq3, hq4.grown hg hB (fun g' e => h.far g' e)⟩
    exact hrs7.far h.wa (Ne.symm h.aq) _
  · have h9 := ba7.set_ o (.slice (some ⟨g, 0, none⟩) (L ++ [x]).length cap)
    simpa using h9
  · refine EOwn.keep (.inr ⟨g, cap, rfl, ⟨cur, hcur, by assumption⟩⟩) fun i hi e => ?_
    simp [Value.ownBlock] at e
    subst e
    exact Below.heap_setCell w7 ⟨a, o, none⟩ _ g nga
end
theorem gI_1 (R : Bs) (a : Nat) : 0 ≤ gI R a 1 ∧ gI R a 1 ≤ 255 := by
  have h1 := getB_lt ((R.drop a).take 1)
  have h2 : (256 : Nat) ^ (((R.drop a).take 1).length) ≤ 256 ^ 1 := Nat.pow_le_pow_right (by omega) (by rw [List.length_take]; omega)
  unfold gI; omega
theorem gI_sub {R : Bs} {b n a k : Nat} (h : a + k ≤ n) : gI ((R.drop b).take n) a k = gI R (b + a) k := by
  unfold gI
  have e : (((R.drop b).take n).drop a).take k = (R.drop (b + a)).take k := by
    rw [List.drop_take, List.take_take, List.drop_drop, Nat.min_eq_left (by omega)]
  rw [e]
set_option maxRecDepth 100000 in
set_option maxHeartbeats 8000000 in
theorem read_events {R : Bs} (w : World) (op : Int) (A : Option Addr) (c : Nat) (hop : op = 17 ∨ op = 18) (hl : 3 ≤ R.length) (hl9 : R.length ≤ 1000) (hc : R.length ≤ c) (hm : c ≤ maxLen) (hr : RB w A R.length R) :
    Calls Try.prog 38 #[.int .i64 op, .slice A R.length c] w (ReadP op R w) := by
  obtain ⟨n, hn⟩ : ∃ n, n = R.length := ⟨_, rfl⟩
  rw [← hn]
  obtain ⟨W, hW⟩ : ∃ W, W = (((((w.alloc (.cells #[.int .i64 0, .int .u64 0, .int .i64 0, .int .i64 0, .int .i64 0, .int .i64 0, .int .i64 0, .int .i64 0, .int .i64 0, .int .i64 0, .slice none 0 0, .slice none 0 0] TA)).alloc (.cells #[.int .i64 0, .int .u64 0, .int .i64 0, .int .i64 0, .int .i64 0, .int .i64 0, .int .i64 0, .int .i64 0, .int .i64 0, .int .i64 0, .slice none 0 0, .slice none 0 0] TA)).alloc (.cells #[.int .i64 0] 3)).alloc (.cells #[.int .i64 0] 3)).alloc (.cells #[.slice A n c] TRs)).alloc (.cells #[.pointer (some ⟨w.heap.size + 1, 0, none⟩), .pointer (some ⟨w.heap.size + 1 + 1, 0, none⟩), .pointer (some ⟨w.heap.size + 1 + 1 + 1, 0, none⟩)] 80) := ⟨_, rfl⟩
  have hb0 : Below w.heap.size w W := by rw [hW]; exact ((((((Below.refl _ _).alloc (Nat.le_refl _) _).alloc (by simp) _).alloc (by simp; omega) _).alloc (by simp; omega) _).alloc (by simp; omega) _).alloc (by simp; omega) _
  have K4 : Blk W w.heap.size TA #[.int .i64 0, .int .u64 0, .int .i64 0, .int .i64 0, .int .i64 0, .int .i64 0, .int .i64 0, .int .i64 0, .int .i64 0, .int .i64 0, .slice none 0 0, .slice none 0 0] := by rw [hW]; exact (((((Blk.new w _ _).alloc _).alloc _).alloc _).alloc _).alloc _
  have K5 : Blk W (w.heap.size + 1) TA #[.int .i64 0, .int .u64 0, .int .i64 0, .int .i64 0, .int .i64 0, .int .i64 0, .int .i64 0, .int .i64 0, .int .i64 0, .int .i64 0, .slice none 0 0, .slice none 0 0] := by rw [hW]; exact ((((Blk.newAt (by simp)).alloc _).alloc _).alloc _).alloc _
  have K6 : Blk W (w.heap.size + 1 + 1) 3 #[.int .i64 0] := by rw [hW]; exact (((Blk.newAt (by simp)).alloc _).alloc _).alloc _
  have K7 : Blk W (w.heap.size + 1 + 1 + 1) 3 #[.int .i64 0] := by rw [hW]; exact ((Blk.newAt (by simp)).alloc _).alloc _
  have K8 : Blk W (w.heap.size + 1 + 1 + 1 + 1) TRs #[.slice A R.length c] := by rw [hW, hn]; exact (Blk.newAt (by simp)).alloc _
  have K9 : Blk W (w.heap.size + 1 + 1 + 1 + 1 + 1) 80 #[.pointer (some ⟨w.heap.size + 1, 0, none⟩), .pointer (some ⟨w.heap.size + 1 + 1, 0, none⟩), .pointer (some ⟨w.heap.size + 1 + 1 + 1, 0, none⟩)] := by rw [hW]; exact Blk.newAt (by simp)
  have KR : RS w.heap.size (w.heap.size + 1 + 1 + 1 + 1) R W := ⟨by omega, A, c, K8, hc, hm, Reads.below hr hb0⟩
  have HN0 := Lib.hid (nums_abc W 1 (w.heap.size + 1 + 1 + 1 + 1 + 1) 3 (w.heap.size + 1) (w.heap.size + 1 + 1) (w.heap.size + 1 + 1 + 1) 0 0 0 TA 3 3 #[.int .i64 0, .int .u64 0, .int .i64 0, .int .i64 0, .int .i64 0, .int .i64 0, .int .i64 0, .int .i64 0, .int .i64 0, .int .i64 0, .slice none 0 0, .slice none 0 0] #[.int .i64 0] #[.int .i64 0] (by decide) (by decide) KR K9 (by omega) (by omega) K5 (by omega) (by omega) (by omega) K6 (by omega) (by omega) (by omega) K7 (by omega) (by omega) (by omega) (by omega) (by omega) (by omega) (by simp) (by simp) (by simp))
  have HB0 := Lib.hid hb0
  have HK4 := Lib.hid K4
  have HV0 := Lib.hid (gI0 R 1)
  have HV2 : Hid (gI R 2 1 = ((getB (((R.drop 1).drop 1).take 1) : Nat) : Int)) := Lib.hid (by unfold gI; simp only [List.drop_drop])
  have HL := Lib.hid hl
  have HL9 := Lib.hid hl9
  have hWs := hW.symm
  clear hW hb0 K4 K5 K6 K7 K8 K9 KR hr hc hm hl hl9 hn
  go_enter Try.func38, Try.ntmps38
  go_wp2_with fail
  refine HN0.out.mono ?_
  rintro e w1 ⟨rfl, hrs, hba, hbs, hbi, hnf⟩
  have HRS := Lib.hid hrs
  have HB1 := Lib.hid (hnf.below HB0.out (by simp; omega))
  have H4 := Lib.hid (hnf.blk HK4.out (by simp; omega))
  simp only [List.setIfInBounds_toArray, List.set_cons_zero, List.set_cons_succ] at hba hbs hbi
  rw [← HV0.out] at hba
  rw [← HV2.out] at hbi
  have HA := Lib.hid hba
  have HI := Lib.hid hbi
  have HR3 : Hid (((R.drop 1).drop 1).drop 1 = R.drop 3) := Lib.hid (by simp only [List.drop_drop])
  rw [HR3.out] at HRS
  clear hrs hba hbs hbi hnf hWs HV0 HV2 HR3 HN0
  obtain ⟨it, hit⟩ : ∃ it, it = itemsR R := ⟨_, rfl⟩
  have HIT : Hid (gI R 2 1 = (it : Int)) := Lib.hid (by rw [hit]; unfold itemsR; have := gI_le R 2 1 (by decide); omega)
  rw [HIT.out] at HI
  have HITE := Lib.hid hit
  have hi1000 : it ≤ 1000 := by rw [hit]; have h1 := gI_1 R 2; unfold itemsR; omega
  have HAN : Hid (∀ (A : Option Addr) (n c : Nat), (anR op R none 0 0 A n c).cs = #[.int .i64 (gI R 0 1), .int .u64 0, .int .i64 0, .int .i64 0, .int .i64 0, .int .i64 0, .int .i64 0, .int .i64 0, .int .i64 0, .int .i64 0, .slice none 0 0, .slice A n c]) := Lib.hid (by intro A n c; rcases hop with rfl | rfl <;> rfl)
  have HSE : Hid (seensR op R = []) := Lib.hid (by unfold seensR; rw [if_neg (by omega)])
  have HEV : Hid (evtsR op R = (List.range it).map (evtR R)) := Lib.hid (by unfold evtsR; rw [if_pos hop, hit])
  clear hit
  have HTY := Lib.hid (show Try.prog.underlying 36 = some (.slice elOE.T) from Try.underlying36)
  have HL0 : Hid (LS elOE w w.heap.size (w.heap.size + 1) (w.heap.size + 1 + 1 + 1 + 1) 11 #[.int .i64 0, .int .u64 0, .int .i64 0, .int .i64 0, .int .i64 0, .int .i64 0, .int .i64 0, .int .i64 0, .int .i64 0, .int .i64 0, .slice none 0 0, .slice none 0 0] #[.int .i64 (gI R 0 1), .int .u64 0, .int .i64 0, .int .i64 0, .int .i64 0, .int .i64 0, .int .i64 0, .int .i64 0, .int .i64 0, .int .i64 0, .slice none 0 0, .slice none 0 0] (R.drop (3 + 8 * 0)) ((List.range 0).map (evtR R)) (.slice none 0 0) w1) := Lib.hid ⟨by omega, by omega, by omega, by omega, by omega, by decide, by decide, HB1.out, HRS.out, HA.out, H4.out, EOwn.nil_ _, fun i hi => by simp [Value.ownBlock] at hi⟩
  have i0 := HI.out.cell 0
  simp only [List.getElem?_toArray, List.getElem?_cons_zero, List.getElem?_cons_succ] at i0
  have HQV : ∀ v : Value, (#[.int .i64 (gI R 0 1), .int .u64 0, .int .i64 0, .int .i64 0, .int .i64 0, .int .i64 0, .int .i64 0, .int .i64 0, .int .i64 0, .int .i64 0, .slice none 0 0, .slice none 0 0]).setIfInBounds 11 v = #[.int .i64 (gI R 0 1), .int .u64 0, .int .i64 0, .int .i64 0, .int .i64 0, .int .i64 0, .int .i64 0, .int .i64 0, .int .i64 0, .int .i64 0, .slice none 0 0, v] := fun v => rfl
  have HQW := Lib.hid HQV
  clear HQV
  generalize gI R 0 1 = st0 at *
  rcases hop with rfl | rfl
  all_goals
    go_wp2_with fail
    clear i0
    go_loopw [61] (fun i wr => ∃ (j : Nat) (v : Value), j ≤ it ∧ i = .int .i64 j ∧ Hid (LS elOE w w.heap.size (w.heap.size + 1) (w.heap.size + 1 + 1 + 1 + 1) 11 #[.int .i64 0, .int .u64 0, .int .i64 0, .int .i64 0, .int .i64 0, .int .i64 0, .int .i64 0, .int .i64 0, .int .i64 0, .int .i64 0, .slice none 0 0, .slice none 0 0] #[.int .i64 st0, .int .u64 0, .int .i64 0, .int .i64 0, .int .i64 0, .int .i64 0, .int .i64 0, .int .i64 0, .int .i64 0, .int .i64 0, .slice none 0 0, .slice none 0 0] (R.drop (3 + 8 * j)) ((List.range j).map (evtR R)) v wr)) (fun i _ => it - (intOf i).toNat)
    case atStart => exact ⟨0, _, Nat.zero_le _, rfl, HL0⟩
    case round =>
      rename World => wr
      obtain ⟨j, v, hj, rfl, HS⟩ := hrel
      by_cases hlt : j < it
      · have HRG : Hid ((List.range (j + 1)).map (evtR R) = (List.range j).map (evtR R) ++ [evtR R j]) := Lib.hid (by rw [List.range_succ, List.map_append]; rfl)
        have HLN : Hid (((List.range j).map (evtR R)).length ≤ 1000) := Lib.hid (by rw [List.length_map, List.length_range]; omega)
        have HDR : Hid ((R.drop (3 + 8 * j)).drop 8 = R.drop (3 + 8 * (j + 1))) := Lib.hid (by rw [List.drop_drop]; congr 1)
        have HCT := Lib.hid (fun (X : World) (hX : RS w.heap.size (w.heap.size + 1 + 1 + 1 + 1) (R.drop (3 + 8 * j)) X) => rcut_lo X 8 hX (by decide))
        unfold CutL at HCT
        have HSX : Hid (evtR R j = ⟨gI ((R.drop (3 + 8 * j)).take 8) 0 2, gI ((R.drop (3 + 8 * j)).take 8) 2 1, gI ((R.drop (3 + 8 * j)).take 8) 3 1, gI ((R.drop (3 + 8 * j)).take 8) 4 4⟩) := Lib.hid (by unfold evtR; simp only [gI_sub (R := R) (b := 3 + 8 * j) (n := 8) (a := 0) (k := 2) (by decide), gI_sub (R := R) (b := 3 + 8 * j) (n := 8) (a := 2) (k := 1) (by decide), gI_sub (R := R) (b := 3 + 8 * j) (n := 8) (a := 3) (k := 1) (by decide), gI_sub (R := R) (b := 3 + 8 * j) (n := 8) (a := 4) (k := 4) (by decide), Nat.add_zero])
        have HTL : Hid (((R.drop (3 + 8 * j)).take 8).length ≤ 8) := Lib.hid (by rw [List.length_take]; omega)
        have hlt2 : (j : Int) < it := by omega
        have HSD := Lib.hid (HS.out.below (below_drawn (Below.refl wr.heap.size wr) 1))
        have t0 := HS.out.ba.cell 11
        rw [HQW.out] at t0
        simp only [List.getElem?_toArray, List.getElem?_cons_zero, List.getElem?_cons_succ] at t0
        generalize hsb : (R.drop (3 + 8 * j)).take 8 = SB at *
        have HSB := Lib.hid hsb
        clear hsb
        generalize evtR R j = x at *
        generalize (List.range j).map (evtR R) = LJ at *
        go_upto_region 26 with fail
        go_region_law (first
          | (go_simp; go_at_call 54; refine (HCT.out _ (by first | exact HSD.out.rs | exact HS.out.rs)).mono ?_; rintro e w8 ⟨A1, rfl, hrd, hrs, u1, hu1⟩; have H8 := Lib.hid (by first | exact HSD.out.cut hu1 hrs | exact HS.out.cut hu1 hrs); have HRD8 := Lib.hid hrd; have HU8 := Lib.hid hu1; have t8 := H8.out.ba.cell 11; rw [HQW.out] at t8; simp only [List.getElem?_toArray, List.getElem?_cons_zero, List.getElem?_cons_succ] at t8; clear hrd hrs hu1)
          | (go_simp; go_at_call 57; refine (revent_any (R := SB) _ A1 SB.length (Nat.le_refl _) (by have := HTL.out; simp only [maxLen]; omega) H8.out.bel.size (by rw [HU8.out]; exact HRD8.out.setCell (p := ⟨w.heap.size + 1 + 1 + 1 + 1, 0, none⟩) (by simp; omega) _)).mono ?_; rintro e w9 ⟨rfl, hb9⟩; have H9 := Lib.hid (H8.out.below hb9); have t9 := H9.out.ba.cell 11; rw [HQW.out] at t9; simp only [List.getElem?_toArray, List.getElem?_cons_zero, List.getElem?_cons_succ] at t9; have t9b := cell_later ((Below.refl w9.heap.size w9).alloc (Nat.le_refl _) (.cells #[.int .i64 (gI SB 0 2), .int .i64 (gI SB 2 1), .int .i64 (gI SB 3 1), .int .i64 (gI SB 4 4)] 62)) t9; clear hb9)
          | (refine step_epush elOE_ok rfl (.tmp 64) (.tmp 67) _ rfl HTY.out v LJ x w9.heap.size 1 (by simp [Act.eval, Act.put]) (by simp [Act.eval, Act.put]) (H9.out.own.below ((Below.refl _ _).alloc (Nat.le_refl _) _)) (fun jj u hu => new_cellT _ _ _ jj (by rw [HSX.out] at hu; simpa [elOE] using hu)) (by have := HLN.out; omega) ?_; intro v2 w7 hA2; have HP := Lib.hid (H9.out.push hA2 (by simp)); obtain ⟨gg, cap2, hv2, -⟩ := hA2; subst hv2; generalize (LJ ++ [x]).length = ln2 at HP ⊢; have q7 := HP.out.1.cell 11; rw [HQW.out] at q7; have f7 := HP.out.1.frozen 11; simp only [List.getElem?_toArray, List.getElem?_cons_zero, List.getElem?_cons_succ] at q7))
        all_goals
          go_wp2_with fail
          go_roundw
          case rel => exact ⟨j + 1, _, by omega, by go_num, Lib.hid (by rw [HRG.out, ← HDR.out]; exact HP.out.2)⟩
          case measure => simp [intOf]; omega
      · obtain rfl : j = it := by omega
        have HOW := Lib.hid HS.out.own
        have HBA := Lib.hid HS.out.ba
        have HBZ := Lib.hid HS.out.bz
        have HBE := Lib.hid HS.out.bel
        have HFAR := Lib.hid HS.out.far
        have HNZ := Lib.hid (own_ne HS.out.own HS.out.bz HS.out.ta)
        obtain ⟨A9, c9, hv9, hl9, hm9⟩ := HOW.out.slice
        have hln : ((List.range j).map (evtR R)).length = j := by rw [List.length_map, List.length_range]
        rw [hln] at hv9
        subst hv9
        rw [HQW.out] at HBA
        clear HS hl9 hm9 hln
        have t0 := HBA.out.cell 0
        have t1 := HBA.out.cell 1
        have t2 := HBA.out.cell 2
        have t3 := HBA.out.cell 3
        have t4 := HBA.out.cell 4
        have t5 := HBA.out.cell 5
        have t6 := HBA.out.cell 6
        have t7 := HBA.out.cell 7
        have t8 := HBA.out.cell 8
        have t9 := HBA.out.cell 9
        have t10 := HBA.out.cell 10
        have t11 := HBA.out.cell 11
        simp only [List.getElem?_toArray, List.getElem?_cons_zero, List.getElem?_cons_succ] at t0 t1 t2 t3 t4 t5 t6 t7 t8 t9 t10 t11
        have s0 := HBZ.out.cell 0
        have s1 := HBZ.out.cell 1
        have s2 := HBZ.out.cell 2
        have s3 := HBZ.out.cell 3
        have s4 := HBZ.out.cell 4
        have s5 := HBZ.out.cell 5
        have s6 := HBZ.out.cell 6
        have s7 := HBZ.out.cell 7
        have s8 := HBZ.out.cell 8
        have s9 := HBZ.out.cell 9
        have s10 := HBZ.out.cell 10
        have s11 := HBZ.out.cell 11
        simp only [List.getElem?_toArray, List.getElem?_cons_zero, List.getElem?_cons_succ] at s0 s1 s2 s3 s4 s5 s6 s7 s8 s9 s10 s11
        have f0 := HBZ.out.frozen 0
        have f1 := HBZ.out.frozen 1
        have f2 := HBZ.out.frozen 2
        have f3 := HBZ.out.frozen 3
        have f4 := HBZ.out.frozen 4
        have f5 := HBZ.out.frozen 5
        have f6 := HBZ.out.frozen 6
        have f7 := HBZ.out.frozen 7
        have f8 := HBZ.out.frozen 8
        have f9 := HBZ.out.frozen 9
        have f10 := HBZ.out.frozen 10
        have f11 := HBZ.out.frozen 11
        have hge : ¬ ((j : Int) < (j : Int)) := by omega
        go_wp2_with fail
        (try simp only [Exit.inBlock, Exit.then])
        refine bodyPost_ret (results_cell_row rfl _ _ _ _ _ _ _ rfl (blk12 HBZ.out _ _ _ _ _ _ _ _ _ _ _ _) rfl rfl (by rfl)) rfl ?_
        have HNF := Lib.hid (fun y0 y1 y2 y3 y4 y5 y6 y7 y8 y9 y10 y11 => nf12 (S := [w.heap.size]) (w := wr) (g := w.heap.size) (by simp) y0 y1 y2 y3 y4 y5 y6 y7 y8 y9 y10 y11)
        refine ⟨(HNF.out _ _ _ _ _ _ _ _ _ _ _ _).below HBE.out (by simp), none, 0, 0, A9, j, c9, ?_, ?_, fun g o h => (by cases h), fun g o h => HFAR.out g (by rw [h]; simp [Value.ownBlock])⟩
        · rw [HAN.out]
        · rw [HSE.out, HEV.out]
          exact ⟨ERd.of_own elOS_ok (EOwn.nil_ _), ERd.of_own elOE_ok (HOW.out.keep fun i hi e => (HNF.out _ _ _ _ _ _ _ _ _ _ _ _).block i (by simp; exact HNZ.out i e)), rfl, by rw [List.length_map, List.length_range]; rfl, by simp, by rw [List.length_map, List.length_range]; omega⟩
end Go.Proofs.Ytmapcdmegkfheaa
