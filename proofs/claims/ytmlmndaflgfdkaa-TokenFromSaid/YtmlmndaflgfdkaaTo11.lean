/- token: lapse, New, put, by contract. -/
import Derived.Test.YtmlmndaflgfdkaaTo10
import Derived.Test.YtmlmndaflgfdkaaTo4
import Derived.Deep.RegionHeld3
import Derived.Deep.RegionLaw
namespace Go.Proofs.Ytmlmndaflgfdkaa
set_option linter.unusedVariables false
set_option linter.unusedSimpArgs false
open Go.RowKit
/-- The tickets that are left at a tick. -/
def leftC (now : Int) (L : List Tk) : List Tk := dropT (fun k => decide (k.g.til < now)) L
set_option maxHeartbeats 2000000 in
theorem lapse_any (w : World) (y : Nat) (v : Value) (L : List Tk) (now : Int) (h : TB w y v L) (hl : L.length ≤ 1000) (hs : SecOk L) :
    Calls Try.prog 32 #[ptrA y, .int .i64 now] w fun e w' => ∃ v', e = .returned (.tuple #[]) ∧ TS y v w v' (leftC now L) w' := by
  have HD := Lib.hid (drop_past w y v L (fun k => decide (k.g.til < now)) now h hl hs (fun W _ k _ => past_any W now k))
  clear h
  go_enter Try.func32, Try.ntmps32
  go_wp2_with fail
  refine HD.out.mono ?_
  rintro e w1 ⟨v', rfl, hT⟩
  have HT := Lib.hid hT; clear hT
  go_wp2
  refine bodyPost_end (v := .tuple #[]) ?_ rfl ⟨_, rfl, HT.out⟩
  simp [results, Try.results32, go_sem, *]
set_option maxHeartbeats 2000000 in
theorem tnew_any (w : World) : Calls Try.prog 10 #[] w fun e w' => e = .returned (ptrA w.heap.size) ∧ TB w' w.heap.size (.slice none 0 0) [] ∧ Below w.heap.size w w' := by
  go_enter Try.func10, Try.ntmps10
  go_wp2
  go_ret
  exact ⟨rfl, ⟨Blk.new w 67 #[.slice none 0 0], EOwn.nil_ _, by simp [Value.ownBlock]⟩, by go_grown⟩
theorem step_epush {α : Type} {E : El α} {w : World} {ops : Array Oper} {o : Oper} {a : Act} {K : Act → World → Prop} {Q : Exit → Act → World → Prop} {F : Prop} (hE : E.Ok) (hgd : o.guard = none) (s x : Operand) (t : TypeId)
    (ho : o.op = .call { callee := .builtin .append, args := #[s, x], argTypes := #[t, t] }) (ht : Try.prog.underlying t = some (.slice E.T)) (v : Value) (L : List α) (e : α) (b c : Nat) (hs : a.eval s = v) (hx : a.eval x = .slice (some ⟨b, 0, none⟩) 1 c)
    (h : EOwn E w v L) (h0 : ∀ j u, (E.enc e)[j]? = some u → w.cell? ⟨b, j, none⟩ = some u) (hl : L.length ≤ 1000000)
    (hK : ∀ v' w', EAppended E v (L ++ [e]) w v' w' → K (a.put o.dst v') w') : if Region.wanted o (yielded ops a.tmps) = true then Oper.wp Try.prog o a w K Q else F := by
  have hw : Region.wanted o (yielded ops a.tmps) = true := by simp [Region.wanted, hgd]
  rw [if_pos hw]
  exact wp_epush hE s x t ho ht v L e b c hs hx h h0 hl hK
theorem new_cellT (w : World) (cs : Array Value) (t : TypeId) (i : Nat) {v : Value} (h : cs[i]? = some v) : (w.alloc (.cells cs t)).cell? ⟨w.heap.size, i, none⟩ = some v := by rw [(Blk.new w t cs).cell]; exact h
theorem new_cellTd (w : World) (cs : Array Value) (t : TypeId) (i : Nat) {v : Value} (h : cs[i]? = some v) : (w.alloc (.cells cs t)).drew.cell? ⟨w.heap.size, i, none⟩ = some v := new_cellT w cs t i h
/-- What putting a ticket tells. -/
def putE (L : List Tk) (k : Tk) : Int := if rightG k.g = false then 1 else if frE (secs L) k.sec ≠ 0 then frE (secs L) k.sec else if 8 ≤ L.length then 22 else 0
def putL (L : List Tk) (k : Tk) : List Tk := if putE L k = 0 then L ++ [k] else L
theorem put_table {w4 w6 : World} {y : Nat} {v v2 : Value} {L : List Tk} {k : Tk} {o : Obj} (h : TB w4 y v L) (hA : EAppended elT v (L ++ [k]) (w4.alloc o) v2 w6) :
    Blk w6 y 67 #[v] ∧ TS y v w4 v2 (L ++ [k]) (w6.setCell ⟨y, 0, none⟩ v2) := by
  have hlt := h.blk.lt
  have hc6 : Blk w6 y 67 #[v] := (hA.keep (k := y) (by simp; omega) h.ne).trans (h.blk.alloc o)
  obtain ⟨g, cap, rfl, hr, hg, hor⟩ := id hA
  have hgy : g ≠ y := by
    rcases hor with h1 | h1
    · intro e; exact h.ne (by rw [h1, e])
    · simp at h1; omega
  have hne : (Value.slice (some ⟨g, 0, none⟩) (L ++ [k]).length cap).ownBlock ≠ some y := by simp [Value.ownBlock]; exact hgy
  refine ⟨hc6, ⟨hc6.set1 _, hA.own.keep fun i hi e => Below.heap_setCell w6 ⟨y, 0, none⟩ _ i (fun e2 => hne (by rw [e]; simpa using e2)), hne⟩, ?_, fun i hi => ?_⟩
  · have hB := (Below.refl 0 w6).setCell (p := ⟨y, 0, none⟩) (Nat.zero_le _) (.slice (some ⟨g, 0, none⟩) (L ++ [k]).length cap)
    have hb0 := hA.below0
    have ha : Below w4.heap.size w4 (w4.alloc o) := (Below.refl _ _).alloc (Nat.le_refl _) o
    refine ⟨hB.os.trans (hb0.os.trans ha.os), hB.tape.trans (hb0.tape.trans ha.tape), hB.output.trans (hb0.output.trans ha.output), Nat.le_trans ha.size (Nat.le_trans hb0.size hB.size), fun i hi h1 h2 => ?_⟩
    rw [Below.heap_setCell w6 ⟨y, 0, none⟩ _ i (by simpa using h1), hA.keep (Nat.lt_of_lt_of_le hi ha.size) h2, ha.block i hi]
  · simp only [Value.ownBlock, Option.map_some, Option.some.injEq] at hi
    subst hi
    rcases hor with h1 | h1
    · exact .inl h1
    · refine .inr ?_
      have ha : Below w4.heap.size w4 (w4.alloc o) := (Below.refl _ _).alloc (Nat.le_refl _) o
      have := ha.size
      omega
theorem bdrewT {w w' : World} (h : Below w.drew.heap.size w.drew w') : Below w.heap.size w w' := ⟨h.os, h.tape, h.output, h.size, h.block⟩
def PutPT (y : Nat) (v : Value) (L : List Tk) (k : Tk) (w : World) (e : Ending) (w' : World) : Prop := ∃ v', e = .returned (.int .i64 (putE L k)) ∧ TS y v w v' (putL L k) w'
set_option maxRecDepth 100000 in
set_option maxHeartbeats 8000000 in
theorem tput_any (w : World) (y : Nat) (v : Value) (L : List Tk) (k : Tk) (h : TB w y v L) (hl : L.length ≤ 1000) (hs : SecOk L) (hk : k.sec ≤ 18446744073709551615) :
    Calls Try.prog 33 #[ptrA y, k.V] w (PutPT y v L k w) := by
  have H := Lib.hid h
  have hyz := h.blk.lt
  clear h
  obtain ⟨xs, xp, ⟨g0, g1, g2, g3, g4, g5, g6, g7⟩⟩ := k
  simp only [Tk.V] at hk ⊢
  have HKR := Lib.hid (Blk.new w 35 #[.int .u64 xs, .int .u64 xp, .int .i64 g0, .int .i64 g1, .int .i64 g2, .int .i64 g3, .int .i64 g4, .int .i64 g5, .bool g6, .int .i64 g7])
  have hal : Below w.heap.size w (w.alloc (.cells #[.int .u64 xs, .int .u64 xp, .int .i64 g0, .int .i64 g1, .int .i64 g2, .int .i64 g3, .int .i64 g4, .int .i64 g5, .bool g6, .int .i64 g7] 35)) := (Below.refl _ _).alloc (Nat.le_refl _) _
  have HA := Lib.hid hal
  clear hal
  go_enter Try.func33, Try.ntmps33
  go_upto_region 1 with fail
  generalize (w.alloc (.cells #[.int .u64 xs, .int .u64 xp, .int .i64 g0, .int .i64 g1, .int .i64 g2, .int .i64 g3, .int .i64 g4, .int .i64 g5, .bool g6, .int .i64 g7] 35)) = W3 at *
  obtain ⟨tr, htr⟩ : ∃ tr, w.heap.size = tr := ⟨_, rfl⟩
  rw [htr] at HKR ⊢
  have HTR := Lib.hid htr
  clear htr
  have r0 := HKR.out.cell 0
  have r1 := HKR.out.cell 1
  have r2 := HKR.out.cell 2
  have r3 := HKR.out.cell 3
  have r4 := HKR.out.cell 4
  have r5 := HKR.out.cell 5
  have r6 := HKR.out.cell 6
  have r7 := HKR.out.cell 7
  have r8 := HKR.out.cell 8
  have r9 := HKR.out.cell 9
  simp only [List.getElem?_toArray, List.getElem?_cons_zero, List.getElem?_cons_succ] at r0 r1 r2 r3 r4 r5 r6 r7 r8 r9
  obtain ⟨br, hbr⟩ : ∃ br, rightG ⟨g0, g1, g2, g3, g4, g5, g6, g7⟩ = br := ⟨_, rfl⟩
  have HR := rightT_lit ⟨g0, g1, g2, g3, g4, g5, g6, g7⟩ br hbr
  have HBR := Lib.hid hbr
  clear hbr
  go_wp2_with fail
  refine (HR.out _).mono ?_
  rintro e w4 ⟨rfl, hb4⟩
  have HA4 := Lib.hid (below_trans HA.out hb4)
  have HK4 := Lib.hid (Blk.thru0 HKR.out hb4)
  clear hb4 HA HKR r0 r1 r2 r3 r4 r5 r6 r7 r8 r9 HR
  cases br with
  | false =>
    have HE := Lib.hid (show putE L ⟨xs, xp, ⟨g0, g1, g2, g3, g4, g5, g6, g7⟩⟩ = 1 from if_pos HBR.out)
    go_wp2
    go_ret
    exact ⟨v, by rw [HE.out]; rfl, by rw [putL, HE.out, if_neg (by decide)]; exact TS.start H.out HA4.out⟩
  | true =>
    have r0 := HK4.out.cell 0
    have r1 := HK4.out.cell 1
    have r2 := HK4.out.cell 2
    have r3 := HK4.out.cell 3
    have r4 := HK4.out.cell 4
    have r5 := HK4.out.cell 5
    have r6 := HK4.out.cell 6
    have r7 := HK4.out.cell 7
    have r8 := HK4.out.cell 8
    have r9 := HK4.out.cell 9
    simp only [List.getElem?_toArray, List.getElem?_cons_zero, List.getElem?_cons_succ] at r0 r1 r2 r3 r4 r5 r6 r7 r8 r9
    have HB4 := Lib.hid (H.out.below HA4.out)
    have HFR := Lib.hid (fun w A c hA => fresh_any (secs L) A (secs L).length c xs hk w hA (by rw [secs_length]; omega))
    have HLL := Lib.hid (secs_le hs)
    go_upto_region 3 with fail
    go_region_with (first | (go_at_call 50; refine (list_any _ y v L (by first | exact HB4.out | exact HB4.out.below (below_drawn (Below.refl _ _) 1)) hl).mono ?_; rintro e w5 ⟨vl, rfl, hF5⟩; obtain ⟨A5, c5, rfl, hR5⟩ := hF5.ru HLL.out; have k5 := (Blk.thru0 (by first | exact HK4.out | exact HK4.out.drew) hF5.bel).cell 0; simp only [List.getElem?_toArray, List.getElem?_cons_zero] at k5; have HF5 := Lib.hid hF5.bel; have HR5 := Lib.hid hR5; clear hF5 hR5) | (go_at_call 49; refine (HFR.out _ A5 c5 (by first | exact HR5.out | exact HR5.out.below (below_drawn (Below.refl _ _) 1))).mono ?_; rintro e w6 ⟨rfl, hb6⟩; have HB6 := Lib.hid hb6; clear hb6))
    all_goals
      have HB7 := Lib.hid (show Below w4.heap.size w4 w6 from by first | exact below_trans HF5.out HB6.out | exact below_trans (bdrewT HF5.out) HB6.out | exact below_trans (bdrewT HF5.out) (bdrewT HB6.out) | exact below_trans HF5.out (bdrewT HB6.out))
      have HT6 := Lib.hid (HB4.out.below HB7.out)
      have HK6 := Lib.hid (Blk.thru0 HK4.out HB7.out)
      have HA6 := Lib.hid (below_trans HA4.out HB7.out)
      clear k5 HF5 HR5 HB6 HB7 HB4 HK4 HA4 HFR r0 r1 r2 r3 r4 r5 r6 r7 r8 r9
      obtain ⟨fe, hfe⟩ : ∃ fe, frE (secs L) xs = fe := ⟨_, rfl⟩
      have HFE := Lib.hid hfe
      rw [hfe]
      clear hfe
      by_cases h0 : fe = 0
      · subst h0
        obtain ⟨A1, c1, rfl, -, -⟩ := HT6.out.own.slice
        have t0 := HT6.out.blk.cell 0
        simp only [List.getElem?_toArray, List.getElem?_cons_zero] at t0
        by_cases h8 : 8 ≤ L.length
        · have HE := Lib.hid (show putE L ⟨xs, xp, ⟨g0, g1, g2, g3, g4, g5, g6, g7⟩⟩ = 22 by rw [putE, if_neg (by rw [HBR.out]; decide), if_neg (by rw [HFE.out]; decide), if_pos h8])
          have h8' : (8 : Int) ≤ (L.length : Int) := by omega
          go_wp2
          go_ret
          exact ⟨_, by rw [HE.out]; rfl, by rw [putL, HE.out, if_neg (by decide)]; exact TS.start H.out HA6.out⟩
        · have HE := Lib.hid (show putE L ⟨xs, xp, ⟨g0, g1, g2, g3, g4, g5, g6, g7⟩⟩ = 0 by rw [putE, if_neg (by rw [HBR.out]; decide), if_neg (by rw [HFE.out]; decide), if_neg h8])
          have h8' : ¬ (8 : Int) ≤ (L.length : Int) := by omega
          have r0 := HK6.out.cell 0
          have r1 := HK6.out.cell 1
          have r2 := HK6.out.cell 2
          have r3 := HK6.out.cell 3
          have r4 := HK6.out.cell 4
          have r5 := HK6.out.cell 5
          have r6 := HK6.out.cell 6
          have r7 := HK6.out.cell 7
          have r8 := HK6.out.cell 8
          have r9 := HK6.out.cell 9
          simp only [List.getElem?_toArray, List.getElem?_cons_zero, List.getElem?_cons_succ] at r0 r1 r2 r3 r4 r5 r6 r7 r8 r9
          have HLE := Lib.hid (show L.length ≤ 1000000 by omega)
          have HTY := Lib.hid (show Try.prog.underlying 25 = some (.slice elT.T) from Try.underlying25)
          have hyz6 := HT6.out.blk.lt
          have htz6 := HK6.out.lt
          go_upto_region 8 with fail
          go_region_law ((refine step_epush elT_ok rfl (.tmp 32) (.tmp 34) _ rfl HTY.out (.slice A1 L.length c1) L ⟨xs, xp, ⟨g0, g1, g2, g3, g4, g5, g6, g7⟩⟩ w6.heap.size 1 (by simp [Act.eval, Act.put]) (by simp [Act.eval, Act.put]) (by first | exact HT6.out.own.below ((Below.refl _ _).alloc (Nat.le_refl _) _) | exact (HT6.out.own.below (below_drawn (Below.refl _ _) 1)).below ((Below.refl _ _).alloc (Nat.le_refl _) _)) (fun j u hu => by first | exact new_cellTd _ _ _ j (by simpa [elT] using hu) | exact new_cellT _ _ _ j (by simpa [elT] using hu)) HLE.out ?_; intro v2 w7 hA2; have HPT := Lib.hid (by first | exact put_table HT6.out hA2 | exact put_table (w4 := w6.drew) (HT6.out.below (below_drawn (Below.refl _ _) 1)) hA2); obtain ⟨gg, cap2, hv2, -⟩ := hA2; subst hv2; simp only [List.length_append, List.length_cons, List.length_nil, Nat.zero_add] at HPT ⊢; have q7 := HPT.out.1.cell 0; have f7 := HPT.out.1.frozen 0; simp only [List.getElem?_toArray, List.getElem?_cons_zero] at q7))
          all_goals
            have HEND := Lib.hid (by first | exact (TS.start H.out (below_drawn HA6.out 1)).trans HPT.out.2 | exact (TS.start H.out HA6.out).trans HPT.out.2)
            clear r0 r1 r2 r3 r4 r5 r6 r7 r8 r9 q7 f7 t0 HPT
            go_wp2
            go_ret
            exact ⟨_, by rw [HE.out]; rfl, by rw [putL, HE.out, if_pos rfl]; exact HEND.out⟩
      · have h0' : (fe != 0) = true := by simpa using h0
        have HE := Lib.hid (show putE L ⟨xs, xp, ⟨g0, g1, g2, g3, g4, g5, g6, g7⟩⟩ = fe by rw [putE, if_neg (by rw [HBR.out]; decide), HFE.out, if_pos h0])
        clear h0
        go_wp2
        go_ret
        exact ⟨v, by rw [HE.out]; rfl, by rw [putL, HE.out, if_neg (by simpa using h0')]; exact TS.start H.out HA6.out⟩
end Go.Proofs.Ytmlmndaflgfdkaa
