/- region: the form of strips, by contract. -/
import Derived.Test.YtimfcgnnfgoaaaaRgH
import Derived.Test.YtimfcgnnfgoaaaaRgI
namespace Go.Proofs.Ytimfcgnnfgoaaaa
set_option linter.unusedVariables false
set_option linter.unusedSimpArgs false
open Go.RowKit
theorem ERd.cut {α : Type} {E : El α} {w : World} {A : Option Addr} {m c : Nat} {L : List α} {n : Nat} (h : ERd E w (.slice A m c) L) (hn : n ≤ L.length) : ERd E w (.slice (if c = n then A else A.map (·.add (n * E.k))) (m - n) (c - n)) (L.drop n) := by
  obtain ⟨A', c', e, h1, h2, h3⟩ := h
  injection e with e1 e2 e3
  subst e1; subst e2; subst e3
  refine ⟨if c = n then A else A.map (·.add (n * E.k)), c - n, by simp, by simp; omega, by omega, fun i x hx => ?_⟩
  rw [List.getElem?_drop] at hx
  obtain ⟨g, o, rfl, hc⟩ := h3 (n + i) x hx
  have hlt := (List.getElem?_eq_some_iff.1 hx).1
  rw [if_neg (by omega)]
  refine ⟨g, o + n * E.k, by simp [Addr.add], fun j u hu => ?_⟩
  have := hc j u hu
  have e : o + (n + i) * E.k + j = o + n * E.k + i * E.k + j := by rw [Nat.add_mul]; omega
  rwa [e] at this
/-- Strips that can be read. -/
structure SRd (w : World) (v : Value) (S : List (St × List Rn)) : Prop where
  row : ERd elSt w v (S.map (·.1))
  rd : ∀ p ∈ S, ERd elRn w p.1.h.v p.2
section
variable {w wr W w' : World} {v v' u : Value} {S : List (St × List Rn)} {R : List Rn} {x : St}
theorem SR.read {w0 : World} (h : SR w0 v S w) : SRd w v S := ⟨ERd.of_own elSt_ok h.fe.own, fun p hp => ERd.of_own elRn_ok (h.rd p hp)⟩
theorem SRd.below (h : SRd w v S) (hb : Below w.heap.size w W) : SRd W v S := ⟨h.row.below hb, fun p hp => (h.rd p hp).below hb⟩
theorem SRd.cut {A : Option Addr} {m c n : Nat} (h : SRd w (.slice A m c) S) (hn : n ≤ S.length) : SRd w (.slice (if c = n then A else A.map (·.add (n * 3))) (m - n) (c - n)) (S.drop n) := by
  refine ⟨?_, fun p hp => h.rd p (List.mem_of_mem_drop hp)⟩
  rw [List.map_drop]
  exact h.row.cut (by simpa using hn)
theorem SRd.at_ {A : Option Addr} {m c k : Nat} {p : St × List Rn} (h : SRd w (.slice A m c) S) (hp : S[k]? = some p) : ∃ g o, A = some ⟨g, o, none⟩ ∧ g < w.heap.size ∧ w.cell? ⟨g, o + k * 3, none⟩ = some (.int .i64 p.1.f) ∧ w.cell? ⟨g, o + k * 3 + 1, none⟩ = some (.int .i64 p.1.t) ∧ w.cell? ⟨g, o + k * 3 + 2, none⟩ = some (.slice p.1.h.A p.1.h.n p.1.h.c) ∧ ERd elRn w (.slice p.1.h.A p.1.h.n p.1.h.c) p.2 := by
  obtain ⟨g, o, rfl, hc⟩ := h.row.cell (i := k) (x := p.1) (by rw [List.getElem?_map, hp]; rfl)
  have h0 := hc 0 _ rfl
  exact ⟨g, o, rfl, World.block_lt_of_cell? w _ h0, h0, hc 1 _ rfl, hc 2 _ rfl, h.rd p (List.mem_of_getElem? hp)⟩
end
theorem rects_append (L M : List Bd) : rects (L ++ M) = rects L ++ rects M := by simp [rects, List.flatMap_append]
theorem rectsB_len (b : Bd) : (rectsB b).length = b.R.length := by simp [rectsB]
theorem rects_grp_len (K : Nat) : ∀ (L : List Bd) (b : Bd), b.R.length ≤ K → (∀ c ∈ L, c.R.length ≤ K) → (rects (grp b L)).length ≤ K * (L.length + 1)
  | [], b, h, _ => by simp [grp, rects_cons, rectsB_len, rects]; exact h
  | s :: r, b, h, h2 => by
    unfold grp
    split
    · have := rects_grp_len K r ⟨b.f, s.t, b.R⟩ h (fun c hc => h2 c (by simp [hc]))
      have e : K * ((s :: r).length + 1) = K * (r.length + 1) + K := by simp [Nat.mul_add]
      omega
    · have := rects_grp_len K r s (h2 s (by simp)) (fun c hc => h2 c (by simp [hc]))
      rw [rects_cons, List.length_append, rectsB_len]
      have e : K * ((s :: r).length + 1) = K * (r.length + 1) + K := by simp [Nat.mul_add]
      omega
theorem rects_groups_len {K : Nat} {L : List Bd} (h : ∀ c ∈ L, c.R.length ≤ K) : (rects (groups L)).length ≤ K * L.length := by
  cases L with
  | nil => simp [groups, rects]
  | cons b r => exact rects_grp_len K r b (h b (by simp)) (fun c hc => h c (by simp [hc]))
theorem grp_self (b : Bd) (L : List Bd) : grp b (b :: L) = grp b L := by
  rw [grp, if_pos ((eqRs_iff _ _).2 rfl)]
/-- A band under way. -/
structure FmSt (w : World) (l : Value) (D : List Bx) (q : Nat) (b : Bd) (A : Option Addr) (n c : Nat) (wr : World) : Prop where
  fe : FE elR w l D wr
  blk : Blk wr q 72 #[.int .i64 b.f, .int .i64 b.t, .slice A n c]
  bl : w.heap.size ≤ q
section
variable {w wr W w' : World} {l : Value} {D : List Bx} {q n c : Nat} {b : Bd} {A : Option Addr}
theorem FmSt.below (h : FmSt w l D q b A n c wr) (hb : Below wr.heap.size wr W) : FmSt w l D q b A n c W := ⟨h.fe.below hb, h.blk.thru0 hb, h.bl⟩
theorem FmSt.start (h : FE elR w l D wr) : FmSt w l D wr.heap.size b A n c (wr.alloc (.cells #[.int .i64 b.f, .int .i64 b.t, .slice A n c] 72)) := ⟨h.below ((Below.refl _ _).alloc (Nat.le_refl _) _), Blk.new _ _ _, h.bel.size⟩
theorem FmSt.set_ (h : FmSt w l D q b A n c W) (t : Int) : FmSt w l D q ⟨b.f, t, b.R⟩ A n c (W.setCell ⟨q, 1, none⟩ (.int .i64 t)) := by
  have hb : Blk (W.setCell ⟨q, 1, none⟩ (.int .i64 t)) q 72 #[.int .i64 b.f, .int .i64 t, .slice A n c] := by
    have := h.blk.set_ 1 (.int .i64 t)
    simpa using this
  have hk : ∀ i, i ≠ q → (W.setCell ⟨q, 1, none⟩ (.int .i64 t)).heap[i]? = W.heap[i]? := fun i hi => Below.heap_setCell W ⟨q, 1, none⟩ _ _ hi
  have hq := h.bl
  refine ⟨⟨h.fe.own.keep fun i hi e => hk i (fun e2 => ?_), ⟨h.fe.bel.os, h.fe.bel.tape, h.fe.bel.output, by simpa [World.setCell] using h.fe.bel.size, fun i hi => ?_⟩, h.fe.far⟩, hb, h.bl⟩
  · subst e2
    rcases h.fe.own with ⟨hv, _⟩ | ⟨g, cap, hv, cur, h1, _⟩
    · rw [hv] at e; simp [Value.ownBlock] at e
    · rw [hv] at e; simp [Value.ownBlock] at e
      subst e
      exact Blk.ne_ h1 h.blk (by decide) rfl
  · rw [hk i (by omega)]
    exact h.fe.bel.block i hi
end
def slN : Value → Nat
  | .slice _ n _ => n
  | _ => 0
/-- What is left of strips, and the rectangles of those that are done. -/
structure OSt (w : World) (S : List (St × List Rn)) (A : Option Addr) (n c : Nat) (S' : List (St × List Rn)) (l : Value) (D : List Bx) (wr : World) : Prop where
  sr : SRd w (.slice A n c) S'
  len : n = S'.length
  fe : FE elR w l D wr
  eq : rects (groups (S.map toBd)) = D ++ rects (groups (S'.map toBd))
  rl : ∀ p ∈ S', p.2.length ≤ 100000
  few : n ≤ 100000
def FormP (w : World) (G : List Bd) (e : Ending) (w' : World) : Prop := ∃ v, e = .returned v ∧ FE elR w v (rects (groups G)) w'
set_option maxRecDepth 100000 in
set_option maxHeartbeats 8000000 in
theorem form_any (w : World) (v : Value) (S : List (St × List Rn)) (h : SRd w v S) (hl : S.length ≤ 100000) (hr : ∀ p ∈ S, p.2.length ≤ 100000) (hg : (rects (groups (S.map toBd))).length ≤ 1000000) :
    Calls Try.prog 42 #[v] w (FormP w (S.map toBd)) := by
  obtain ⟨A1, c1, rfl, -, -⟩ := h.row.shape
  have HL := Lib.hid h
  have HR := Lib.hid hr
  have HG := Lib.hid hg
  clear h hr hg
  have HTY := Lib.hid (show Try.prog.underlying 22 = some (.slice elR.T) from Try.underlying22)
  have hn : (S.map (·.1)).length = S.length := List.length_map _
  rw [hn] at HL ⊢
  have HF0 := Lib.hid (FE.nil_ (E := elR) w w (Below.refl _ _))
  go_enter Try.func42, Try.ntmps42
  go_wp2_with fail
  go_step3
  go_wp2_with fail
  go_step3
  go_wp2_with fail
  go_loopw [0, 3, 5, 15] (fun sv l _ _ wr => ∃ (A' : Option Addr) (n' c' : Nat) (S' : List (St × List Rn)) (l0 : Value) (D : List Bx), sv = .slice A' n' c' ∧ l = l0 ∧ Hid (OSt w S A' n' c' S' l0 D wr)) (fun sv _ _ _ _ => slN sv)
  case atStart => exact ⟨_, _, _, S, _, [], rfl, rfl, Lib.hid ⟨HL.out, rfl, HF0.out, rfl, HR.out, by rw [← hn]; omega⟩⟩
  case round =>
    rename World => wr
    obtain ⟨A', n', c', S', l0, D, rfl, hl0, HO⟩ := hrel
    have hl0' := hl0.symm
    clear hl0
    subst hl0'
    by_cases hpos : 0 < n'
    · have hposI : (0 : Int) < (n' : Int) := by omega
      obtain ⟨p0, rs, rfl⟩ : ∃ p0 rs, S' = p0 :: rs := by
        cases S' with
        | nil => have := HO.out.len; simp at this; omega
        | cons p0 rs => exact ⟨p0, rs, rfl⟩
      have hx : (p0 :: rs)[0]? = some p0 := rfl
      obtain ⟨g, o, rfl, hg, a0, a1, a2, hrr⟩ := (HO.out.sr.below HO.out.fe.bel).at_ hx
      obtain ⟨g9, o9, e9, -, -, -, -, hrw⟩ := HO.out.sr.at_ hx
      obtain ⟨⟨f0, t0, ⟨PA, pn, pc⟩⟩, R0⟩ := p0
      have hpn : pn = R0.length := ERd.len hrw
      subst hpn
      have HRW := Lib.hid hrw
      simp only [Nat.zero_mul, Nat.add_zero] at a0 a1 a2 HRW
      have HLE := Lib.hid (show (rects (groups (S.map toBd))).length ≤ 1000000 from HG.out)
      have HF1 := Lib.hid (HO.out.fe)
      have HRL0 := Lib.hid (show R0.length ≤ 100000 from HO.out.rl (⟨f0, t0, ⟨PA, R0.length, pc⟩⟩, R0) (by simp))
      have HI0 := Lib.hid (show FmSt w l0 D wr.heap.size ⟨f0, t0, R0⟩ PA R0.length pc (wr.alloc (.cells #[.int .i64 f0, .int .i64 t0, .slice PA R0.length pc] 72)) ∧ (⟨f0, t0, R0⟩ : Bd).R = R0 ∧ grp ⟨f0, t0, R0⟩ (((((⟨f0, t0, ⟨PA, R0.length, pc⟩⟩ : St), R0) :: rs).map toBd).drop 0) = groups ((((⟨f0, t0, ⟨PA, R0.length, pc⟩⟩ : St), R0) :: rs).map toBd) from ⟨FmSt.start (b := ⟨f0, t0, R0⟩) HF1.out, rfl, by
        rw [List.drop_zero, List.map_cons]
        exact grp_self _ _⟩)
      generalize hSP : ((⟨f0, t0, ⟨PA, R0.length, pc⟩⟩ : St), R0) :: rs = SP at *
      clear hx hg hrr e9 hrw
      go_wp2_with fail
      generalize (wr.alloc (.cells #[.int .i64 f0, .int .i64 t0, .slice PA R0.length pc] 72)) = W0 at *
      generalize wr.heap.size = q at *
      clear a0 a1 a2
      go_loopw [0, 3, 5, 15] (fun sv l _ i wx => ∃ (k : Nat) (b : Bd), k ≤ n' ∧ sv = .slice (some ⟨g, o, none⟩) n' c' ∧ l = l0 ∧ i = .int .i64 k ∧ Hid (FmSt w l0 D q b PA R0.length pc wx ∧ b.R = R0 ∧ grp b ((SP.map toBd).drop k) = groups (SP.map toBd))) (fun _ _ _ i _ => n' - (intOf i).toNat)
      case atStart => exact ⟨0, ⟨f0, t0, R0⟩, Nat.zero_le _, rfl, rfl, rfl, Lib.hid ⟨HI0.out.1, rfl, HI0.out.2.2⟩⟩
      case round =>
        rename World => wx
        obtain ⟨k, b, hk, rfl, hl9, rfl, HI⟩ := hrel
        have hl8 := hl9.symm
        clear hl9
        subst hl8
        by_cases hlt : k < n'
        · have hki : (k : Int) < (n' : Int) := by omega
          have hkl : k < SP.length := by rw [← HO.out.len]; exact hlt
          have hx : SP[k]? = some SP[k] := List.getElem?_eq_getElem hkl
          have HDR := Lib.hid (show (SP.map toBd).drop k = toBd SP[k] :: (SP.map toBd).drop (k + 1) by rw [← List.map_drop, ← List.map_drop, List.drop_eq_getElem_cons hkl]; rfl)
          have hrl := HO.out.rl _ (List.getElem_mem hkl)
          obtain ⟨g2, o2, e2, -, -, -, -, hrw⟩ := HO.out.sr.at_ hx
          simp only [Option.some.injEq, Addr.mk.injEq, and_true] at e2
          obtain ⟨rfl, rfl⟩ := e2
          obtain ⟨g3, o3, e3, -, a0, a1, a2, -⟩ := (HO.out.sr.below HI.out.1.fe.bel).at_ hx
          simp only [Option.some.injEq, Addr.mk.injEq, and_true] at e3
          obtain ⟨rfl, rfl⟩ := e3
          have hk0 : k = 0 → SP[k].2 = R0 := by intro h; subst h; simp [← hSP]
          generalize SP[k] = p at *
          obtain ⟨⟨sf, st, ⟨SA, sn, sc⟩⟩, SR9⟩ := p
          have hsn : sn = SR9.length := ERd.len hrw
          subst hsn
          simp only at a0 a1 a2 hrl hk0
          have hkw : wrap64 ((k : Int) + 1) = (k : Int) + 1 := by have := HO.out.few; unfold wrap64; omega
          have hal : Below wx.heap.size wx (wx.alloc (.cells #[.int .i64 sf, .int .i64 st, .slice SA SR9.length sc] 72)) := (Below.refl _ _).alloc (Nat.le_refl _) _
          have HI1 := Lib.hid (HI.out.1.below hal)
          have HSB := Lib.hid (Blk.new wx 72 #[.int .i64 sf, .int .i64 st, .slice SA SR9.length sc])
          have HEQ := Lib.hid (equalR_any (wx.alloc (.cells #[.int .i64 sf, .int .i64 st, .slice SA SR9.length sc] 72)) (.slice SA SR9.length sc) (.slice PA R0.length pc) SR9 R0 (hrw.below HI1.out.fe.bel) (HRW.out.below HI1.out.fe.bel) (by omega) (by have := HRL0.out; omega))
          have t0' := HI1.out.blk.cell 0
          have t1' := HI1.out.blk.cell 1
          have t2' := HI1.out.blk.cell 2
          simp only [List.getElem?_toArray, List.getElem?_cons_zero, List.getElem?_cons_succ] at t0' t1' t2'
          clear hx hkl hrl hrw hal
          cases hE : eqRs SR9 R0 with
          | true =>
            rw [hE] at HEQ
            have HNX := Lib.hid (show ∀ W, FmSt w l0 D q ⟨b.f, st, b.R⟩ PA R0.length pc W → FmSt w l0 D q ⟨b.f, st, b.R⟩ PA R0.length pc W ∧ (⟨b.f, st, b.R⟩ : Bd).R = R0 ∧ grp ⟨b.f, st, b.R⟩ ((SP.map toBd).drop (k + 1)) = groups (SP.map toBd) from fun W hW => ⟨hW, HI.out.2.1, by
              have h9 := HI.out.2.2
              rw [HDR.out, grp] at h9
              have e9 : eqRs (toBd (⟨sf, st, ⟨SA, SR9.length, sc⟩⟩, SR9)).R b.R = true := by rw [HI.out.2.1]; exact hE
              rw [if_pos e9] at h9
              exact h9⟩)
            go_wp2_with (go_at_call 50; refine HEQ.out.mono ?_; rintro e w2 ⟨rfl, hb2⟩; have HI2 := Lib.hid (HI1.out.below hb2); have HS2 := Lib.hid (HSB.out.thru0 hb2); have c1' := HS2.out.cell 1; have z1 := HI2.out.blk.cell 1; have zf := HI2.out.blk.frozen 1; simp only [List.getElem?_toArray, List.getElem?_cons_zero, List.getElem?_cons_succ] at c1' z1; clear hb2)
            have HN2 := Lib.hid (HNX.out _ (HI2.out.set_ st))
            go_roundw
            case rel => exact ⟨k + 1, _, by omega, rfl, rfl, by go_num, HN2⟩
            case measure =>
              rw [hkw]
              simp only [intOf]
              omega
          | false =>
            rw [hE] at HEQ
            have HKP := Lib.hid (show 0 < k from by
              rcases Nat.eq_zero_or_pos k with h9 | h9
              · rw [hk0 h9, (eqRs_iff R0 R0).2 rfl] at hE; cases hE
              · exact h9)
            have HSPL := Lib.hid (show groups (SP.map toBd) = b :: groups ((SP.drop k).map toBd) from by
              have h9 := HI.out.2.2
              rw [HDR.out, grp] at h9
              have e9 : ¬ eqRs (toBd (⟨sf, st, ⟨SA, SR9.length, sc⟩⟩, SR9)).R b.R = true := by rw [HI.out.2.1]; show ¬ eqRs SR9 R0 = true; rw [hE]; simp
              rw [if_neg e9] at h9
              rw [← h9, List.map_drop, HDR.out]
              rfl)
            have HLD := Lib.hid (show D.length + (rectsB b).length ≤ 1000000 from by
              have h9 := HLE.out
              rw [HO.out.eq, HSPL.out, rects_cons, List.length_append, List.length_append] at h9
              omega)
            have hkc : (k : Int) ≤ (n' : Int) := by omega
            have hnc : (n' : Int) ≤ (c' : Int) := by
              obtain ⟨_, _, e7, h7, _⟩ := HO.out.sr.row.shape
              simp only [Value.slice.injEq] at e7
              omega
            obtain ⟨A5, c5, hv5, -, -⟩ := HI1.out.fe.own.slice
            subst hv5
            have HRB := Lib.hid (show rectsB b = rectsB ⟨b.f, b.t, R0⟩ from by unfold rectsB; rw [HI.out.2.1])
            go_wp2_with (first
              | (go_at_call 50; refine HEQ.out.mono ?_; rintro e w2 ⟨rfl, hb2⟩; have HI2 := Lib.hid (HI1.out.below hb2); have z0 := HI2.out.blk.cell 0; have z1 := HI2.out.blk.cell 1; have z2 := HI2.out.blk.cell 2; simp only [List.getElem?_toArray, List.getElem?_cons_zero, List.getElem?_cons_succ] at z0 z1 z2; clear hb2)
              | (go_at_call 51; refine (rects_any w2 b.f b.t PA R0.length pc R0 (HRW.out.below HI2.out.fe.bel) HRL0.out).mono ?_; rintro e w4 ⟨v4, rfl, hf4⟩; have HI4 := Lib.hid (HI2.out.fe.below hf4.bel); have HF4 := Lib.hid hf4; obtain ⟨A6, c6, hv6, -, -⟩ := HF4.out.own.slice; subst hv6; have HRE := Lib.hid ((ERd.of_own elR_ok HF4.out.own).reads elR_ok); clear hf4)
              | (at_builtin; refine wpList_eappr2 (e2 := 39) elR_ok rfl (.tmp 26) (.tmp 28) 22 22 rfl HTY.out HTY.out (.slice A5 D.length c5) D (rectsB ⟨b.f, b.t, R0⟩) A6 c6 rfl rfl HI4.out.own HRE.out (by have := HLD.out; rw [HRB.out] at this; simp only [maxLen]; omega) (by have := HLD.out; rw [HRB.out] at this; simp only [elR]; omega) ?_; intro v7 w7 hA7; have HP7 := Lib.hid (HI4.out.app hA7); clear hA7))
            have HCUT := Lib.hid (show SRd w (.slice (some ⟨g, o + k * 3, none⟩) (n' - k) (c' - k)) (SP.drop k) from by
              have h9 := HO.out.sr.cut (n := k) (by rw [← HO.out.len]; omega)
              have e9 : (some (⟨g, o, none⟩ : Addr)).map (·.add (k * 3)) = some ⟨g, o + k * 3, none⟩ := by simp [Addr.add]
              rw [if_neg (by omega), e9] at h9
              exact h9)
            have HON := Lib.hid (show OSt w S (some ⟨g, o + k * 3, none⟩) (n' - k) (c' - k) (SP.drop k) v7 (D ++ rectsB ⟨b.f, b.t, R0⟩) w7 from ⟨HCUT.out, by rw [List.length_drop, ← HO.out.len], HP7.out, by rw [HO.out.eq, HSPL.out, rects_cons, HRB.out, List.append_assoc], fun p hp => HO.out.rl p (List.mem_of_mem_drop hp), by have := HO.out.few; omega⟩)
            have HSL := Lib.hid (show slN (.slice (some ⟨g, o + k * 3, none⟩) (n' - k) (c' - k)) < slN (.slice (some ⟨g, o, none⟩) n' c') from by have := HKP.out; simp only [slN]; omega)
            exact ⟨⟨_, _, _, _, _, _, rfl, rfl, HON⟩, HSL.out⟩
        · obtain rfl : k = n' := by omega
          have HGE := Lib.hid (show groups (SP.map toBd) = [b] from by
            have h9 := HI.out.2.2
            rw [List.drop_of_length_le (by rw [List.length_map, ← HO.out.len]; exact Nat.le_refl _)] at h9
            exact h9.symm)
          have HI2 := Lib.hid HI.out.1
          have HRB := Lib.hid (show rectsB b = rectsB ⟨b.f, b.t, R0⟩ from by unfold rectsB; rw [HI.out.2.1])
          have HRT := Lib.hid (show rects (groups (S.map toBd)) = D ++ rectsB ⟨b.f, b.t, R0⟩ from by rw [HO.out.eq, HGE.out, rects_cons, HRB.out]; simp [rects])
          have HLD := Lib.hid (show D.length + (rectsB ⟨b.f, b.t, R0⟩).length ≤ 1000000 from by
            have h9 := HLE.out
            rw [HRT.out, List.length_append] at h9
            exact h9)
          have z0 := HI2.out.blk.cell 0
          have z1 := HI2.out.blk.cell 1
          have z2 := HI2.out.blk.cell 2
          simp only [List.getElem?_toArray, List.getElem?_cons_zero, List.getElem?_cons_succ] at z0 z1 z2
          obtain ⟨A5, c5, hv5, -, -⟩ := HI2.out.fe.own.slice
          subst hv5
          clear HI
          go_wp2_with (first
            | (go_at_call 51; refine (rects_any _ b.f b.t PA R0.length pc R0 (HRW.out.below HI2.out.fe.bel) HRL0.out).mono ?_; rintro e w4 ⟨v4, rfl, hf4⟩; have HI4 := Lib.hid (HI2.out.fe.below hf4.bel); have HF4 := Lib.hid hf4; obtain ⟨A6, c6, hv6, -, -⟩ := HF4.out.own.slice; subst hv6; have HRE := Lib.hid ((ERd.of_own elR_ok HF4.out.own).reads elR_ok); clear hf4)
            | (at_builtin; refine wpList_eappr2 (e2 := 39) elR_ok rfl (.tmp 37) (.tmp 39) 22 22 rfl HTY.out HTY.out (.slice A5 D.length c5) D (rectsB ⟨b.f, b.t, R0⟩) A6 c6 rfl rfl HI4.out.own HRE.out (by have := HLD.out; simp only [maxLen]; omega) (by have := HLD.out; simp only [elR]; omega) ?_; intro v7 w7 hA7; have HP7 := Lib.hid (HI4.out.app hA7); clear hA7))
          have HZ := Lib.hid (show FormP w (S.map toBd) (.returned v7) w7 from ⟨v7, rfl, by rw [HRT.out]; exact HP7.out⟩)
          try simp only [Exit.noGoto]
          go_ret
          exact HZ.out
    · have hp0 : n' = 0 := by omega
      subst hp0
      have HZ := Lib.hid (show FormP w (S.map toBd) (.returned l0) wr from ⟨l0, rfl, by
        have h9 : S' = [] := List.eq_nil_of_length_eq_zero HO.out.len.symm
        have h8 := HO.out.eq
        rw [h9] at h8
        have h7 : rects (groups (S.map toBd)) = D := by rw [h8]; simp [groups, rects]
        rw [h7]
        exact HO.out.fe⟩)
      go_wp2
      try simp only [Exit.noGoto]
      go_ret
      exact HZ.out
end Go.Proofs.Ytimfcgnnfgoaaaa
