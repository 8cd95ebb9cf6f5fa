/- region: the strips of two regions, by contract. -/
import Derived.Test.YtimfcgnnfgoaaaaRgF
import Derived.Test.YtimfcgnnfgoaaaaRgG
import Derived.Deep.RegionHeld3
import Derived.Deep.DeepCutAuto
namespace Go.Proofs.Ytimfcgnnfgoaaaa
set_option linter.unusedVariables false
set_option linter.unusedSimpArgs false
open Go.RowKit
theorem step_epush {α : Type} {E : El α} {w : World} {ops : Array Oper} {o : Oper} {a : Act} {K : Act → World → Prop} {Q : Exit → Act → World → Prop} {F : Prop} (hE : E.Ok) (hgd : o.guard = none) (s x : Operand) (t : TypeId)
    (ho : o.op = .call { callee := .builtin .append, args := #[s, x], argTypes := #[t, t] }) (ht : Try.prog.underlying t = some (.slice E.T)) (v : Value) (L : List α) (e : α) (b c : Nat) (hs : a.eval s = v) (hx : a.eval x = .slice (some ⟨b, 0, none⟩) 1 c)
    (h : EOwn E w v L) (h0 : ∀ j u, (E.enc e)[j]? = some u → w.cell? ⟨b, j, none⟩ = some u) (hl : L.length ≤ 1000000)
    (hK : ∀ v' w', EAppended E v (L ++ [e]) w v' w' → K (a.put o.dst v') w') : if Region.wanted o (yielded ops a.tmps) = true then Oper.wp Try.prog o a w K Q else F := by
  have hw : Region.wanted o (yielded ops a.tmps) = true := by simp [Region.wanted, hgd]
  rw [if_pos hw]
  exact wp_epush hE s x t ho ht v L e b c hs hx h h0 hl hK
/-- Ends, sorted. -/
theorem sortE_any {w w3 : World} {v : Value} {E0 : List En} (h : FE elEd w v E0 w3) (hl : E0.length ≤ 1000000) (hx : ∀ e ∈ E0, 0 ≤ e.x ∧ e.x ≤ 65536) :
    Calls Try.prog 54 #[v, .func (.func 55) #[] #[]] w3 fun e w' => e = .returned (.tuple #[]) ∧ ∃ E', E'.Perm E0 ∧ E'.Pairwise (fun d e => d.x ≤ e.x) ∧ FE elEd w v E' w' := by
  rcases h.own with ⟨rfl, rfl⟩ | ⟨g, cap, rfl, hrow⟩
  · refine (sortE_nil _ _).mono ?_
    rintro e w' ⟨rfl, rfl⟩
    exact ⟨rfl, [], .refl _, List.Pairwise.nil, h⟩
  · refine (sortE_own hrow hl hx).mono ?_
    rintro e w' ⟨rfl, L', hp, hs, ho, hg⟩
    exact ⟨rfl, L', hp, hs, ho, h.bel.grown hg h.bel.size (fun i hi => by cases hi; exact h.far g rfl), h.far⟩
theorem own_apart {α β : Type} {E : El α} {F : El β} (hT : E.T ≠ F.T) {w : World} {v u : Value} {L : List α} {M : List β} (h : EOwn E w v L) (k : EOwn F w u M) {i : Nat} (hi : u.ownBlock = some i) : v.ownBlock ≠ some i := by
  intro hj
  rcases h with ⟨rfl, _⟩ | ⟨g, cap, rfl, cur, h1, _⟩
  · simp [Value.ownBlock] at hj
  · rcases k with ⟨rfl, _⟩ | ⟨g2, cap2, rfl, cur2, h2, _⟩
    · simp [Value.ownBlock] at hi
    · simp [Value.ownBlock] at hi hj
      subst hi; subst hj
      exact Blk.ne_ h1 h2 hT rfl
/-- Strips under way: their row, and each one's runs. -/
structure SR (w : World) (v : Value) (S : List (St × List Rn)) (wr : World) : Prop where
  fe : FE elSt w v (S.map (·.1)) wr
  rd : ∀ p ∈ S, EOwn elRn wr p.1.h.v p.2
section
variable {w wr w9 w' : World} {v v' u : Value} {S : List (St × List Rn)} {R : List Rn} {x : St} {o : Obj}
theorem SR.below (h : SR w v S wr) (hb : Below wr.heap.size wr w9) : SR w v S w9 := ⟨h.fe.below hb, fun p hp => (h.rd p hp).below hb⟩
theorem SR.up {w0 : World} (h : SR w v S wr) (hb : Below w0.heap.size w0 w) : SR w0 v S wr := ⟨h.fe.up hb, h.rd⟩
theorem SR.push (h : SR w v S w9) (hr : EOwn elRn w9 x.h.v R) (ha : EAppended elSt v (S.map (·.1) ++ [x]) (w9.alloc o) v' w') : SR w v' (S ++ [(x, R)]) w' := by
  refine ⟨by rw [List.map_append]; exact h.fe.push ha, fun p hp => ?_⟩
  have key : ∀ (u : Value) (M : List Rn), EOwn elRn w9 u M → EOwn elRn w' u M := fun u M hu => by
    have h1 : EOwn elRn (w9.alloc o) u M := hu.below ((Below.refl _ _).alloc (Nat.le_refl _) _)
    refine h1.keep fun i hi e => ha.keep hi (own_apart (by decide) h.fe.own hu e)
  rcases List.mem_append.1 hp with hp | hp
  · exact key _ _ (h.rd p hp)
  · simp at hp; subst hp; exact key _ _ hr
end
def toBd (p : St × List Rn) : Bd := ⟨p.1.f, p.1.t, p.2⟩
theorem strips_get (F : Int → List Rn) : ∀ (ys : List Int) (k : Nat), k + 1 < ys.length → (strips F ys)[k]? = some ⟨ys[k]?.getD 0, ys[k + 1]?.getD 0 - 1, F (ys[k]?.getD 0)⟩
  | [], k, h => by simp at h
  | [_], k, h => by simp at h
  | y :: z :: r, 0, _ => by simp [strips]
  | y :: z :: r, k + 1, h => by
    have := strips_get F (z :: r) k (by simp at h ⊢; omega)
    simpa [strips] using this
theorem meas_lt {mm k : Nat} (h : k < mm) (hw : wrap64 ((k : Int) + 1) = (k : Int) + 1) : mm - (intOf (Value.int IntKind.i64 (wrap64 ((k : Int) + 1)))).toNat < mm - (intOf (Value.int IntKind.i64 (k : Int))).toNat := by
  rw [hw]
  simp only [intOf]
  omega
/-- What stripsOf hands back. -/
def StripsP (w : World) (C : Bool → Bool → Bool) (a b : List Bx) (e : Ending) (w' : World) : Prop :=
  ∃ v S ys E, e = .returned v ∧ SR w v S w' ∧ EndsOf a b E ∧ RowsIs E ys ∧ S.map toBd = strips (fun y => scanR C y E) ys
theorem enOk_ends {a b : List Bx} (ha : rightA a) (hb : rightA b) {E : List En} (hp : E.Perm (endsM a 0 ++ endsM b 1)) : ∀ e ∈ E, EnOk e := by
  intro e he
  rcases List.mem_append.1 (hp.mem_iff.1 he) with he | he
  · exact endsM_all ha (.inl rfl) e he
  · exact endsM_all hb (.inr rfl) e he
def RunsC (F : Value) (C : Bool → Bool → Bool) : Prop := ∀ (w : World) (v : Value) (E : List En) (row : Int), ERd elEd w v E → E.length ≤ 100000 → (∀ e ∈ E, EnOk e) → Calls Try.prog 57 #[v, .int .i64 row, F] w (RunsP w C row E)
set_option maxRecDepth 100000 in
set_option maxHeartbeats 8000000 in
theorem stripsOf_any (F : Value) (C : Bool → Bool → Bool) (hF : RunsC F C) (w : World) (v1 v2 : Value) (a b : List Bx) (h1 : ERd elR w v1 a) (h2 : ERd elR w v2 b) (hl : a.length + b.length ≤ 520) (ha : rightA a) (hb : rightA b) :
    Calls Try.prog 43 #[v1, v2, F] w (StripsP w C a b) := by
  obtain ⟨A1, c1, rfl, -, -⟩ := h1.shape
  obtain ⟨A2, c2, rfl, -, -⟩ := h2.shape
  have H1 := Lib.hid h1
  have H2 := Lib.hid h2
  have HA := Lib.hid ha
  have HB := Lib.hid hb
  have HL := Lib.hid hl
  have HF := Lib.hid hF
  clear h1 h2 ha hb hl hF
  have HTY := Lib.hid (show Try.prog.underlying 62 = some (.slice elSt.T) from Try.underlying62)
  have HC1 := Lib.hid (endsOf_any w _ a 0 H1.out (by have := HL.out; omega) HA.out)
  go_enter Try.func43, Try.ntmps43
  go_wp2_with fail
  refine HC1.out.mono ?_
  rintro e w1 ⟨u1, rfl, hf1⟩
  have HF1 := Lib.hid hf1
  have HC2 := Lib.hid (endsOf_any w1 _ b 1 (H2.out.below hf1.bel) (by have := HL.out; omega) HB.out)
  clear hf1 HC1
  go_wp2_with fail
  refine HC2.out.mono ?_
  rintro e w2 ⟨u2, rfl, hf2⟩
  have HF2 := Lib.hid hf2
  have HF12 := Lib.hid (HF1.out.below hf2.bel)
  clear hf2 HC2 HF1
  obtain ⟨B1, d1, rfl, -, -⟩ := HF12.out.own.slice
  obtain ⟨B2, d2, rfl, -, -⟩ := HF2.out.own.slice
  have hal : Below w2.heap.size w2 (w2.alloc (.cells #[.slice B1 (endsM a 0).length d1, .slice B2 (endsM b 1).length d2] 77)) := (Below.refl _ _).alloc (Nat.le_refl _) _
  have HC3 := Lib.hid (concatE_any w2.heap.size 2 B1 B2 d1 d2 (endsM a 0) (endsM b 1) (w2.alloc (.cells #[.slice B1 (endsM a 0).length d1, .slice B2 (endsM b 1).length d2] 77)) (Blk.new _ _ _) (ERd.of_own elEd_ok (HF12.out.own.below hal)) (ERd.of_own elEd_ok (HF2.out.own.below hal)) (by rw [endsM_len]; have := HL.out; omega) (by rw [endsM_len]; have := HL.out; omega))
  have HBW := Lib.hid (below_trans HF12.out.bel hal)
  clear hal
  generalize (endsM a 0).length = n1 at *
  generalize (endsM b 1).length = n2 at *
  go_wp2_with fail
  refine HC3.out.mono ?_
  rintro e w3 ⟨u3, rfl, hf3⟩
  have HF3 := Lib.hid (hf3.up HBW.out)
  clear hf3 HC3 HBW HF12 HF2
  have HOK0 := Lib.hid (enOk_ends HA.out HB.out (.refl _))
  have HLE0 := Lib.hid (show (endsM a 0 ++ endsM b 1).length ≤ 1040 by rw [List.length_append, endsM_len, endsM_len]; have := HL.out; omega)
  have HC4 := Lib.hid (sortE_any HF3.out (by have := HLE0.out; omega) (fun e he => ⟨(HOK0.out e he).1, (HOK0.out e he).2.1⟩))
  obtain ⟨B3, d3, rfl, -, -⟩ := HF3.out.own.slice
  generalize (endsM a 0 ++ endsM b 1).length = n3 at *
  go_wp2_with fail
  refine HC4.out.mono ?_
  rintro e w4 ⟨rfl, E, hp, hs, hf4⟩
  have HF4 := Lib.hid hf4
  have HPE := Lib.hid hp
  have HEO := Lib.hid (show EndsOf a b E from ⟨hp, hs⟩)
  have HOK := Lib.hid (enOk_ends HA.out HB.out hp)
  have HLE := Lib.hid (show E.length ≤ 1040 by rw [HEO.out.len]; have := HL.out; omega)
  clear hp hs hf4 HC4 HF3 HOK0 HLE0
  have HC5 := Lib.hid (firstRows_any w4 _ E (ERd.of_own elEd_ok HF4.out.own) (by have := HLE.out; omega) (fun e he => ⟨(HOK.out e he).2.2.1, (HOK.out e he).2.2.2.2.1, (HOK.out e he).2.2.2.1⟩))
  go_wp2_with fail
  refine HC5.out.mono ?_
  rintro e w5 ⟨u5, ys, rfl, hf5, hys⟩
  have HF5 := Lib.hid (hf5.up HF4.out.bel)
  have HE5 := Lib.hid (ERd.of_own elEd_ok (HF4.out.own.below hf5.bel))
  have HYS := Lib.hid hys
  clear hf5 hys HC5 HF4
  obtain ⟨B5, d5, rfl, -, -⟩ := HF5.out.own.slice
  have HY5 := Lib.hid (ERd.of_own elI_ok HF5.out.own)
  obtain ⟨m, hm⟩ : ∃ m, m = ys.length := ⟨_, rfl⟩
  rw [← hm] at HY5 HF5 ⊢
  have HM := Lib.hid hm; clear hm
  have HRANGE := Lib.hid (show ∀ u ∈ ys, 0 ≤ u ∧ u ≤ 65536 from fun u hu => by
    obtain ⟨e, he, h9⟩ := (HYS.out.mem u).1 hu
    have := HOK.out e he
    unfold EnOk at this
    omega)
  have HMB := Lib.hid (show m ≤ 2080 by have := HYS.out.len; have := HLE.out; rw [HM.out]; omega)
  have HS0 := Lib.hid (show SR w5 (.slice none 0 0) [] w5 from ⟨FE.nil_ _ _ (Below.refl _ _), fun p hp => by simp at hp⟩)
  obtain ⟨G, hG⟩ : ∃ G, G = strips (fun y => scanR C y E) ys := ⟨_, rfl⟩
  have HG := Lib.hid hG; clear hG
  obtain ⟨mm, hmm⟩ : ∃ mm, mm = m + 1 := ⟨_, rfl⟩
  go_wp2_with fail
  go_loopw [9, 10] (fun v i wr => ∃ (k p : Nat) (v0 : Value) (S : List (St × List Rn)), k ≤ mm ∧ v = v0 ∧ i = .int .i64 (k : Int) ∧ Hid (SR w5 v0 S wr ∧ S.map toBd = G.take p ∧ S.length = p ∧ k = p + 1)) (fun _ i _ => mm - (intOf i).toNat)
  case atStart => exact ⟨1, 0, _, [], by omega, rfl, by go_num, Lib.hid ⟨HS0.out, by simp, rfl, rfl⟩⟩
  case round =>
    rename World => wr
    obtain ⟨k, p, v0, S, hk, hv, rfl, HS⟩ := hrel
    have hv' := hv.symm
    clear hv
    subst hv'
    by_cases hlt : k < m
    · have hki : (k : Int) < (m : Int) := by omega
      have hkp := HS.out.2.2.2
      have hk1 : p + 1 < ys.length := by rw [← HM.out]; omega
      have hx := List.getElem?_eq_getElem hk1
      have hy := List.getElem?_eq_getElem (show p < ys.length by omega)
      have HGK := Lib.hid (strips_get (fun y => scanR C y E) ys p hk1)
      rw [← HG.out, hx, hy] at HGK
      simp only [Option.getD_some] at HGK
      have rx := HRANGE.out _ (List.getElem_mem hk1)
      have HY := Lib.hid (HY5.out.below HS.out.1.fe.bel)
      obtain ⟨g, o, rfl, -, a1⟩ := HY.out.one hx
      obtain ⟨g2, o2, e2, -, a0⟩ := HY.out.one hy
      obtain ⟨g3, o3, e3, -, a15⟩ := HY5.out.one hx
      obtain ⟨g4, o4, e4, -, a05⟩ := HY5.out.one hy
      simp only [Option.some.injEq, Addr.mk.injEq, and_true] at e3 e4
      obtain ⟨rfl, rfl⟩ := e3
      obtain ⟨rfl, rfl⟩ := e4
      simp only [Option.some.injEq, Addr.mk.injEq, and_true] at e2
      obtain ⟨rfl, rfl⟩ := e2
      have HTG := Lib.hid (show G.take (p + 1) = G.take p ++ [⟨ys[p], ys[p + 1] - 1, scanR C ys[p] E⟩] by rw [List.take_succ_eq_append_getElem (List.getElem?_eq_some_iff.1 HGK.out).1]; rw [(List.getElem?_eq_some_iff.1 HGK.out).2])
      generalize ys[p + 1] = y1 at *
      generalize ys[p] = y0 at *
      rw [← hkp] at a1 a15
      have HC5 := Lib.hid (fun X (hX : Below w5.heap.size w5 X) => And.intro (cell_later hX a05) (cell_later hX a15))
      clear a05 a15
      have hw1 : wrap64 ((k : Int) - 1) = (p : Int) := by have := HMB.out; unfold wrap64; omega
      have hw2 : wrap64 (y1 - 1) = y1 - 1 := by unfold wrap64; omega
      have hk2 : (p : Int) < (m : Int) := by omega
      have hk3 : k < mm := by omega
      have hw8 : wrap64 ((k : Int) + 1) = (k : Int) + 1 := by have := HMB.out; unfold wrap64; omega
      have HMX := Lib.hid (meas_lt hk3 hw8)
      have hw7 : IntKind.i64.wrap ((k : Int) - 1) = (p : Int) := by have := HMB.out; rw [IntKind.wrap_i64]; omega
      have hw5 : IntKind.i64.wrap (y1 - 1) = y1 - 1 := by rw [IntKind.wrap_i64]; omega
      have HRU := Lib.hid (fun X (hX : Below wr.heap.size wr X) => HF.out X _ E y0 (HE5.out.below (below_trans HS.out.1.fe.bel hX)) (by have := HLE.out; omega) HOK.out)
      have HCL := Lib.hid (fun X (hX : Below wr.heap.size wr X) => And.intro (cell_later hX a0) (cell_later hX a1))
      have HLS := Lib.hid (show (S.map (·.1)).length ≤ 1000000 by rw [List.length_map, HS.out.2.2.1]; have := HMB.out; omega)
      have HFIN := Lib.hid (fun (v2 : Value) (X : World) (x : St) (R : List Rn) (hX : SR w5 v2 (S ++ [(x, R)]) X) (e1 : x.f = y0) (e2 : x.t = y1 - 1) (e3 : R = scanR C y0 E) => (show SR w5 v2 (S ++ [(x, R)]) X ∧ (S ++ [(x, R)]).map toBd = G.take (p + 1) ∧ (S ++ [(x, R)]).length = p + 1 ∧ k + 1 = p + 1 + 1 from ⟨hX, by rw [HTG.out, List.map_append, HS.out.2.1]; simp [toBd, e1, e2, e3], by rw [List.length_append, HS.out.2.2.1]; rfl, by omega⟩))
      clear hx hy rx hkp hk1 HTG HGK
      obtain ⟨A9, c9, hv9, -, -⟩ := HS.out.1.fe.own.slice
      subst hv9
      obtain ⟨zs, hzs⟩ : ∃ zs, zs = (S.map (·.1)).length := ⟨_, rfl⟩
      rw [← hzs]
      have HZS := Lib.hid hzs
      clear hzs
      have HK0 := Lib.hid (HCL.out wr (Below.refl _ _))
      have HK1 := Lib.hid (HCL.out wr.drew (below_drawn (Below.refl _ _) 1))
      go_upto_region 8 with fail
      go_region_held3 (fun w' => w'.cell? ⟨g, o + p, none⟩ = some (.int .i64 y0) ∧ w'.cell? ⟨g, o + k, none⟩ = some (.int .i64 y1)) (first | with_reducible exact HK0.out | with_reducible exact HK1.out | with_reducible exact HK9.out | with_reducible exact HKA.out _ | with_reducible exact HK7.out) (first
        | (go_at_call 57; refine (HRU.out _ (by first | exact below_drawn (Below.refl _ _) 1 | exact Below.refl _ _)).mono ?_; rintro e w9 ⟨u9, rfl, hf9⟩; have HB9 := Lib.hid hf9.bel; have HF9 := Lib.hid hf9; clear hf9; have HS9 := Lib.hid (HS.out.1.below (below_trans (by first | exact below_drawn (Below.refl _ _) 1 | exact Below.refl _ _) HB9.out)); have HK9 := Lib.hid (HCL.out w9 (below_trans (by first | exact below_drawn (Below.refl _ _) 1 | exact Below.refl _ _) HB9.out)); have HKA := Lib.hid (fun ob => HCL.out (w9.alloc ob) (below_trans (below_trans (by first | exact below_drawn (Below.refl _ _) 1 | exact Below.refl _ _) HB9.out) ((Below.refl _ _).alloc (Nat.le_refl _) ob))); obtain ⟨A8, c8, hv8, -, -⟩ := HF9.out.own.slice; subst hv8)
        | (refine step_epush elSt_ok rfl (.tmp 27) (.tmp 47) _ rfl HTY.out (.slice A9 zs c9) (S.map (·.1)) ⟨y0, y1 - 1, ⟨A8, (scanR C y0 E).length, c8⟩⟩ w9.heap.size 1 (by simp [Act.eval, Act.put]) (by simp [Act.eval, Act.put]) (by rw [HZS.out]; exact HS9.out.fe.own.below ((Below.refl _ _).alloc (Nat.le_refl _) _)) (fun jj u hu => new_cellT _ _ _ jj (by simpa [elSt] using hu)) HLS.out ?_; intro v2 w7 hA2; rw [HZS.out] at hA2; have HP := Lib.hid (HFIN.out v2 w7 _ _ (HS9.out.push (x := ⟨y0, y1 - 1, ⟨A8, (scanR C y0 E).length, c8⟩⟩) HF9.out.own hA2) rfl rfl rfl); have HK7 := Lib.hid (HC5.out w7 HP.out.1.fe.bel); clear hA2))
      clear HRU HCL HF9 HS9 HB9 HFIN HK0 HK1 HK9 HKA HK7 HC5 a0 a1 hw1 hw2 hw5 hw7 hk2 hki
      go_wp2_with fail
      go_roundw
      case rel => exact ⟨k + 1, p + 1, _, _, by omega, rfl, by go_num, HP⟩
      case measure =>
        exact HMX.out
    · have HZ := Lib.hid (show StripsP w C a b (.returned v0) wr from ⟨v0, S, ys, E, rfl, HS.out.1.up HF5.out.bel, HEO.out, HYS.out, by
        have h8 := HS.out.2.2.2
        have h9 := HS.out.2.1
        rw [List.take_of_length_le (by rw [HG.out, strips_len, ← HM.out]; omega)] at h9
        rw [h9, HG.out]⟩)
      have hki : ¬ (k : Int) < (m : Int) := by omega
      clear hlt
      go_wp2
      go_ret
      exact HZ.out
end Go.Proofs.Ytimfcgnnfgoaaaa
