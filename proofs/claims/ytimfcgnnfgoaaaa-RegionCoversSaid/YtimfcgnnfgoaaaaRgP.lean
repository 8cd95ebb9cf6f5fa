/- region: the document's line, by contract. -/
import Derived.Test.YtimfcgnnfgoaaaaRgL
import Derived.Deep.RegionHeld3
import Derived.Deep.DeepCutAuto
namespace Go.Proofs.Ytimfcgnnfgoaaaa
set_option linter.unusedVariables false
set_option linter.unusedSimpArgs false
open Go.RowKit
theorem step_epushR {α : Type} {E : El α} {w : World} {ops : Array Oper} {o : Oper} {a : Act} {K : Act → World → Prop} {Q : Exit → Act → World → Prop} {F : Prop} (hE : E.Ok) (hgd : o.guard = none) (s x : Operand) (t : TypeId)
    (ho : o.op = .call { callee := .builtin .append, args := #[s, x], argTypes := #[t, t] }) (ht : Try.prog.underlying t = some (.slice E.T)) (v : Value) (L : List α) (e : α) (b c : Nat) (hs : a.eval s = v) (hx : a.eval x = .slice (some ⟨b, 0, none⟩) 1 c)
    (h : EOwn E w v L) (h0 : ∀ j u, (E.enc e)[j]? = some u → w.cell? ⟨b, j, none⟩ = some u) (hl : L.length ≤ 1000000)
    (hK : ∀ v' w', EAppended E v (L ++ [e]) w v' w' → K (a.put o.dst v') w') : if Region.wanted o (yielded ops a.tmps) = true then Oper.wp Try.prog o a w K Q else F := by
  have hw : Region.wanted o (yielded ops a.tmps) = true := by simp [Region.wanted, hgd]
  rw [if_pos hw]
  exact wp_epush hE s x t ho ht v L e b c hs hx h h0 hl hK
theorem lineB_snoc (y : Int) (M : List Rn) (l : Rn) : lineB y (M ++ [l]) = lineB y M ++ [rowR y l] := by simp [lineB]
theorem ERow.setX {w : World} {g cap : Nat} {N : List Bx} {r : Bx} {u : Int} (h : ERow elR w g cap (N ++ [r])) : ERow elR (w.setCell ⟨g, N.length * 4 + 2, none⟩ (.int .i64 u)) g cap (N ++ [⟨r.x0, r.y0, u, r.y1⟩]) := by
  obtain ⟨cur, h1, h2, h3, h4, h5⟩ := h
  refine ⟨cur.setIfInBounds (N.length * 4 + 2) (.int .i64 u), h1.set_ _ _, by simp [h2], by simpa using h3, h4, ?_⟩
  have hlen : (N ++ [(⟨r.x0, r.y0, u, r.y1⟩ : Bx)]).length = (N ++ [r]).length := by simp
  rw [Array.toList_setIfInBounds, hlen, List.take_set, h5, El.encs_append, El.encs_append]
  have h6 : (elR.encs N).length = N.length * 4 := El.encs_length elR_ok N
  rw [List.set_append_right _ _ (by rw [h6]; omega), h6, show N.length * 4 + 2 - N.length * 4 = 2 by omega]
  rfl
theorem FE.setX {w W : World} {g n c : Nat} {N : List Bx} {r : Bx} (h : FE elR w (.slice (some ⟨g, 0, none⟩) n c) (N ++ [r]) W) (u : Int) : FE elR w (.slice (some ⟨g, 0, none⟩) n c) (N ++ [⟨r.x0, r.y0, u, r.y1⟩]) (W.setCell ⟨g, N.length * 4 + 2, none⟩ (.int .i64 u)) ∧ W.frozen? ⟨g, N.length * 4 + 2, none⟩ = false ∧ W.cell? ⟨g, N.length * 4 + 2, none⟩ = some (.int .i64 r.x1) := by
  have hg := h.far g rfl
  have hcell : W.cell? ⟨g, N.length * 4 + 2, none⟩ = some (.int .i64 r.x1) := by
    obtain ⟨-, g8, e8, hc8⟩ := EOwn.cell (i := N.length) (x := r) elR_ok h.own (by simp)
    simp only [Option.some.injEq, Addr.mk.injEq, and_true] at e8
    subst e8
    exact hc8 2 _ rfl
  rcases h.own with ⟨h9, _⟩ | ⟨g9, cap9, h9, hr9⟩
  · cases h9
  · simp only [Value.slice.injEq, Option.some.injEq, Addr.mk.injEq, and_true] at h9
    obtain ⟨rfl, rfl, rfl⟩ := h9
    have hr := hr9
    obtain ⟨cur, hb, _⟩ := hr9
    refine ⟨⟨.inr ⟨g, c, by simp, hr.setX⟩, ⟨h.bel.os, h.bel.tape, h.bel.output, by simpa [World.setCell] using h.bel.size, fun i hi => ?_⟩, h.far⟩, hb.frozen _, hcell⟩
    rw [Below.heap_setCell W ⟨g, _, none⟩ _ i (by simp; omega)]
    exact h.bel.block i hi
theorem ln_w1 {m : Nat} (h : m ≤ 100000) : wrap64 (((m + 1 : Nat) : Int) - 1) = (m : Int) := by unfold wrap64; omega
theorem ln_w2 {m : Nat} (h : m ≤ 100000) : IntKind.i64.wrap (((m + 1 : Nat) : Int) - 1) = (m : Int) := by rw [IntKind.wrap_i64]; omega
theorem ln_w3 {m : Nat} (h : m ≤ 100000) : wrap64 (m : Int) = (m : Int) := by unfold wrap64; omega
theorem ln_w4 {m : Nat} (h : m ≤ 100000) : IntKind.i64.wrap (m : Int) = (m : Int) := by rw [IntKind.wrap_i64]; omega
/-- The line's test. -/
def lineC (how : Int) (a b : List Bx) (y x : Int) : Bool := cHow how (hasAny a x y) (hasAny b x y)
/-- A line under way. -/
def LnSt (w : World) (y : Int) (xs : List Int) (c : Int → Bool) (k : Nat) (v : Value) (wr : World) : Prop := FE elR w v (lineB y (lineS xs c k)) wr
theorem lineS_on {xs : List Int} {c : Int → Bool} {k : Nat} (h : c (xs[k]?.getD 0) = true) : lineS xs c (k + 1) = followN (lineS xs c k) ⟨xs[k]?.getD 0, xs[k + 1]?.getD 0 - 1⟩ := by rw [lineS, if_pos h]
theorem lineS_off {xs : List Int} {c : Int → Bool} {k : Nat} (h : c (xs[k]?.getD 0) = false) : lineS xs c (k + 1) = lineS xs c k := by rw [lineS, if_neg (by rw [h]; simp)]
set_option maxRecDepth 100000 in
set_option maxHeartbeats 8000000 in
theorem line_any (w : World) (v1 v2 v3 : Value) (a b : List Bx) (xs : List Int) (y how : Int) (s : Int → Prop) (h1 : ERd elR w v1 a) (h2 : ERd elR w v2 b) (h3 : ERd elI w v3 xs) (ha : a.length ≤ 1000000) (hb : b.length ≤ 1000000) (hE : EdgesOf s (lineC how a b y) xs) (hr : ∀ u ∈ xs, 0 ≤ u ∧ u ≤ 65536) (hl : xs.length ≤ 100000) :
    Calls Try.prog 32 #[v1, v2, v3, .int .i64 y, .int .i64 how] w fun e w' => ∃ v, e = .returned v ∧ FE elR w v (lineB y (lineR xs (lineC how a b y))) w' := by
  obtain ⟨A1, c1, rfl, -, -⟩ := h1.shape
  obtain ⟨A2, c2, rfl, -, -⟩ := h2.shape
  obtain ⟨A3, c3, rfl, -, -⟩ := h3.shape
  have HC := Lib.hid (fun X (hX : Below w.heap.size w X) (x : Int) => counts_any X _ _ a b x y how (h1.below hX) (h2.below hX) ha hb)
  have HX := Lib.hid h3
  have HE := Lib.hid hE
  have HR := Lib.hid hr
  have hpos : 0 < xs.length := by
    cases xs with
    | nil => have := hE.zero; simp at this
    | cons _ _ => simp
  clear h1 h2 h3 ha hb hE hr
  have HTY := Lib.hid (show Try.prog.underlying 22 = some (.slice elR.T) from Try.underlying22)
  obtain ⟨n, hn⟩ : ∃ n, n = xs.length := ⟨_, rfl⟩
  rw [← hn] at HX hl hpos ⊢
  have HN := Lib.hid hn; clear hn
  generalize a.length = na at *
  generalize b.length = nb at *
  obtain ⟨c, hc⟩ : ∃ c, c = lineC how a b y := ⟨_, rfl⟩
  have HCC := Lib.hid (show ∀ x, cHow how (hasAny a x y) (hasAny b x y) = c x from fun x => by rw [hc]; rfl)
  rw [← hc] at HE ⊢
  clear hc
  have HST := Lib.hid (show LnSt w y xs c 0 (.slice none 0 0) w from FE.nil_ _ _ (Below.refl _ _))
  go_enter Try.func32, Try.ntmps32
  go_wp2_with fail
  go_loopw [11, 12, 13] (fun v o i wr => ∃ (k : Nat) (v0 : Value) (ob : Bool), k + 1 ≤ n ∧ v = v0 ∧ o = .bool ob ∧ i = .int .i64 (k : Int) ∧ Hid (LnSt w y xs c k v0 wr ∧ ob = lineO xs c k)) (fun _ _ i _ => n - (intOf i).toNat)
  case atStart => exact ⟨0, _, false, by omega, rfl, rfl, rfl, Lib.hid ⟨HST.out, rfl⟩⟩
  case round =>
    rename World => wr
    obtain ⟨k, v0, ob, hk, hv, rfl, rfl, HF⟩ := hrel
    have hv' := hv.symm
    clear hv
    subst hv'
    have hw1 : wrap64 ((k : Int) + 1) = (k : Int) + 1 := by unfold wrap64; omega
    have hw2 : IntKind.i64.wrap ((k : Int) + 1) = (k : Int) + 1 := by rw [IntKind.wrap_i64]; omega
    by_cases hlt : k + 1 < n
    · have hki : (k : Int) + 1 < (n : Int) := by omega
      have hki0 : (k : Int) < (n : Int) := by omega
      have hk0 : (0 : Int) ≤ (k : Int) + 1 := by omega
      have hk1 : k + 1 < xs.length := by rw [← HN.out]; exact hlt
      have hx := List.getElem?_eq_getElem (show k < xs.length by omega)
      have hz := List.getElem?_eq_getElem hk1
      have rz := HR.out _ (List.getElem_mem hk1)
      have rx := HR.out _ (List.getElem_mem (show k < xs.length by omega))
      have HON := Lib.hid (fun h => lineS_on (xs := xs) (c := c) (k := k) h)
      have HOFF := Lib.hid (fun h => lineS_off (xs := xs) (c := c) (k := k) h)
      have HOP := Lib.hid (lineS_open HE.out (k := k) (by omega) ⟨xs[k]?.getD 0, xs[k + 1]?.getD 0 - 1⟩ rfl)
      have HOO := Lib.hid (show lineO xs c (k + 1) = c (xs[k]?.getD 0) from rfl)
      have HLN := Lib.hid (show (lineB y (lineS xs c k)).length ≤ 1000000 from by rw [lineB_len]; have := lineS_len xs c k; omega)
      rw [hx, hz] at HON HOP
      rw [hx] at HOFF HOO
      simp only [Option.getD_some] at HON HOP HOFF HOO
      obtain ⟨g, o, rfl, -, a0⟩ := (HX.out.below HF.out.1.bel).one hx
      obtain ⟨g2, o2, e2, -, a1⟩ := (HX.out.below HF.out.1.bel).one hz
      simp only [Option.some.injEq, Addr.mk.injEq, and_true] at e2
      obtain ⟨rfl, rfl⟩ := e2
      obtain ⟨g3, o3, e3, -, b0⟩ := HX.out.one hx
      obtain ⟨g4, o4, e4, -, b1⟩ := HX.out.one hz
      simp only [Option.some.injEq, Addr.mk.injEq, and_true] at e3 e4
      obtain ⟨rfl, rfl⟩ := e3
      obtain ⟨rfl, rfl⟩ := e4
      generalize xs[k + 1] = z at *
      generalize xs[k] = x at *
      have HCL := Lib.hid (fun X (hX : Below w.heap.size w X) => And.intro (cell_later hX b0) (cell_later hX b1))
      have hwz : wrap64 (z - 1) = z - 1 := by unfold wrap64; omega
      have hwz2 : IntKind.i64.wrap (z - 1) = z - 1 := by rw [IntKind.wrap_i64]; omega
      have HCO := Lib.hid (HC.out wr HF.out.1.bel x)
      rw [HCC.out] at HCO
      clear hx hz hk1 rz rx b0 b1
      cases hcx : c x with
      | false =>
        rw [hcx] at HCO
        have HOF2 := Lib.hid (HOFF.out hcx)
        have HOO2 := Lib.hid (show lineO xs c (k + 1) = false from by rw [HOO.out, hcx])
        clear hcx HON HOFF HOP HOO
        go_wp2_with fail
        refine HCO.out.mono ?_
        rintro e w2 ⟨rfl, hb⟩
        have HF2 := Lib.hid (show LnSt w y xs c (k + 1) v0 w2 ∧ false = lineO xs c (k + 1) from ⟨by unfold LnSt; rw [HOF2.out]; exact HF.out.1.below hb, HOO2.out.symm⟩)
        clear hb a0 a1
        go_wp2_with fail
        go_roundw
        case rel => exact ⟨k + 1, _, false, by omega, rfl, rfl, by go_num, HF2⟩
        case measure =>
          try rw [hw1]
          simp only [intOf]
          omega
      | true =>
        rw [hcx] at HCO
        have HON2 := Lib.hid (HON.out hcx)
        have HOO2 := Lib.hid (show lineO xs c (k + 1) = true from by rw [HOO.out, hcx])
        have HOB := Lib.hid HF.out.2
        cases ob with
        | true =>
          obtain ⟨M, l, e1, e2⟩ := HOP.out.1 HOB.out.symm
          have HF1 := Lib.hid (show FE elR w v0 (lineB y M ++ [rowR y l]) wr from by have h9 := HF.out.1; unfold LnSt at h9; rw [e1, lineB_snoc] at h9; exact h9)
          have HFN := Lib.hid (show lineB y (lineS xs c (k + 1)) = lineB y M ++ [⟨l.f, y, z - 1, y⟩] from by rw [HON2.out, e2, lineB_snoc]; rfl)
          have hmlen : (lineB y M ++ [rowR y l]).length = M.length + 1 := by rw [List.length_append, lineB_len]; rfl
          obtain ⟨A5, c5, hv5, hlc, -⟩ := HF1.out.own.slice
          obtain ⟨g5, hg5⟩ : ∃ g5, A5 = some ⟨g5, 0, none⟩ := by
            rcases HF1.out.own with ⟨_, h9⟩ | ⟨g9, cap9, h9, _⟩
            · simp at h9
            · rw [hv5] at h9; simp only [Value.slice.injEq] at h9; exact ⟨g9, h9.1⟩
          subst hg5
          rw [hmlen] at hv5 hlc
          subst hv5
          have HMB := Lib.hid (show M.length ≤ 100000 from by have h8 := lineS_len xs c k; rw [e1] at h8; simp at h8; omega)
          have hm1 : wrap64 (((M.length + 1 : Nat) : Int) - 1) = (M.length : Int) := ln_w1 HMB.out
          have hm2 : IntKind.i64.wrap (((M.length + 1 : Nat) : Int) - 1) = (M.length : Int) := ln_w2 HMB.out
          have hm3 : (M.length : Int) < ((M.length + 1 : Nat) : Int) := by omega
          have HM4 := Lib.hid (show (lineB y M).length = M.length from lineB_len _ _)
          generalize hML : M.length = ml at *
          obtain ⟨ml1, hml1⟩ : ∃ ml1, ml1 = ml + 1 := ⟨_, rfl⟩
          rw [← hml1] at hm1 hm2 hm3 HF1 hlc ⊢
          have hm5 : ((ml1 : Int) - 1) = (ml : Int) := by omega
          have hm6 : wrap64 (ml : Int) = (ml : Int) := ln_w3 HMB.out
          have hm7 : IntKind.i64.wrap (ml : Int) = (ml : Int) := ln_w4 HMB.out
          have HML1 := Lib.hid hml1
          clear hm5
          clear hcx HON HOFF HOP HOO e1 e2 hmlen hml1 HF hlc hML
          go_wp2_with (go_at_call 46; refine HCO.out.mono ?_; rintro e w2 ⟨rfl, hb⟩; have HF2 := Lib.hid (HF1.out.below hb); have HW2 := Lib.hid (HF2.out.setX (z - 1)); have hfz := HW2.out.2.1; have hcz := HW2.out.2.2; rw [HM4.out] at hfz hcz; obtain ⟨a2, a3⟩ := HCL.out _ HF2.out.bel; clear hb)
          have HNX := Lib.hid (show LnSt w y xs c (k + 1) (.slice (some ⟨g5, 0, none⟩) ml1 c5) (w2.setCell ⟨g5, ml * 4 + 2, none⟩ (.int .i64 (z - 1))) ∧ true = lineO xs c (k + 1) from ⟨by unfold LnSt; rw [HFN.out]; have h9 := HW2.out.1; rw [HM4.out] at h9; exact h9, HOO2.out.symm⟩)
          go_roundw
          case rel => exact ⟨k + 1, _, true, by omega, rfl, rfl, by go_num, HNX⟩
          case measure =>
            try rw [hw1]
            simp only [intOf]
            omega
        | false =>
          have HFN := Lib.hid (show lineB y (lineS xs c (k + 1)) = lineB y (lineS xs c k) ++ [⟨x, y, z - 1, y⟩] from by rw [HON2.out, HOP.out.2 HOB.out.symm, lineB_snoc]; rfl)
          have HF1 := Lib.hid (show FE elR w v0 (lineB y (lineS xs c k)) wr from HF.out.1)
          obtain ⟨A5, c5, hv5, -, -⟩ := HF1.out.own.slice
          subst hv5
          obtain ⟨LB, hLB⟩ : ∃ LB, LB = lineB y (lineS xs c k) := ⟨_, rfl⟩
          rw [← hLB] at HFN HF1 HLN ⊢
          obtain ⟨lb, hlb⟩ : ∃ lb, lb = LB.length := ⟨_, rfl⟩
          rw [← hlb] at HF1 ⊢
          have HLB := Lib.hid hlb
          clear hcx HON HOFF HOP HOO hLB HF hlb
          go_upto_region 10 with (go_at_call 46; refine HCO.out.mono ?_; rintro e w2 ⟨rfl, hb⟩; have HF2 := Lib.hid (HF1.out.below hb); clear hb)
          have HK0 := Lib.hid (HCL.out w2 HF2.out.bel)
          have HD2 := Lib.hid (show Below w2.heap.size w2 w2.drew from below_drawn (Below.refl _ _) 1)
          have HK1 := Lib.hid (HCL.out w2.drew (below_trans HF2.out.bel HD2.out))
          have HKA := Lib.hid (fun ob => HCL.out (w2.drew.alloc ob) (below_trans HF2.out.bel (below_trans HD2.out ((Below.refl _ _).alloc (Nat.le_refl _) ob))))
          have HKB := Lib.hid (fun ob => (show (w2.alloc ob).drew.cell? ⟨g, o + k, none⟩ = some (.int .i64 x) ∧ (w2.alloc ob).drew.cell? ⟨g, o + (k + 1), none⟩ = some (.int .i64 z) from HKA.out ob))
          have HFD := Lib.hid (HF2.out.below HD2.out)
          have HOD := Lib.hid (fun ob => (show EOwn elR (w2.alloc ob).drew (.slice A5 lb c5) LB from by have h9 := HFD.out.own.below ((Below.refl w2.drew.heap.size w2.drew).alloc (Nat.le_refl _) ob); exact h9))
          have HND := Lib.hid (fun (jj : Nat) (u : Value) (hu : (elR.enc ⟨x, y, z - 1, y⟩)[jj]? = some u) => (show (w2.alloc (.cells #[.int .i64 x, .int .i64 y, .int .i64 (z - 1), .int .i64 y] 39)).drew.cell? ⟨w2.heap.size, jj, none⟩ = some u from new_cellT w2 _ _ jj (by simpa [elR] using hu)))
          have HPU := Lib.hid (fun (ob : Obj) v2 w7 (hA : EAppended elR (.slice A5 lb c5) (LB ++ [⟨x, y, z - 1, y⟩]) (w2.alloc ob).drew v2 w7) => (show FE elR w v2 (LB ++ [⟨x, y, z - 1, y⟩]) w7 from HFD.out.push (o := ob) hA))
          go_region_held3 (fun w' => w'.cell? ⟨g, o + k, none⟩ = some (.int .i64 x) ∧ w'.cell? ⟨g, o + (k + 1), none⟩ = some (.int .i64 z)) (first | with_reducible exact HK0.out | with_reducible exact HK1.out | with_reducible exact HKA.out _ | with_reducible exact HKB.out _ | with_reducible exact HK7.out) (first
            | (refine step_epushR elR_ok rfl (.tmp 44) (.tmp 58) _ rfl HTY.out (.slice A5 lb c5) LB ⟨x, y, z - 1, y⟩ w2.heap.size 1 (by simp [Act.eval, Act.put]) (by simp [Act.eval, Act.put]) (HOD.out _) HND.out HLN.out ?_; intro v2 w7 hA2; have HP := Lib.hid (HPU.out _ _ _ hA2); have HK7 := Lib.hid (HCL.out w7 HP.out.bel); clear hA2))
          all_goals
            have HNX := Lib.hid (show LnSt w y xs c (k + 1) v2 w7 ∧ true = lineO xs c (k + 1) from ⟨by unfold LnSt; rw [HFN.out]; exact HP.out, HOO2.out.symm⟩)
            clear HK0 HK1 HKA HKB HOD HND HPU HK7 HFD HD2 HCL HC hwz2 hw2
            go_wp2_with fail
            go_roundw
            case rel => exact ⟨k + 1, _, true, by omega, rfl, rfl, by go_num, HNX⟩
            case measure =>
              try rw [hw1]
              simp only [intOf]
              omega
    · have hki : ¬ (k : Int) + 1 < (n : Int) := by omega
      have HZ := Lib.hid (show FE elR w v0 (lineB y (lineR xs c)) wr from by
        have h9 := HF.out.1
        unfold LnSt at h9
        have e : xs.length - 1 = k := by rw [← HN.out]; omega
        unfold lineR
        rw [e]
        exact h9)
      clear hlt
      go_wp2
      go_ret
      exact ⟨_, rfl, HZ.out⟩
end Go.Proofs.Ytimfcgnnfgoaaaa
