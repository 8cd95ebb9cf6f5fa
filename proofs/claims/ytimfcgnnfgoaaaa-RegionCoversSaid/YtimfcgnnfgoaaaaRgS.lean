/- region: the document's Form, by contract. -/
import Derived.Test.YtimfcgnnfgoaaaaRgR
import Derived.Test.YtimfcgnnfgoaaaaRgP
import Derived.Test.YtimfcgnnfgoaaaaRgJ
import Derived.Test.YtimfcgnnfgoaaaaRgN
namespace Go.Proofs.Ytimfcgnnfgoaaaa
set_option linter.unusedVariables false
set_option linter.unusedSimpArgs false
open Go.RowKit
theorem hasAny_cnt {a : List Bx} (h : rightA a) (x y : Int) : hasAny a x y = decide (0 < cntP a x y) := by
  rw [Bool.eq_iff_iff, hasAny_iff h, decide_eq_true_iff, (cntP_pos a x y).2]
theorem lineC_cts {how : Int} {a b : List Bx} (ha : rightA a) (hb : rightA b) (y x : Int) : lineC how a b y x = true ↔ Cts (cHow how) a b x y := by
  unfold lineC Cts; rw [hasAny_cnt ha, hasAny_cnt hb]
theorem cHow_ff (how : Int) : cHow how false false = false := by unfold cHow; split <;> (try split) <;> rfl
theorem EdR.xs {a b : List Bx} {xs : List Int} (h : EdR (·.x0) (·.x1) (a ++ b) xs) (ha : rightA a) (hb : rightA b) : XsOf a b xs where
  lt := h.lt
  zero := (h.mem _).2 (.inl rfl)
  top := (h.mem _).2 (.inr (.inl rfl))
  ge := fun u hu => by
    rcases (h.mem u).1 hu with rfl | rfl | ⟨r, hr, h2⟩
    · omega
    · omega
    · have h3 : rightR r := (List.mem_append.1 hr).elim (ha r) (hb r)
      unfold rightR at h3
      rcases h2 with h2 | h2 <;> omega
  a := fun r hr => ⟨(h.mem _).2 (.inr (.inr ⟨r, by simp [hr], .inl rfl⟩)), (h.mem _).2 (.inr (.inr ⟨r, by simp [hr], .inr rfl⟩))⟩
  b := fun r hr => ⟨(h.mem _).2 (.inr (.inr ⟨r, by simp [hr], .inl rfl⟩)), (h.mem _).2 (.inr (.inr ⟨r, by simp [hr], .inr rfl⟩))⟩
theorem EdR.rows {a b : List Bx} {ys : List Int} (h : EdR (·.y0) (·.y1) (a ++ b) ys) : RowsOf a b ys where
  lt := h.lt
  a := fun r hr => ⟨(h.mem _).2 (.inr (.inr ⟨r, by simp [hr], .inl rfl⟩)), (h.mem _).2 (.inr (.inr ⟨r, by simp [hr], .inr rfl⟩))⟩
  b := fun r hr => ⟨(h.mem _).2 (.inr (.inr ⟨r, by simp [hr], .inl rfl⟩)), (h.mem _).2 (.inr (.inr ⟨r, by simp [hr], .inr rfl⟩))⟩
theorem EdR.range {a b : List Bx} {ys : List Int} (h : EdR (·.y0) (·.y1) (a ++ b) ys) (ha : rightA a) (hb : rightA b) : ∀ u ∈ ys, 0 ≤ u ∧ u ≤ 65536 := fun u hu => by
  rcases (h.mem u).1 hu with rfl | rfl | ⟨r, hr, h2⟩
  · omega
  · omega
  · have h3 : rightR r := (List.mem_append.1 hr).elim (ha r) (hb r)
    unfold rightR at h3
    rcases h2 with h2 | h2 <;> omega
theorem EdR.two {lo hi : Bx → Int} {L : List Bx} {ys : List Int} (h : EdR lo hi L ys) : 2 ≤ ys.length := by
  have h1 : (0 : Int) ∈ ys := (h.mem _).2 (.inl rfl)
  have h2 : (65536 : Int) ∈ ys := (h.mem _).2 (.inr (.inl rfl))
  cases ys with
  | nil => simp at h1
  | cons x r =>
    cases r with
    | nil => simp at h1 h2; omega
    | cons _ _ => simp
theorem line_len (xs : List Int) (c : Int → Bool) : (lineR xs c).length ≤ xs.length := by
  have := lineS_len xs c (xs.length - 1)
  unfold lineR; omega
theorem rform_of {how : Int} {a b : List Bx} {xs ys : List Int} (ha : rightA a) (hb : rightA b) (hx : XsOf a b xs) (hy : RowsOf a b ys) : FormOf (Cts (cHow how) a b) (rects (groups (strips (fun y => lineR xs (lineC how a b y)) ys))) :=
  strips_form (cHow_ff how) hy _ fun y _ => lineR_ok (hx.edges (cHow_ff how) ha hb y fun x _ => lineC_cts ha hb y x)
/-- Two rows of one's own in blocks apart: what is written and what is read. -/
structure JSt (w2 : World) (vn : Value) (N : List Bx) (v : Value) (D : List Bx) (W : World) : Prop where
  fe : FE elR w2 v D W
  now : EOwn elR W vn N
  ap : ∀ i, v.ownBlock = some i → vn.ownBlock ≠ some i
section
variable {w2 W W' : World} {vn v v' : Value} {N D : List Bx} {x : Bx} {o : Obj}
theorem JSt.below (h : JSt w2 vn N v D W) (hb : Below W.heap.size W W') : JSt w2 vn N v D W' := ⟨h.fe.below hb, h.now.below hb, h.ap⟩
theorem JSt.push (h : JSt w2 vn N v D W) (ha : EAppended elR v (D ++ [x]) (W.alloc o) v' W') : JSt w2 vn N v' (D ++ [x]) W' := by
  have h1 : EOwn elR (W.alloc o) vn N := h.now.below ((Below.refl _ _).alloc (Nat.le_refl _) _)
  refine ⟨h.fe.push ha, h1.keep fun i hi e => ha.keep hi fun e2 => h.ap i e2 e, ?_⟩
  obtain ⟨g5, cap5, hv5, hrow5, hgr5, hor5⟩ := id ha
  intro i hi
  rcases hor5 with h9 | h9
  · have e : v'.ownBlock = v.ownBlock := by rw [hv5, h9]; first | done | rfl
    exact h.ap i (by rw [← e]; exact hi)
  · intro h8
    have h7 := h.now.lt h8
    rw [hv5] at hi
    have e : g5 = i := by simpa [Value.ownBlock] using hi
    have h6 : (W.alloc o).heap.size = W.heap.size + 1 := by simp
    omega
end
theorem drop_strip (F : Int → List Rn) (ys : List Int) (k : Nat) (h : k + 1 < ys.length) : (strips F ys).drop k = ⟨ys[k]?.getD 0, ys[k + 1]?.getD 0 - 1, F (ys[k]?.getD 0)⟩ :: (strips F ys).drop (k + 1) := by
  have h1 := strips_get F ys k h
  have h2 : k < (strips F ys).length := by rw [strips_len]; omega
  rw [List.drop_eq_getElem_cons h2]
  rw [List.getElem?_eq_getElem h2] at h1
  simp only [Option.some.injEq] at h1
  rw [h1]
/-- Strips that are done, and those to come. -/
structure FSt (w2 : World) (F : Int → List Rn) (ys : List Int) (p : Nat) (v : Value) (D : List Bx) (W : World) : Prop where
  fe : FE elR w2 v D W
  eq : rects (groups (strips F ys)) = D ++ rects (groups ((strips F ys).drop p))
/-- A band under way. -/
def KSt (F : Int → List Rn) (ys : List Int) (p k : Nat) : Prop := grp ⟨ys[p]?.getD 0, ys[k]?.getD 0 - 1, F (ys[p]?.getD 0)⟩ ((strips F ys).drop k) = groups ((strips F ys).drop p)
theorem KSt.start {F : Int → List Rn} {ys : List Int} {p : Nat} (h : p + 1 < ys.length) : KSt F ys p (p + 1) := by
  unfold KSt
  rw [drop_strip F ys p h]
  rfl
theorem KSt.step {F : Int → List Rn} {ys : List Int} {p k : Nat} (h : KSt F ys p k) (hk : k + 1 < ys.length) (he : eqRs (F (ys[p]?.getD 0)) (F (ys[k]?.getD 0)) = true) : KSt F ys p (k + 1) := by
  unfold KSt at h ⊢
  rw [← h, drop_strip F ys k hk]
  rw [eqRs_iff] at he
  rw [show grp _ (_ :: (strips F ys).drop (k + 1)) = _ from by rw [grp]]
  rw [if_pos (by rw [eqRs_iff]; exact he.symm)]
theorem KSt.stop {F : Int → List Rn} {ys : List Int} {p k : Nat} (h : KSt F ys p k) (he : ¬ k + 1 < ys.length ∨ eqRs (F (ys[p]?.getD 0)) (F (ys[k]?.getD 0)) = false) : groups ((strips F ys).drop p) = ⟨ys[p]?.getD 0, ys[k]?.getD 0 - 1, F (ys[p]?.getD 0)⟩ :: groups ((strips F ys).drop k) := by
  unfold KSt at h
  rw [← h]
  by_cases hk : k + 1 < ys.length
  · have he2 := he.resolve_left (by omega)
    rw [drop_strip F ys k hk]
    rw [show grp _ (_ :: (strips F ys).drop (k + 1)) = _ from by rw [grp]]
    rw [if_neg (by
      intro h9
      rw [eqRs_iff] at h9
      rw [(eqRs_iff _ _).2 h9.symm] at he2
      cases he2)]
    rfl
  · rw [List.drop_of_length_le (by rw [strips_len]; omega)]
    rfl
theorem strips_few {F : Int → List Rn} {ys : List Int} {K : Nat} (hF : ∀ y, (F y).length ≤ K) (hy : ys.Pairwise (· < ·)) : (rects (groups (strips F ys))).length ≤ K * ys.length := by
  have h1 := rects_groups_len (K := K) (L := strips F ys) (fun c hc => by rw [(strips_mem F ys hy c hc).1]; exact hF _)
  rw [strips_len] at h1
  exact Nat.le_trans h1 (Nat.mul_le_mul_left _ (Nat.sub_le _ _))
theorem wrap_nat1 {k : Nat} (h : k ≤ 1000000) : wrap64 ((k : Int) + 1) = (k : Int) + 1 := by unfold wrap64; omega
theorem take_few {D : List Bx} {b : Bd} {j : Nat} (h : D.length + b.R.length ≤ 1000000) : (D ++ (rectsB b).take j).length ≤ 1000000 := by
  rw [List.length_append, List.length_take, rectsB_len]
  omega
theorem take_band {b : Bd} {j : Nat} (h : j < b.R.length) : (rectsB b).take (j + 1) = (rectsB b).take j ++ [⟨b.R[j].f, b.f, b.R[j].t, b.t⟩] := by
  have h8 : j < (rectsB b).length := by rw [rectsB_len]; exact h
  rw [List.take_succ_eq_append_getElem h8]
  simp [rectsB]
def RFormP (w : World) (how : Int) (a b : List Bx) (e : Ending) (w' : World) : Prop := ∃ v L, e = .returned v ∧ FE elR w v L w' ∧ FormOf (Cts (cHow how) a b) L ∧ L.length ≤ 1000000
set_option maxRecDepth 100000 in
set_option maxHeartbeats 8000000 in
theorem rform_any (w : World) (v1 v2 : Value) (a b : List Bx) (how : Int) (h1 : ERd elR w v1 a) (h2 : ERd elR w v2 b) (hl : a.length + b.length ≤ 100) (ha : rightA a) (hb : rightA b) :
    Calls Try.prog 17 #[v1, v2, .int .i64 how] w (RFormP w how a b) := by
  obtain ⟨A1, c1, rfl, -, -⟩ := h1.shape
  obtain ⟨A2, c2, rfl, -, -⟩ := h2.shape
  have HX := Lib.hid (edgesX w _ _ a b h1 h2 (by omega) ha hb)
  have HY := Lib.hid (fun (X : World) (hX : Below w.heap.size w X) => edgesY X _ _ a b (h1.below hX) (h2.below hX) (by omega) ha hb)
  have HLI := Lib.hid (fun (X : World) (hX : Below w.heap.size w X) (v3 : Value) (xs : List Int) (y : Int) (h3 : ERd elI X v3 xs) (hx : XsOf a b xs) (hxl : xs.length ≤ 100000) => line_any X _ _ v3 a b xs y how _ (h1.below hX) (h2.below hX) h3 (by omega) (by omega) (hx.edges (cHow_ff how) ha hb y fun x _ => lineC_cts ha hb y x) hx.ge hxl)
  have HFO := Lib.hid (fun (xs ys : List Int) (hx : EdR (·.x0) (·.x1) (a ++ b) xs) (hy : EdR (·.y0) (·.y1) (a ++ b) ys) => rform_of (how := how) ha hb (hx.xs ha hb) hy.rows)
  have HXS := Lib.hid (fun (xs : List Int) (hx : EdR (·.x0) (·.x1) (a ++ b) xs) => hx.xs ha hb)
  have HYB := Lib.hid (fun (ys : List Int) (h : EdR (·.y0) (·.y1) (a ++ b) ys) => h.range ha hb)
  have HAB := Lib.hid (show (a ++ b).length ≤ 100 from by simpa using hl)
  clear h1 h2 hl ha hb
  have HTY := Lib.hid (show Try.prog.underlying 22 = some (.slice elR.T) from Try.underlying22)
  generalize a.length = na at *
  generalize b.length = nb at *
  go_enter Try.func17, Try.ntmps17
  go_wp2_with fail
  refine HX.out.mono ?_
  rintro e w1 ⟨v3, xs, rfl, hr3, hb3, he3⟩
  obtain ⟨A3, c3, rfl, -, -⟩ := hr3.shape
  have HR3 := Lib.hid hr3
  have HB3 := Lib.hid hb3
  have HE3 := Lib.hid he3
  clear hr3 hb3 he3 HX
  go_wp2_with fail
  refine (HY.out w1 HB3.out).mono ?_
  rintro e w2 ⟨v4, ys, rfl, hr4, hb4, he4⟩
  obtain ⟨A4, c4, rfl, -, -⟩ := hr4.shape
  have HB2 := Lib.hid (below_trans HB3.out hb4)
  have HR3 := Lib.hid (HR3.out.below hb4)
  have HR4 := Lib.hid hr4
  have hxl : xs.length ≤ 202 := by have := HE3.out.len; have := HAB.out; omega
  have hyl : ys.length ≤ 202 := by have := he4.len; have := HAB.out; omega
  obtain ⟨F, hF⟩ : ∃ F, F = fun y => lineR xs (lineC how a b y) := ⟨_, rfl⟩
  have HFL := Lib.hid (show ∀ y, (F y).length ≤ 202 from fun y => by rw [hF]; exact Nat.le_trans (line_len _ _) hxl)
  have HTL := Lib.hid (show (rects (groups (strips F ys))).length ≤ 1000000 from Nat.le_trans (strips_few HFL.out he4.lt) (Nat.le_trans (Nat.mul_le_mul_left 202 hyl) (by decide)))
  have HZZ := Lib.hid (show ∀ v W, FE elR w2 v (rects (groups (strips F ys))) W → RFormP w how a b (.returned v) W from fun v W hv => ⟨v, _, rfl, hv.up HB2.out, by rw [hF]; exact HFO.out xs ys HE3.out he4, HTL.out⟩)
  have HLN := Lib.hid (show ∀ (X : World) (hX : Below w2.heap.size w2 X) (y : Int), Calls Try.prog 32 #[.slice A1 na c1, .slice A2 nb c2, .slice A3 xs.length c3, .int .i64 y, .int .i64 how] X fun e w' => ∃ v, e = .returned v ∧ FE elR X v (lineB y (F y)) w' from fun X hX y => by
    rw [hF]
    exact HLI.out X (below_trans HB2.out hX) _ xs y (HR3.out.below hX) (HXS.out xs HE3.out) (by omega))
  have HY2 := Lib.hid he4.two
  have HYR := Lib.hid (HYB.out ys he4)
  have HF0 := Lib.hid (show FSt w2 F ys 0 (.slice none 0 0) [] w2 from ⟨FE.nil_ _ _ (Below.refl _ _), rfl⟩)
  generalize xs.length = xn at *
  obtain ⟨n, hn⟩ : ∃ n, n = ys.length := ⟨_, rfl⟩
  rw [← hn] at HR4 hyl HY2 ⊢
  have HN := Lib.hid hn
  have hn2 := HY2.out
  clear hn hr4 hb4 he4 hF hxl HB3 HE3 HFO HXS HLI HY HR3 HAB HY2
  go_wp2_with fail
  go_loopw [7, 10, 11, 12, 13] (fun v i _ _ _ wr => ∃ (p : Nat) (v0 : Value) (D : List Bx), p + 1 ≤ n ∧ v = v0 ∧ i = .int .i64 (p : Int) ∧ Hid (FSt w2 F ys p v0 D wr)) (fun _ i _ _ _ _ => n - (intOf i).toNat)
  case atStart => exact ⟨0, _, [], by omega, rfl, rfl, HF0⟩
  case round =>
    rename World => wr
    obtain ⟨p, v0, D, hp, hv, rfl, HF⟩ := hrel
    have hv' := hv.symm
    clear hv
    subst hv'
    have hw1 : wrap64 ((p : Int) + 1) = (p : Int) + 1 := by unfold wrap64; omega
    by_cases hlt : p + 1 < n
    · have hki : (p : Int) + 1 < (n : Int) := by omega
      have hki0 : (p : Int) < (n : Int) := by omega
      have hpl : p < ys.length := by rw [← HN.out]; omega
      have hx := List.getElem?_eq_getElem hpl
      have HYP := Lib.hid (show ys[p]?.getD 0 = ys[p] from by rw [hx]; rfl)
      obtain ⟨g, o, rfl, -, a0⟩ := (HR4.out.below HF.out.fe.bel).one hx
      generalize ys[p] = y at *
      clear hx hpl
      go_wp2_with fail
      refine (HLN.out wr HF.out.fe.bel y).mono ?_
      rintro e w3 ⟨vn, rfl, hf3⟩
      obtain ⟨A5, c5, hv5, -, -⟩ := hf3.own.slice
      subst hv5
      have HJ0 := Lib.hid (show JSt w2 (.slice A5 (lineB y (F y)).length c5) (lineB y (F y)) v0 D w3 from ⟨HF.out.fe.below hf3.bel, hf3.own, fun i hi h9 => by
        have h7 := HF.out.fe.own.lt hi
        have h8 := hf3.far i h9
        omega⟩)
      have HLE := Lib.hid (lineB_len y (F y))
      obtain ⟨m, hm⟩ : ∃ m, m = (lineB y (F y)).length := ⟨_, rfl⟩
      rw [← hm] at HJ0 HLE ⊢
      have HM := Lib.hid hm
      have HMB := Lib.hid (show m ≤ 202 from by rw [HLE.out]; exact HFL.out y)
      clear hm hf3 a0
      have HK0 := Lib.hid (show KSt F ys p (p + 1) from KSt.start (by rw [← HN.out]; exact hlt))
      go_wp2_with fail
      go_loopw [12] (fun kv wx => ∃ (k : Nat), k + 1 ≤ n ∧ p < k ∧ kv = .int .i64 (k : Int) ∧ Hid (JSt w2 (.slice A5 m c5) (lineB y (F y)) v0 D wx ∧ KSt F ys p k)) (fun kv _ => n - (intOf kv).toNat)
      case atStart => exact ⟨p + 1, by omega, by omega, by first | rfl | go_num, Lib.hid ⟨HJ0.out, HK0.out⟩⟩
      case round =>
        rename World => wx
        obtain ⟨k, hk, hpk, rfl, HJ⟩ := hrel
        have hw2 : wrap64 ((k : Int) + 1) = (k : Int) + 1 := by unfold wrap64; omega
        have hkn : (k : Int) < (n : Int) := by omega
        have hkl : k < ys.length := by rw [← HN.out]; omega
        have hz := List.getElem?_eq_getElem hkl
        have HZP := Lib.hid (show ys[k]?.getD 0 = ys[k] from by rw [hz]; rfl)
        obtain ⟨g2, o2, e2, -, -⟩ := HR4.out.one hz
        simp only [Option.some.injEq, Addr.mk.injEq, and_true] at e2
        obtain ⟨rfl, rfl⟩ := e2
        have HCL := Lib.hid (show ∀ X, Below w2.heap.size w2 X → X.cell? ⟨g, o + k, none⟩ = some (.int .i64 ys[k]) from fun X hX => by
          obtain ⟨g3, o3, e3, -, h9⟩ := (HR4.out.below hX).one hz
          simp only [Option.some.injEq, Addr.mk.injEq, and_true] at e3
          obtain ⟨rfl, rfl⟩ := e3
          exact h9)
        have HZW := Lib.hid (show wrap64 (ys[k] - 1) = ys[k] - 1 from by have := HYR.out _ (List.getElem_mem hkl); unfold wrap64; omega)
        have HZW2 := Lib.hid (show IntKind.i64.wrap (ys[k] - 1) = ys[k] - 1 from by have := HYR.out _ (List.getElem_mem hkl); rw [IntKind.wrap_i64]; omega)
        generalize ys[k] = z at *
        clear hz hkl
        have a1 := HCL.out wx HJ.out.1.fe.bel
        by_cases hgo : k + 1 < n ∧ eqRs (F y) (F z) = true
        · obtain ⟨hlt2, hE⟩ := hgo
          have hkk : (k : Int) + 1 < (n : Int) := by omega
          have HK1 := Lib.hid (show KSt F ys p (k + 1) from HJ.out.2.step (by rw [← HN.out]; exact hlt2) (by rw [HYP.out, HZP.out]; exact hE))
          have HE := Lib.hid hE
          clear hE
          go_wp2_with (first
            | (go_at_call 32; refine (HLN.out wx HJ.out.1.fe.bel z).mono ?_; rintro e w4 ⟨vz, rfl, hf4⟩; have HJ4 := Lib.hid (HJ.out.1.below hf4.bel); have HF4 := Lib.hid hf4; clear hf4)
            | (go_at_call 33; refine (alike_any w4 _ _ (F y) (F z) y z (by have h9 := ERd.of_own elR_ok HJ4.out.now; exact h9) (ERd.of_own elR_ok HF4.out.own) (by have := HFL.out y; omega) (by have := HFL.out z; omega)).mono ?_; rintro e wy ⟨rfl, hb5⟩; have HJ5 := Lib.hid (HJ4.out.below hb5); have hE := HE.out; rw [hE]; clear hb5 hE))
          go_roundw
          case rel => exact ⟨k + 1, by omega, by omega, by go_num, Lib.hid ⟨HJ5.out, HK1.out⟩⟩
          case measure =>
            try rw [hw2]
            simp only [intOf]
            omega
        · have hcase : ¬ k + 1 < n ∨ (k + 1 < n ∧ eqRs (F y) (F z) = false) := by
            by_cases h9 : k + 1 < n
            · right
              refine ⟨h9, ?_⟩
              cases h8 : eqRs (F y) (F z) with
              | false => rfl
              | true => exact absurd ⟨h9, h8⟩ hgo
            · exact .inl h9
          have HSTOP := Lib.hid (show groups ((strips F ys).drop p) = ⟨y, z - 1, F y⟩ :: groups ((strips F ys).drop k) from by
            have h9 := HJ.out.2.stop (by
              rcases hcase with h9 | ⟨_, h9⟩
              · left; rw [← HN.out]; exact h9
              · right; rw [HYP.out, HZP.out]; exact h9)
            rw [HYP.out, HZP.out] at h9
            exact h9)
          have HEQ := Lib.hid (show rects (groups (strips F ys)) = (D ++ rectsB ⟨y, z - 1, F y⟩) ++ rects (groups ((strips F ys).drop k)) from by rw [HF.out.eq, HSTOP.out, rects_cons, List.append_assoc])
          have HLD := Lib.hid (show D.length + (F y).length ≤ 1000000 from by
            have h9 := HTL.out
            rw [HEQ.out, List.length_append, List.length_append, rectsB_len] at h9
            exact Nat.le_trans (Nat.le_add_right _ _) h9)
          have HJA := Lib.hid HJ.out.1
          have HD0 := Lib.hid (show D ++ (rectsB ⟨y, z - 1, F y⟩).take 0 = D from by simp)
          have HFY := Lib.hid (show m = (F y).length from HLE.out)
          clear hgo HSTOP HJ HLE HM HF HK0 HJ0
          rcases hcase with hnl | ⟨hlt2, hE⟩
          all_goals
            first
              | (have hkk : ¬ (k : Int) + 1 < (n : Int) := by omega
                 have HJ5 := HJA
                 obtain ⟨wy, hwy⟩ : ∃ wy, wy = wx := ⟨_, rfl⟩
                 subst hwy
                 go_wp2_with fail)
              | (have hkk : (k : Int) + 1 < (n : Int) := by omega
                 have HE := Lib.hid hE
                 clear hE
                 go_wp2_with (first
                   | (go_at_call 32; refine (HLN.out wx HJA.out.fe.bel z).mono ?_; rintro e w4 ⟨vz, rfl, hf4⟩; have HJ4 := Lib.hid (HJA.out.below hf4.bel); have HF4 := Lib.hid hf4; clear hf4)
                   | (go_at_call 33; refine (alike_any w4 _ _ (F y) (F z) y z (by have h9 := ERd.of_own elR_ok HJ4.out.now; exact h9) (ERd.of_own elR_ok HF4.out.own) (by have := HFL.out y; omega) (by have := HFL.out z; omega)).mono ?_; rintro e wy ⟨rfl, hb5⟩; have HJ5 := Lib.hid (HJ4.out.below hb5); have hE := HE.out; rw [hE]; clear hb5 hE)))
          all_goals
            clear HJA HLN
            go_loopw [7, 13] (fun v jv wz => ∃ (j : Nat) (v9 : Value), j ≤ m ∧ v = v9 ∧ jv = .int .i64 (j : Int) ∧ Hid (JSt w2 (.slice A5 m c5) (lineB y (F y)) v9 (D ++ (rectsB ⟨y, z - 1, F y⟩).take j) wz)) (fun _ jv _ => m - (intOf jv).toNat)
            case atStart => exact ⟨0, _, by omega, rfl, rfl, Lib.hid (by rw [HD0.out]; exact HJ5.out)⟩
            case round =>
              rename World => wz
              obtain ⟨j, v9, hj, hv, rfl, HJ6⟩ := hrel
              have hv' := hv.symm
              clear hv
              subst hv'
              have hw3 : wrap64 ((j : Int) + 1) = (j : Int) + 1 := wrap_nat1 (Nat.le_trans hj (Nat.le_trans HMB.out (by decide)))
              by_cases hlj : j < m
              · have hji : (j : Int) < (m : Int) := by omega
                have hjl : j < (F y).length := by rw [← HFY.out]; exact hlj
                have hr := List.getElem?_eq_getElem hjl
                have HTK := Lib.hid (take_band (b := ⟨y, z - 1, F y⟩) hjl)
                have HLJ := Lib.hid (take_few (b := ⟨y, z - 1, F y⟩) (j := j) HLD.out)
                obtain ⟨g5, o5, rfl, -, d0, d1, d2, d3⟩ := (ERd.of_own elR_ok HJ6.out.now).rect (lineB_get hr)
                generalize (F y)[j] = x at *
                obtain ⟨xf, xt⟩ := x
                simp only [rowR] at d0 d1 d2 d3 HTK
                have hal : Below wz.heap.size wz (wz.alloc (.cells #[.int .i64 xf, .int .i64 y, .int .i64 xt, .int .i64 y] 39)) := (Below.refl _ _).alloc (Nat.le_refl _) _
                have k1 := HCL.out _ (below_trans HJ6.out.fe.bel hal)
                have HWB := Lib.hid (Blk.new wz 39 #[.int .i64 xf, .int .i64 y, .int .i64 xt, .int .i64 y])
                have HAL := Lib.hid ((Below.refl wz.heap.size wz).alloc (Nat.le_refl _) (.cells #[.int .i64 xf, .int .i64 y, .int .i64 xt, .int .i64 (z - 1)] 39))
                have HJ7 := Lib.hid (HJ6.out.below HAL.out)
                have HO7 := Lib.hid (fun ob => HJ7.out.fe.own.below ((Below.refl _ _).alloc (Nat.le_refl _) ob))
                have HN7 := Lib.hid (show ∀ (jj : Nat) (u : Value), (elR.enc ⟨xf, y, xt, z - 1⟩)[jj]? = some u → ((wz.alloc (.cells #[.int .i64 xf, .int .i64 y, .int .i64 xt, .int .i64 (z - 1)] 39)).alloc (.cells #[.int .i64 xf, .int .i64 y, .int .i64 xt, .int .i64 (z - 1)] 39)).cell? ⟨wz.heap.size + 1, jj, none⟩ = some u from fun jj u hu => by
                  have hs : (wz.alloc (.cells #[.int .i64 xf, .int .i64 y, .int .i64 xt, .int .i64 (z - 1)] 39)).heap.size = wz.heap.size + 1 := by simp
                  have h9 := new_cellT (wz.alloc (.cells #[.int .i64 xf, .int .i64 y, .int .i64 xt, .int .i64 (z - 1)] 39)) #[.int .i64 xf, .int .i64 y, .int .i64 xt, .int .i64 (z - 1)] 39 jj (v := u) (by simpa [elR] using hu)
                  rw [hs] at h9
                  exact h9)
                have hzw : wrap64 (z - 1) = z - 1 := HZW.out
                have hzw2 : IntKind.i64.wrap (z - 1) = z - 1 := HZW2.out
                clear hr hjl hal
                go_wp2_with (at_builtin; refine wpList_epush elR_ok rfl _ _ 22 rfl HTY.out v9 (D ++ (rectsB ⟨y, z - 1, F y⟩).take j) ⟨xf, y, xt, z - 1⟩ (wz.heap.size + 1) 1 (by first | rfl | simp [Act.eval, Act.put]) (by first | rfl | simp [Act.eval, Act.put]) (HO7.out _) HN7.out HLJ.out ?_; intro v7 w7 hA; have HJ8 := Lib.hid (HJ7.out.push hA); clear hA)
                clear hzw hzw2
                have HNX := Lib.hid (show JSt w2 (.slice (some ⟨g5, o5, none⟩) m c5) (lineB y (F y)) v7 (D ++ (rectsB ⟨y, z - 1, F y⟩).take (j + 1)) w7 from by rw [HTK.out, ← List.append_assoc]; exact HJ8.out)
                go_roundw
                case rel => exact ⟨j + 1, _, by omega, rfl, by go_num, HNX⟩
                case measure => exact meas_lt hlj hw3
              · obtain rfl : j = m := by omega
                have HFE := Lib.hid (show FSt w2 F ys k v9 (D ++ rectsB ⟨y, z - 1, F y⟩) wz from ⟨by
                  have h9 := HJ6.out.fe
                  rw [List.take_of_length_le (by rw [rectsB_len, ← HFY.out]; exact Nat.le_refl _)] at h9
                  exact h9, HEQ.out⟩)
                have hji : ¬ (j : Int) < (j : Int) := by omega
                clear HJ6 HJ5
                go_wp2_with fail
                go_roundw
                case rel => exact ⟨k, _, _, by omega, rfl, rfl, HFE⟩
                case measure =>
                  simp only [intOf]
                  omega
    · have hki : ¬ (p : Int) + 1 < (n : Int) := by omega
      have HZ := Lib.hid (show RFormP w how a b (.returned v0) wr from HZZ.out v0 wr (by
        have h9 := HF.out.eq
        rw [List.drop_of_length_le (by rw [strips_len, ← HN.out]; omega)] at h9
        have h8 : rects (groups ([] : List Bd)) = [] := rfl
        rw [h8, List.append_nil] at h9
        rw [h9]
        exact HF.out.fe))
      clear hlt
      go_wp2
      go_ret
      exact HZ.out
end Go.Proofs.Ytimfcgnnfgoaaaa
