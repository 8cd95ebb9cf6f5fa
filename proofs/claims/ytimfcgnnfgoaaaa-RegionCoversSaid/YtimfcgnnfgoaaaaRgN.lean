/- region: Union, Minus, Meet, Same, Area, Has, Covers, by contract. -/
import Derived.Test.YtimfcgnnfgoaaaaRgJ
import Derived.Test.YtimfcgnnfgoaaaaRgGU
import Derived.Test.YtimfcgnnfgoaaaaRgGM
import Derived.Test.YtimfcgnnfgoaaaaRgGC
import Derived.Test.YtimfcgnnfgoaaaaRgGD
namespace Go.Proofs.Ytimfcgnnfgoaaaa
set_option linter.unusedVariables false
set_option linter.unusedSimpArgs false
open Go.RowKit
/-- What is wrong with two regions. -/
def chk2 (a b : List Bx) : Int := if 256 < a.length ∨ 256 < b.length then 2 else if allRight a = true ∧ allRight b = true then 0 else 1
theorem chkN_two (h k : Hd) (a b : List Bx) : chkN [(h, a), (k, b)] = chk2 a b := by
  unfold chkN chk2
  simp [List.any_cons, List.all_cons]
theorem chkN_one (h : Hd) (a : List Bx) : chkN [(h, a)] = chk2 a [] := by
  unfold chkN chk2
  simp [List.any_cons, List.all_cons, allRight]
theorem chk2_zero {a b : List Bx} : chk2 a b = 0 ↔ a.length ≤ 256 ∧ b.length ≤ 256 ∧ rightA a ∧ rightA b := by
  unfold chk2
  rw [← allRight_iff, ← allRight_iff]
  by_cases h : 256 < a.length ∨ 256 < b.length
  · rw [if_pos h]
    constructor
    · intro h2; omega
    · intro h2; omega
  · rw [if_neg h]
    by_cases h3 : allRight a = true ∧ allRight b = true
    · rw [if_pos h3]; exact ⟨fun _ => ⟨by omega, by omega, h3.1, h3.2⟩, fun _ => rfl⟩
    · rw [if_neg h3]; exact ⟨fun h4 => by omega, fun h4 => absurd ⟨h4.2.2.1, h4.2.2.2⟩ h3⟩
/-- What joined hands back. -/
def JoP (w : World) (c : Int) (S : Int → Int → Prop) (e : Ending) (w' : World) : Prop :=
  ∃ v L, e = .returned (.tuple #[v, .int .i64 c]) ∧ FE elR w v L w' ∧ (c = 0 → FormOf S L) ∧ (c ≠ 0 → L = []) ∧ L.length ≤ 1000000
theorem groups_few {C : Bool → Bool → Bool} {a b : List Bx} {E : List En} {ys : List Int} (hE : EndsOf a b E) (hy : RowsIs E ys) (hl : a.length + b.length ≤ 300) : (rects (groups (strips (fun y => scanR C y E) ys))).length ≤ 1000000 := by
  have h1 : E.length ≤ 600 := by rw [hE.len]; omega
  have h2 := hy.len
  have h3 : ∀ c ∈ strips (fun y => scanR C y E) ys, c.R.length ≤ 600 := fun c hc => by
    have := (strips_mem _ ys hy.lt c hc).1
    rw [this]
    have := scan_len C c.f E ⟨[], 0, 0, 0⟩
    simp only [List.length_nil] at this
    unfold scanR
    omega
  have h4 := rects_groups_len h3
  rw [strips_len] at h4
  have h5 : 600 * (ys.length - 1) ≤ 600 * 1200 := Nat.mul_le_mul_left _ (by omega)
  omega
theorem rows_of_ends {a b : List Bx} {E : List En} {ys : List Int} (hE : EndsOf a b E) (hy : RowsIs E ys) : RowsOf a b ys := by
  refine ⟨hy.lt, fun r hr => ?_, fun r hr => ?_⟩
  · have hm : (⟨r.x0, r.y0, r.y1, 0, 1⟩ : En) ∈ E := hE.perm.mem_iff.2 (List.mem_append_left _ (List.mem_flatMap.2 ⟨r, hr, by simp [endsB]⟩))
    exact ⟨(hy.mem _).2 ⟨_, hm, .inl rfl⟩, (hy.mem _).2 ⟨_, hm, .inr rfl⟩⟩
  · have hm : (⟨r.x0, r.y0, r.y1, 1, 1⟩ : En) ∈ E := hE.perm.mem_iff.2 (List.mem_append_right _ (List.mem_flatMap.2 ⟨r, hr, by simp [endsB]⟩))
    exact ⟨(hy.mem _).2 ⟨_, hm, .inl rfl⟩, (hy.mem _).2 ⟨_, hm, .inr rfl⟩⟩
theorem FE.read {α : Type} {E : El α} (hE : E.Ok) {w w' : World} {v : Value} {L : List α} (h : FE E w v L w') : ERd E w' v L := ERd.of_own hE h.own
set_option maxRecDepth 100000 in
set_option maxHeartbeats 8000000 in
theorem joined_any (F : Value) (C : Bool → Bool → Bool) (hF : RunsC F C) (hC : C false false = false) (w : World) (v1 v2 : Value) (a b : List Bx) (h1 : ERd elR w v1 a) (h2 : ERd elR w v2 b) (ha : a.length ≤ 1000000) (hb : b.length ≤ 1000000) (hl : chk2 a b = 0 → a.length + b.length ≤ 300) :
    Calls Try.prog 26 #[v1, v2, F] w (JoP w (chk2 a b) (Cts C a b)) := by
  obtain ⟨A1, c1, rfl, -, -⟩ := h1.shape
  obtain ⟨A2, c2, rfl, -, -⟩ := h2.shape
  have H1 := Lib.hid h1
  have H2 := Lib.hid h2
  have hal : Below w.heap.size w (w.alloc (.cells #[.slice A1 a.length c1, .slice A2 b.length c2] 22)) := (Below.refl _ _).alloc (Nat.le_refl _) _
  have HCH := Lib.hid (check_any (w.alloc (.cells #[.slice A1 a.length c1, .slice A2 b.length c2] 22)) (some ⟨w.heap.size, 0, none⟩) 2 2 [(⟨A1, a.length, c1⟩, a), (⟨A2, b.length, c2⟩, b)] ⟨ERd.of_own elSl_ok (EOwn.block (M := [⟨A1, a.length, c1⟩, ⟨A2, b.length, c2⟩]) elSl_ok (Blk.new w elSl.T _) rfl (by simp)), fun p hp => by
    simp only [List.mem_cons, List.not_mem_nil, or_false] at hp
    rcases hp with rfl | rfl
    · exact h1.below hal
    · exact h2.below hal⟩ rfl (by decide) (fun p hp => by
    simp only [List.mem_cons, List.not_mem_nil, or_false] at hp
    rcases hp with rfl | rfl
    · exact ha
    · exact hb))
  rw [chkN_two] at HCH
  have HZ := Lib.hid (chk2_zero (a := a) (b := b))
  have HL := Lib.hid hl
  have HAL := Lib.hid hal
  have HF := Lib.hid hF
  have HCC := Lib.hid hC
  clear hal h1 h2 ha hb hl hF hC
  generalize hc : chk2 a b = c at *
  clear hc
  go_enter Try.func26, Try.ntmps26
  go_wp2_with fail
  refine HCH.out.mono ?_
  rintro e w1 ⟨rfl, hb1⟩
  have HB1 := Lib.hid (below_trans HAL.out hb1)
  clear hb1 HCH HAL
  by_cases h0 : c = 0
  · have hcb : (c != 0) = false := by simp [h0]
    obtain ⟨-, -, ha, hb⟩ := HZ.out.1 h0
    have hl := HL.out h0
    have HST := Lib.hid (stripsOf_any F C HF.out w1 _ _ a b (H1.out.below HB1.out) (H2.out.below HB1.out) (by omega) ha hb)
    have HA := Lib.hid ha
    have HB := Lib.hid hb
    have HLL := Lib.hid hl
    clear ha hb hl
    have h0' := h0
    subst h0'
    clear h0 hcb
    go_wp2_with fail
    refine HST.out.mono ?_
    rintro e w2 ⟨v2, S, ys, E, rfl, hS, hE, hy, hm⟩
    have HSR := Lib.hid hS
    have HRD := Lib.hid hS.read
    have HEE := Lib.hid hE
    have HY := Lib.hid hy
    have HM := Lib.hid hm
    have HFO := Lib.hid (form_any w2 v2 S HRD.out (by
      have h9 := congrArg List.length hm
      rw [List.length_map, strips_len] at h9
      have := hy.len
      have : E.length ≤ 600 := by rw [hE.len]; have := HLL.out; omega
      omega) (fun p hp => by
      have h9 : toBd p ∈ strips (fun y => scanR C y E) ys := by rw [← hm]; exact List.mem_map_of_mem hp
      have h8 := (strips_mem _ ys hy.lt _ h9).1
      have h7 : p.2 = scanR C (toBd p).f E := h8
      rw [h7]
      have := scan_len C (toBd p).f E ⟨[], 0, 0, 0⟩
      simp only [List.length_nil] at this
      have : E.length ≤ 600 := by rw [hE.len]; have := HLL.out; omega
      unfold scanR
      omega) (by rw [hm]; exact groups_few hE hy HLL.out))
    rw [hm] at HFO
    clear hS hE hy hm HST
    go_wp2_with fail
    refine HFO.out.mono ?_
    rintro e w3 ⟨v3, rfl, hf3⟩
    have HF3 := Lib.hid (hf3.up (below_trans HB1.out HSR.out.fe.bel))
    clear hf3 HFO
    have HFIN := Lib.hid (show JoP w 0 (Cts C a b) (.returned (.tuple #[v3, .int .i64 0])) w3 from ⟨v3, _, rfl, HF3.out, fun _ => strips_form HCC.out (rows_of_ends HEE.out HY.out) _ (fun y _ => scanR_ok HCC.out HEE.out HA.out HB.out y), fun h => absurd rfl h, groups_few HEE.out HY.out HLL.out⟩)
    go_wp2
    refine bodyPost_ret (v := .tuple #[v3, .int .i64 0]) ?_ rfl HFIN.out
    simp [results, Try.results26, go_sem]
  · have hcb : (c != 0) = true := by simpa using h0
    have HFIN := Lib.hid (show JoP w c (Cts C a b) (.returned (.tuple #[.slice none 0 0, .int .i64 c])) w1 from ⟨_, [], rfl, FE.nil_ _ _ HB1.out, fun h => absurd h h0, fun _ => rfl, by simp⟩)
    clear h0
    go_wp2
    refine bodyPost_ret (v := .tuple #[.slice none 0 0, .int .i64 c]) ?_ rfl HFIN.out
    simp [results, Try.results26, go_sem]
theorem runsC_U : RunsC (.func (.func 27) #[] #[]) (fun p q : Bool => p || q) := runsU
theorem runsC_M : RunsC (.func (.func 28) #[] #[]) (fun p q : Bool => p && !q) := runsM
theorem runsC_C : RunsC (.func (.func 29) #[] #[]) (fun p q : Bool => p && q) := runsC
theorem runsC_D : RunsC (.func (.func 40) #[] #[]) (fun p q : Bool => p != q) := runsD
theorem ERd.nil_ {α : Type} {E : El α} (w : World) : ERd E w (.slice none 0 0) [] := ⟨none, 0, rfl, Nat.le_refl _, by decide, fun i x hx => by simp at hx⟩
set_option maxRecDepth 100000 in
set_option maxHeartbeats 4000000 in
theorem union_any (w : World) (v : Value) (a : List Bx) (h : ERd elR w v a) (ha : a.length ≤ 1000000) (hl : chk2 a [] = 0 → a.length ≤ 300) :
    Calls Try.prog 11 #[v] w (JoP w (chk2 a []) (Cts (fun p q : Bool => p || q) a [])) := by
  have HJ := Lib.hid (joined_any _ _ runsC_U rfl w v (.slice none 0 0) a [] h (ERd.nil_ w) ha (by simp) (by simpa using hl))
  clear h ha hl
  go_enter Try.func11, Try.ntmps11
  go_wp2_with fail
  refine HJ.out.mono ?_
  rintro e w1 ⟨v1, L, rfl, hJ⟩
  have HX := Lib.hid hJ
  clear hJ
  go_wp2
  refine bodyPost_ret (v := .tuple #[v1, .int .i64 (chk2 a [])]) ?_ rfl ⟨v1, L, rfl, HX.out⟩
  simp [results, Try.results11, go_sem]
set_option maxRecDepth 100000 in
set_option maxHeartbeats 4000000 in
theorem minus_any (w : World) (v u : Value) (a b : List Bx) (h : ERd elR w v a) (k : ERd elR w u b) (ha : a.length ≤ 1000000) (hb : b.length ≤ 1000000) (hl : chk2 a b = 0 → a.length + b.length ≤ 300) :
    Calls Try.prog 12 #[v, u] w (JoP w (chk2 a b) (Cts (fun p q : Bool => p && !q) a b)) := by
  have HJ := Lib.hid (joined_any _ _ runsC_M rfl w v u a b h k ha hb hl)
  clear h k ha hb hl
  go_enter Try.func12, Try.ntmps12
  go_wp2_with fail
  refine HJ.out.mono ?_
  rintro e w1 ⟨v1, L, rfl, hJ⟩
  have HX := Lib.hid hJ
  clear hJ
  go_wp2
  refine bodyPost_ret (v := .tuple #[v1, .int .i64 (chk2 a b)]) ?_ rfl ⟨v1, L, rfl, HX.out⟩
  simp [results, Try.results12, go_sem]
set_option maxRecDepth 100000 in
set_option maxHeartbeats 4000000 in
theorem meet_any (w : World) (v u : Value) (a b : List Bx) (h : ERd elR w v a) (k : ERd elR w u b) (ha : a.length ≤ 1000000) (hb : b.length ≤ 1000000) (hl : chk2 a b = 0 → a.length + b.length ≤ 300) :
    Calls Try.prog 13 #[v, u] w (JoP w (chk2 a b) (Cts (fun p q : Bool => p && q) a b)) := by
  have HJ := Lib.hid (joined_any _ _ runsC_C rfl w v u a b h k ha hb hl)
  clear h k ha hb hl
  go_enter Try.func13, Try.ntmps13
  go_wp2_with fail
  refine HJ.out.mono ?_
  rintro e w1 ⟨v1, L, rfl, hJ⟩
  have HX := Lib.hid hJ
  clear hJ
  go_wp2
  refine bodyPost_ret (v := .tuple #[v1, .int .i64 (chk2 a b)]) ?_ rfl ⟨v1, L, rfl, HX.out⟩
  simp [results, Try.results13, go_sem]
/-- Does a region have a point? -/
def hasOk (a : List Bx) (x y : Int) : Bool := if chk2 a [] = 0 then hasAny a x y else false
theorem hasOk_no {a : List Bx} (h : chk2 a [] ≠ 0) (x y : Int) : hasOk a x y = false := by unfold hasOk; rw [if_neg h]
theorem hasOk_yes {a : List Bx} (h : chk2 a [] = 0) (x y : Int) : hasOk a x y = hasAny a x y := by unfold hasOk; rw [if_pos h]
set_option maxRecDepth 100000 in
set_option maxHeartbeats 4000000 in
theorem has13_any (w : World) (v : Value) (a : List Bx) (x y : Int) (h : ERd elR w v a) (ha : a.length ≤ 1000000) :
    Calls Try.prog 18 #[v, .agg #[.int .i64 x, .int .i64 y]] w fun e w' => e = .returned (.bool (hasOk a x y)) ∧ Below w.heap.size w w' := by
  obtain ⟨A1, c1, rfl, -, -⟩ := h.shape
  have HL := Lib.hid h
  have hal1 : Below w.heap.size w (w.alloc (.cells #[.int .i64 x, .int .i64 y] 33)) := (Below.refl _ _).alloc (Nat.le_refl _) _
  have hal2 : Below w.heap.size w ((w.alloc (.cells #[.int .i64 x, .int .i64 y] 33)).alloc (.cells #[.slice A1 a.length c1] 22)) := hal1.alloc (by simp) _
  have HCH := Lib.hid (check_any ((w.alloc (.cells #[.int .i64 x, .int .i64 y] 33)).alloc (.cells #[.slice A1 a.length c1] 22)) (some ⟨w.heap.size + 1, 0, none⟩) 1 1 [(⟨A1, a.length, c1⟩, a)] ⟨ERd.of_own elSl_ok (EOwn.block (M := [⟨A1, a.length, c1⟩]) elSl_ok (Blk.newAt (by simp)) rfl (by simp)), fun p hp => by
    simp only [List.mem_cons, List.not_mem_nil, or_false] at hp
    subst hp
    exact h.below hal2⟩ rfl (by decide) (fun p hp => by
    simp only [List.mem_cons, List.not_mem_nil, or_false] at hp
    subst hp
    exact ha))
  rw [chkN_one] at HCH
  have HAL := Lib.hid hal2
  have HPB := Lib.hid ((Blk.new w 33 #[.int .i64 x, .int .i64 y]).alloc (.cells #[.slice A1 a.length c1] 22))
  have HNO := Lib.hid (fun h => hasOk_no (a := a) h x y)
  have HYES := Lib.hid (fun h => hasOk_yes (a := a) h x y)
  generalize hc : chk2 a [] = c at *
  clear h hal1 hal2 hc
  obtain ⟨n, hn⟩ : ∃ n, n = a.length := ⟨_, rfl⟩
  rw [← hn] at HL ha HCH HAL HPB ⊢
  have HN := Lib.hid hn; clear hn
  go_enter Try.func18, Try.ntmps18
  go_wp2_with fail
  refine HCH.out.mono ?_
  rintro e w1 ⟨rfl, hb1⟩
  have HB1 := Lib.hid (below_trans HAL.out hb1)
  have HP1 := Lib.hid (HPB.out.thru0 hb1)
  clear hb1 HCH HAL HPB
  by_cases h0 : c = 0
  · have hcb : (c != 0) = false := by simp [h0]
    have HY := Lib.hid (HYES.out h0)
    have HB0 := Lib.hid (show (Below w.heap.size w w1 ∧ Below w1.heap.size w1 w1) ∧ ∀ j, j < 0 → ∀ r, a[j]? = some r → hasX r x y = false from ⟨⟨HB1.out, Below.refl _ _⟩, fun j hj => by omega⟩)
    generalize hsz : w.heap.size = b0 at *
    have HSZ := Lib.hid hsz
    clear hsz h0
    go_wp2_with fail
    go_loopw [13] (fun i wr => ∃ (k : Nat), k ≤ n ∧ i = .int .i64 k ∧ Hid ((Below b0 w wr ∧ Below w1.heap.size w1 wr) ∧ ∀ j, j < k → ∀ r, a[j]? = some r → hasX r x y = false)) (fun i _ => n - (intOf i).toNat)
    case atStart => exact ⟨0, Nat.zero_le _, rfl, HB0⟩
    case round =>
      rename World => wr
      obtain ⟨k, hk, rfl, HB⟩ := hrel
      by_cases hlt : k < n
      · have hki : (k : Int) < (n : Int) := by omega
        have hkl : k < a.length := by rw [← HN.out]; exact hlt
        have hx : a[k]? = some a[k] := List.getElem?_eq_getElem hkl
        obtain ⟨g, o, rfl, hg, a0, a1, a2, a3⟩ := (HL.out.below (by rw [HSZ.out]; exact HB.out.1.1)).rect hx
        generalize a[k] = r at *
        have HX := Lib.hid hx
        have hal : Below wr.heap.size wr (wr.alloc (.cells #[.int .i64 r.x0, .int .i64 r.y0, .int .i64 r.x1, .int .i64 r.y1] 39)) := (Below.refl _ _).alloc (Nat.le_refl _) _
        have p0 := (HP1.out.thru0 (below_trans HB.out.1.2 hal)).cell 0
        have p1 := (HP1.out.thru0 (below_trans HB.out.1.2 hal)).cell 1
        simp only [List.getElem?_toArray, List.getElem?_cons_zero, List.getElem?_cons_succ] at p0 p1
        have HAL := Lib.hid hal
        clear hx hg hal
        go_wp2_with fail
        refine (has_any _ _ _ _ _ _ _).mono ?_
        rintro e w2 ⟨rfl, hb⟩
        have HB2 := Lib.hid (show Below b0 w w2 ∧ Below w1.heap.size w1 w2 from ⟨by have h9 := below_trans (by rw [HSZ.out]; exact HB.out.1.1 : Below w.heap.size w wr) (below_trans HAL.out hb); rw [HSZ.out] at h9; exact h9, below_trans HB.out.1.2 (below_trans HAL.out hb)⟩)
        clear hb a0 a1 a2 a3 p0 p1
        cases hr : hasB r.x0 r.y0 r.x1 r.y1 x y with
        | true =>
          have HZ := Lib.hid (any_some HX.out hr)
          go_wp2
          go_ret
          exact ⟨by rw [HY.out, HZ.out]; rfl, by have h9 := HB2.out.1; rw [← HSZ.out] at h9; exact h9⟩
        | false =>
          have HR := Lib.hid (show ∀ j, j < k + 1 → ∀ r, a[j]? = some r → hasX r x y = false from fun j hj q hq => by
            by_cases e : j = k
            · subst e; rw [HX.out] at hq; cases hq; exact hr
            · exact HB.out.2 j (by omega) q hq)
          go_wp2_with fail
          go_roundw
          case rel => exact ⟨k + 1, by omega, by go_num, Lib.hid ⟨HB2.out, HR.out⟩⟩
          case measure => simp [intOf]; omega
      · obtain rfl : k = n := by omega
        have HZ := Lib.hid (any_none HB.out.2 HN.out)
        go_wp2
        go_ret
        exact ⟨by rw [HY.out, HZ.out]; rfl, by have h9 := HB.out.1.1; rw [← HSZ.out] at h9; exact h9⟩
  · have hcb : (c != 0) = true := by simpa using h0
    have HZ := Lib.hid (HNO.out h0)
    clear h0
    go_wp2
    go_ret
    exact ⟨by rw [HZ.out]; rfl, HB1.out⟩
end Go.Proofs.Ytimfcgnnfgoaaaa
