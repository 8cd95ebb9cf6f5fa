/- region: elements; which may be, which has a point, by contract. -/
import Derived.Test.YtimfcgnnfgoaaaaRgM
import Derived.Test.YtimfcgnnfgoaaaaRow3
import Derived.Test.YtimfcgnnfgoaaaaGeomArea
import Derived.Test.YtimfcgnnfgoaaaaGeomRef
namespace Go.Proofs.Ytimfcgnnfgoaaaa
set_option linter.unusedVariables false
set_option linter.unusedSimpArgs false
open Go.RowKit
def elR : El Bx := { T := 39, k := 4, by_ := 32, z := .agg #[.int .i64 0, .int .i64 0, .int .i64 0, .int .i64 0], enc := fun x => [.int .i64 x.x0, .int .i64 x.y0, .int .i64 x.x1, .int .i64 x.y1] }
theorem elR_ok : elR.Ok := ⟨by decide, fun _ => rfl, fun x u hu => by simp only [elR, List.mem_cons, List.not_mem_nil, or_false] at hu; rcases hu with rfl | rfl | rfl | rfl <;> rfl, by kernel_rfl, rfl, by decide⟩
def elRn : El Rn := { T := 75, k := 2, by_ := 16, z := .agg #[.int .i64 0, .int .i64 0], enc := fun x => [.int .i64 x.f, .int .i64 x.t] }
theorem elRn_ok : elRn.Ok := ⟨by decide, fun _ => rfl, fun x u hu => by simp only [elRn, List.mem_cons, List.not_mem_nil, or_false] at hu; rcases hu with rfl | rfl <;> rfl, by kernel_rfl, rfl, by decide⟩
def elEd : El En := { T := 80, k := 5, by_ := 40, z := .agg #[.int .i64 0, .int .i64 0, .int .i64 0, .int .i64 0, .int .i64 0], enc := fun e => [.int .i64 e.x, .int .i64 e.f, .int .i64 e.t, .int .i64 e.k, .int .i64 e.s] }
theorem elEd_ok : elEd.Ok := ⟨by decide, fun _ => rfl, fun x u hu => by simp only [elEd, List.mem_cons, List.not_mem_nil, or_false] at hu; rcases hu with rfl | rfl | rfl | rfl | rfl <;> rfl, by kernel_rfl, rfl, by decide⟩
def elI : El Int := { T := 3, k := 1, by_ := 8, z := .int .i64 0, enc := fun x => [.int .i64 x] }
theorem elI_ok : elI.Ok := ⟨by decide, fun _ => rfl, fun x u hu => by simp only [elI, List.mem_cons, List.not_mem_nil, or_false] at hu; rcases hu with rfl; rfl, by kernel_rfl, rfl, by decide⟩
/-- A slice's header as an element. -/
structure Hd where
  A : Option Addr
  n : Nat
  c : Nat
def Hd.v (h : Hd) : Value := .slice h.A h.n h.c
def elSl : El Hd := { T := 22, k := 1, by_ := 24, z := .slice none 0 0, enc := fun h => [.slice h.A h.n h.c] }
theorem elSl_ok : elSl.Ok := ⟨by decide, fun _ => rfl, fun x u hu => by simp only [elSl, List.mem_cons, List.not_mem_nil, or_false] at hu; rcases hu with rfl; rfl, by kernel_rfl, rfl, by decide⟩
/-- A strip as it lies. -/
structure St where
  f : Int
  t : Int
  h : Hd
def elSt : El St := { T := 72, k := 3, by_ := 40, z := .agg #[.int .i64 0, .int .i64 0, .slice none 0 0], enc := fun s => [.int .i64 s.f, .int .i64 s.t, .slice s.h.A s.h.n s.h.c] }
theorem elSt_ok : elSt.Ok := ⟨by decide, fun _ => rfl, fun x u hu => by simp only [elSt, List.mem_cons, List.not_mem_nil, or_false] at hu; rcases hu with rfl | rfl | rfl <;> rfl, by kernel_rfl, rfl, by decide⟩
theorem new_cellT (w : World) (cs : Array Value) (t : TypeId) (i : Nat) {v : Value} (h : cs[i]? = some v) : (w.alloc (.cells cs t)).cell? ⟨w.heap.size, i, none⟩ = some v := by rw [(Blk.new w t cs).cell]; exact h
theorem ERd.shape {α : Type} {E : El α} {w : World} {v : Value} {L : List α} (h : ERd E w v L) : ∃ A c, v = .slice A L.length c ∧ L.length ≤ c ∧ c ≤ maxLen := by
  obtain ⟨A, c, rfl, h1, h2, _⟩ := h
  exact ⟨A, c, rfl, h1, h2⟩
theorem ERd.cell {α : Type} {E : El α} {w : World} {A : Option Addr} {n c : Nat} {L : List α} (h : ERd E w (.slice A n c) L) {i : Nat} {x : α} (hx : L[i]? = some x) : ∃ g o, A = some ⟨g, o, none⟩ ∧ ∀ j u, (E.enc x)[j]? = some u → w.cell? ⟨g, o + i * E.k + j, none⟩ = some u := by
  obtain ⟨A', c', e, -, -, hc⟩ := h
  injection e with e1 e2 e3
  subst e1
  exact hc i x hx
theorem ERd.len {α : Type} {E : El α} {w : World} {A : Option Addr} {n c : Nat} {L : List α} (h : ERd E w (.slice A n c) L) : n = L.length := by
  obtain ⟨A', c', e, _⟩ := h
  injection e
theorem ERd.rect {w : World} {A : Option Addr} {n c : Nat} {L : List Bx} (h : ERd elR w (.slice A n c) L) {i : Nat} {x : Bx} (hi : L[i]? = some x) : ∃ g o, A = some ⟨g, o, none⟩ ∧ g < w.heap.size ∧
    w.cell? ⟨g, o + i * 4, none⟩ = some (.int .i64 x.x0) ∧ w.cell? ⟨g, o + i * 4 + 1, none⟩ = some (.int .i64 x.y0) ∧ w.cell? ⟨g, o + i * 4 + 2, none⟩ = some (.int .i64 x.x1) ∧ w.cell? ⟨g, o + i * 4 + 3, none⟩ = some (.int .i64 x.y1) := by
  obtain ⟨g, o, rfl, hc⟩ := h.cell hi
  have h0 := hc 0 _ rfl
  exact ⟨g, o, rfl, World.block_lt_of_cell? w _ h0, h0, hc 1 _ rfl, hc 2 _ rfl, hc 3 _ rfl⟩
theorem ERd.endE {w : World} {A : Option Addr} {n c : Nat} {L : List En} (h : ERd elEd w (.slice A n c) L) {i : Nat} {x : En} (hi : L[i]? = some x) : ∃ g o, A = some ⟨g, o, none⟩ ∧ g < w.heap.size ∧
    w.cell? ⟨g, o + i * 5, none⟩ = some (.int .i64 x.x) ∧ w.cell? ⟨g, o + i * 5 + 1, none⟩ = some (.int .i64 x.f) ∧ w.cell? ⟨g, o + i * 5 + 2, none⟩ = some (.int .i64 x.t) ∧ w.cell? ⟨g, o + i * 5 + 3, none⟩ = some (.int .i64 x.k) ∧ w.cell? ⟨g, o + i * 5 + 4, none⟩ = some (.int .i64 x.s) := by
  obtain ⟨g, o, rfl, hc⟩ := h.cell hi
  have h0 := hc 0 _ rfl
  exact ⟨g, o, rfl, World.block_lt_of_cell? w _ h0, h0, hc 1 _ rfl, hc 2 _ rfl, hc 3 _ rfl, hc 4 _ rfl⟩
theorem ERd.run2 {w : World} {A : Option Addr} {n c : Nat} {L : List Rn} (h : ERd elRn w (.slice A n c) L) {i : Nat} {x : Rn} (hi : L[i]? = some x) : ∃ g o, A = some ⟨g, o, none⟩ ∧ g < w.heap.size ∧
    w.cell? ⟨g, o + i * 2, none⟩ = some (.int .i64 x.f) ∧ w.cell? ⟨g, o + i * 2 + 1, none⟩ = some (.int .i64 x.t) := by
  obtain ⟨g, o, rfl, hc⟩ := h.cell hi
  have h0 := hc 0 _ rfl
  exact ⟨g, o, rfl, World.block_lt_of_cell? w _ h0, h0, hc 1 _ rfl⟩
theorem ERd.one {w : World} {A : Option Addr} {n c : Nat} {L : List Int} (h : ERd elI w (.slice A n c) L) {i : Nat} {x : Int} (hi : L[i]? = some x) : ∃ g o, A = some ⟨g, o, none⟩ ∧ g < w.heap.size ∧ w.cell? ⟨g, o + i, none⟩ = some (.int .i64 x) := by
  obtain ⟨g, o, rfl, hc⟩ := h.cell hi
  have h0 := hc 0 _ rfl
  have e : o + i * elI.k + 0 = o + i := by simp [elI]
  rw [e] at h0
  exact ⟨g, o, rfl, World.block_lt_of_cell? w _ h0, h0⟩
/-- A row of one's own that was made since w. -/
structure FE {α : Type} (E : El α) (w : World) (v : Value) (L : List α) (wr : World) : Prop where
  own : EOwn E wr v L
  bel : Below w.heap.size w wr
  far : ∀ i, v.ownBlock = some i → w.heap.size ≤ i
theorem FE.nil_ {α : Type} {E : El α} (w wr : World) (h : Below w.heap.size w wr) : FE E w (.slice none 0 0) [] wr := ⟨EOwn.nil_ _, h, fun i hi => by simp [Value.ownBlock] at hi⟩
theorem FE.push {α : Type} {E : El α} {w wr w' : World} {v v' : Value} {L : List α} {x : α} {o : Obj} (h : FE E w v L wr) (ha : EAppended E v (L ++ [x]) (wr.alloc o) v' w') : FE E w v' (L ++ [x]) w' := by
  have hs := h.bel.size
  have hb := ha.below (B := w.heap.size) (by simp; omega) h.far
  exact ⟨ha.own, (h.bel.alloc hs o).trans hb.1, hb.2⟩
theorem FE.below {α : Type} {E : El α} {w wr w' : World} {v : Value} {L : List α} (h : FE E w v L wr) (hb : Below wr.heap.size wr w') : FE E w v L w' := ⟨h.own.below hb, below_trans h.bel hb, h.far⟩
theorem FE.up {α : Type} {E : El α} {w w1 wr : World} {v : Value} {L : List α} (h : FE E w1 v L wr) (hb : Below w.heap.size w w1) : FE E w v L wr := ⟨h.own, below_trans hb h.bel, fun i hi => Nat.le_trans hb.size (h.far i hi)⟩
theorem FE.app {α : Type} {E : El α} {w wr w' : World} {v v' : Value} {L M : List α} (h : FE E w v L wr) (ha : EApp E v M wr v' w') : FE E w v' M w' := by
  obtain ⟨h1, h2, h3⟩ := ha
  refine ⟨h1, h.bel.grown h2 h.bel.size h.far, fun i hi => ?_⟩
  rcases h3 i hi with h4 | h4
  · exact h.far i h4
  · have := h.bel.size; omega

def rightX (r : Bx) : Bool := rightB r.x0 r.y0 r.x1 r.y1
theorem rightX_iff (r : Bx) : rightX r = true ↔ rightR r := by unfold rightX rightR; rw [rightB_iff]
def allRight (L : List Bx) : Bool := L.all rightX
theorem allRight_iff (L : List Bx) : allRight L = true ↔ rightA L := by
  unfold allRight rightA
  rw [List.all_eq_true]
  exact ⟨fun h r hr => (rightX_iff r).1 (h r hr), fun h r hr => (rightX_iff r).2 (h r hr)⟩
theorem take_right {L : List Bx} {k : Nat} (h : ∀ j, j < k → ∀ x, L[j]? = some x → rightX x = true) (hk : k = L.length) : allRight L = true := by
  unfold allRight
  rw [List.all_eq_true]
  intro x hx
  obtain ⟨i, hi, rfl⟩ := List.getElem_of_mem hx
  exact h i (by omega) _ (List.getElem?_eq_getElem hi)
theorem not_right {L : List Bx} {k : Nat} {x : Bx} (hx : L[k]? = some x) (h : rightX x = false) : allRight L = false := by
  cases h2 : allRight L with
  | false => rfl
  | true =>
    unfold allRight at h2
    rw [List.all_eq_true] at h2
    have := h2 x (List.mem_of_getElem? hx)
    rw [h] at this; cases this
/-- What is wrong with a region. -/
def wrongN (L : List Bx) : Int := if 256 < L.length then 2 else if allRight L = true then 0 else 1
theorem wrongN_arg {L : List Bx} (h : L.length ≤ 256) (h2 : allRight L = false) : wrongN L = 1 := by unfold wrongN; rw [if_neg (by omega), h2]; rfl
theorem wrongN_ok {L : List Bx} (h : L.length ≤ 256) (h2 : allRight L = true) : wrongN L = 0 := by unfold wrongN; rw [if_neg (by omega), h2]; rfl
theorem wrongN_zero {L : List Bx} : wrongN L = 0 ↔ L.length ≤ 256 ∧ rightA L := by
  unfold wrongN
  rw [← allRight_iff]
  by_cases h : 256 < L.length
  · rw [if_pos h]; constructor
    · intro h2; omega
    · intro h2; omega
  · rw [if_neg h]
    cases h2 : allRight L <;> simp <;> omega
set_option maxRecDepth 100000 in
set_option maxHeartbeats 4000000 in
theorem rwrong_any (w : World) (v : Value) (L : List Bx) (h : ERd elR w v L) (hl : L.length ≤ 1000000) :
    Calls Try.prog 14 #[v] w fun e w' => e = .returned (.int .i64 (wrongN L)) ∧ Below w.heap.size w w' := by
  obtain ⟨A1, c1, rfl, -, -⟩ := h.shape
  have HL := Lib.hid h
  have HLL := Lib.hid hl
  clear h
  obtain ⟨n, hn⟩ : ∃ n, n = L.length := ⟨_, rfl⟩
  rw [← hn] at HL hl ⊢
  have HN := Lib.hid hn; clear hn
  by_cases hbig : 256 < n
  · have hb2 : (256 : Int) < (n : Int) := by omega
    have HE := Lib.hid (show wrongN L = 2 by unfold wrongN; rw [if_pos (by rw [← HN.out]; exact hbig)])
    clear hbig
    go_enter Try.func14, Try.ntmps14
    go_wp2
    go_ret
    exact ⟨by rw [HE.out]; rfl, Below.refl _ _⟩
  · have hb2 : ¬ (256 : Int) < (n : Int) := by omega
    have HE := Lib.hid (show L.length ≤ 256 by rw [← HN.out]; omega)
    clear hbig
    have HB0 := Lib.hid (show Below w.heap.size w w ∧ ∀ j, j < 0 → ∀ x, L[j]? = some x → rightX x = true from ⟨Below.refl _ _, fun j hj => by omega⟩)
    go_enter Try.func14, Try.ntmps14
    go_wp2_with fail
    go_loopw [3] (fun i wr => ∃ (k : Nat), k ≤ n ∧ i = .int .i64 k ∧ Hid (Below w.heap.size w wr ∧ ∀ j, j < k → ∀ x, L[j]? = some x → rightX x = true)) (fun i _ => n - (intOf i).toNat)
    case atStart => exact ⟨0, Nat.zero_le _, rfl, HB0⟩
    case round =>
      rename World => wr
      obtain ⟨k, hk, rfl, HB⟩ := hrel
      by_cases hlt : k < n
      · have hki : (k : Int) < (n : Int) := by omega
        have hkl : k < L.length := by rw [← HN.out]; exact hlt
        have hx : L[k]? = some L[k] := List.getElem?_eq_getElem hkl
        obtain ⟨g, o, rfl, hg, a0, a1, a2, a3⟩ := (HL.out.below HB.out.1).rect hx
        generalize L[k] = x at *
        have HX := Lib.hid hx
        clear hx hg
        go_wp2_with fail
        refine (ref_right _ _ _ _ _).mono ?_
        rintro e w1 ⟨rfl, hb⟩
        have HB1 := Lib.hid (below_trans HB.out.1 hb)
        clear hb a0 a1 a2 a3
        cases hr : rightB x.x0 x.y0 x.x1 x.y1 with
        | false =>
          have HZ := Lib.hid (wrongN_arg HE.out (not_right HX.out hr))
          go_wp2
          go_ret
          exact ⟨by rw [HZ.out]; rfl, HB1.out⟩
        | true =>
          have HR := Lib.hid (show ∀ j, j < k + 1 → ∀ x, L[j]? = some x → rightX x = true from fun j hj y hy => by
            by_cases e : j = k
            · subst e; rw [HX.out] at hy; cases hy; exact hr
            · exact HB.out.2 j (by omega) y hy)
          go_wp2_with fail
          go_roundw
          case rel => exact ⟨k + 1, by omega, by go_num, Lib.hid ⟨HB1.out, HR.out⟩⟩
          case measure => simp [intOf]; omega
      · obtain rfl : k = n := by omega
        have HZ := Lib.hid (wrongN_ok HE.out (take_right HB.out.2 HN.out))
        go_wp2
        go_ret
        exact ⟨by rw [HZ.out]; rfl, HB.out.1⟩
/-- Whether a region has a point. -/
def hasX (r : Bx) (x y : Int) : Bool := hasB r.x0 r.y0 r.x1 r.y1 x y
def hasAny (L : List Bx) (x y : Int) : Bool := L.any fun r => hasX r x y
theorem hasAny_iff {L : List Bx} (h : rightA L) (x y : Int) : hasAny L x y = true ↔ inA L x y := by
  unfold hasAny inA hasP
  rw [List.any_eq_true]
  constructor
  · rintro ⟨r, hr, h1⟩
    unfold hasX at h1
    rw [hasB_iff] at h1
    exact ⟨r, hr, by omega⟩
  · rintro ⟨r, hr, h1⟩
    have := h r hr
    unfold rightR at this
    refine ⟨r, hr, ?_⟩
    unfold hasX
    rw [hasB_iff]
    omega
theorem any_none {L : List Bx} {x y : Int} {k : Nat} (h : ∀ j, j < k → ∀ r, L[j]? = some r → hasX r x y = false) (hk : k = L.length) : hasAny L x y = false := by
  unfold hasAny
  rw [List.any_eq_false]
  intro r hr
  obtain ⟨i, hi, rfl⟩ := List.getElem_of_mem hr
  rw [h i (by omega) _ (List.getElem?_eq_getElem hi)]
  simp
theorem any_some {L : List Bx} {x y : Int} {k : Nat} {r : Bx} (hr : L[k]? = some r) (h : hasX r x y = true) : hasAny L x y = true := by
  unfold hasAny
  rw [List.any_eq_true]
  exact ⟨r, List.mem_of_getElem? hr, h⟩
set_option maxRecDepth 100000 in
set_option maxHeartbeats 4000000 in
theorem rhas13_any (w : World) (v : Value) (L : List Bx) (x y : Int) (h : ERd elR w v L) (hl : L.length ≤ 1000000) :
    Calls Try.prog 19 #[v, .int .i64 x, .int .i64 y] w fun e w' => e = .returned (.bool (hasAny L x y)) ∧ Below w.heap.size w w' := by
  obtain ⟨A1, c1, rfl, -, -⟩ := h.shape
  have HL := Lib.hid h
  clear h
  obtain ⟨n, hn⟩ : ∃ n, n = L.length := ⟨_, rfl⟩
  rw [← hn] at HL hl ⊢
  have HN := Lib.hid hn; clear hn
  have HB0 := Lib.hid (show Below w.heap.size w w ∧ ∀ j, j < 0 → ∀ r, L[j]? = some r → hasX r x y = false from ⟨Below.refl _ _, fun j hj => by omega⟩)
  go_enter Try.func19, Try.ntmps19
  go_wp2_with fail
  go_loopw [7] (fun i wr => ∃ (k : Nat), k ≤ n ∧ i = .int .i64 k ∧ Hid (Below w.heap.size w wr ∧ ∀ j, j < k → ∀ r, L[j]? = some r → hasX r x y = false)) (fun i _ => n - (intOf i).toNat)
  case atStart => exact ⟨0, Nat.zero_le _, rfl, HB0⟩
  case round =>
    rename World => wr
    obtain ⟨k, hk, rfl, HB⟩ := hrel
    by_cases hlt : k < n
    · have hki : (k : Int) < (n : Int) := by omega
      have hkl : k < L.length := by rw [← HN.out]; exact hlt
      have hx : L[k]? = some L[k] := List.getElem?_eq_getElem hkl
      obtain ⟨g, o, rfl, hg, a0, a1, a2, a3⟩ := (HL.out.below HB.out.1).rect hx
      generalize L[k] = r at *
      have HX := Lib.hid hx
      clear hx hg
      go_wp2_with fail
      refine (ref_has _ _ _ _ _ _ _).mono ?_
      rintro e w1 ⟨rfl, hb⟩
      have HB1 := Lib.hid (below_trans HB.out.1 hb)
      clear hb a0 a1 a2 a3
      cases hr : hasB r.x0 r.y0 r.x1 r.y1 x y with
      | true =>
        have HZ := Lib.hid (any_some HX.out hr)
        go_wp2
        go_ret
        exact ⟨by rw [HZ.out]; rfl, HB1.out⟩
      | false =>
        have HR := Lib.hid (show ∀ j, j < k + 1 → ∀ r, L[j]? = some r → hasX r x y = false from fun j hj q hq => by
          by_cases e : j = k
          · subst e; rw [HX.out] at hq; cases hq; exact hr
          · exact HB.out.2 j (by omega) q hq)
        go_wp2_with fail
        go_roundw
        case rel => exact ⟨k + 1, by omega, by go_num, Lib.hid ⟨HB1.out, HR.out⟩⟩
        case measure => simp [intOf]; omega
    · obtain rfl : k = n := by omega
      have HZ := Lib.hid (any_none HB.out.2 HN.out)
      go_wp2
      go_ret
      exact ⟨by rw [HZ.out]; rfl, HB.out.1⟩
end Go.Proofs.Ytimfcgnnfgoaaaa
