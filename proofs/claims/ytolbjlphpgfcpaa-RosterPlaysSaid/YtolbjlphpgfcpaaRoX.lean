/- roster: users by contract. -/
import Derived.Test.YtolbjlphpgfcpaaRoW
namespace Go.Proofs.Ytolbjlphpgfcpaa
set_option linter.unusedVariables false
set_option linter.unusedSimpArgs false
open Go.RowKit Go.Sort Go.Maps
theorem below_grownN {B : Nat} {w w' : World} {r : Option Nat} (h : w.grownBy w' r) (hr : ∀ i, r = some i → B ≤ i) (hB : B ≤ w.heap.size) : Below B w w' := (Below.refl B w).grown h hB hr
/-- Whom users lists. -/
def UsP (H : Int → Option Mb) (w : World) (e : Ending) (w' : World) : Prop := ∃ v Ks, e = .returned v ∧ FE elI w v Ks w' ∧ Ks.Pairwise (· < ·) ∧ Ks.length ≤ 1000000 ∧ ∀ u, u ∈ Ks ↔ (u = 0 ∨ (H u).isSome = true)
/-- The state of the loop. -/
structure US (w : World) (mp r n : Nat) (D : DataW Unit) (H : Int → Option Mb) (v : Value) (left : Lit → Bool) (cnt : Nat) (Ks : List Int) (c : Nat) (wr : World) : Prop where
  rg : wr.ranges Try.prog 3 recR mp r n D left cnt
  fe : FE elI w v (0 :: Ks) wr
  ks : KS H left Ks
  mpl : mp < w.heap.size
  rl : w.heap.size ≤ r
  nr : v.ownBlock ≠ some r
  cn : Ks.length + cnt ≤ c
theorem US.next {w wr w1 : World} {mp r n cnt cnt1 c : Nat} {D : DataW Unit} {H : Int → Option Mb} {v : Value} {left left' : Lit → Bool} {Ks : List Int} (h : US w mp r n D H v left cnt Ks c wr) (hg : wr.grownBy w1 (some r)) (hrg : w1.ranges Try.prog 3 recR mp r n D left' cnt1) (hlt : cnt1 < cnt) :
    FE elI w v (0 :: Ks) w1 := by
  have hs := h.fe.bel.size
  have hb := h.fe.bel.trans (below_grownN hg (fun i hi => by cases hi; exact h.rl) hs)
  exact ⟨h.fe.own.keep fun i hi e => hg.block i hi (fun e2 => h.nr (by rw [e, e2])), hb, h.fe.far⟩
theorem US.push {w wr w1 w' : World} {mp r n cnt cnt1 c : Nat} {D : DataW Unit} {H : Int → Option Mb} {v v' : Value} {left : Lit → Bool} {Ks : List Int} {x : Int} {o : Obj} (h : US w mp r n D H v left cnt Ks c wr) (hx : left (keyL x) = true)
    (hg : wr.grownBy w1 (some r)) (hrg : w1.ranges Try.prog 3 recR mp r n D (fun z => left z && !z.sameKey (keyL x)) cnt1) (hlt : cnt1 < cnt)
    (ha : EAppended elI v ((0 :: Ks) ++ [x]) (w1.alloc o) v' w') : US w mp r n D H v' (fun z => left z && !z.sameKey (keyL x)) cnt1 (Ks ++ [x]) c w' := by
  have hF := h.next hg hrg hlt
  have hr1 := hrg.lt
  have h1 := h.mpl
  have hn : v.ownBlock ≠ some mp := fun e => by have := hF.far mp e; omega
  obtain ⟨g, cap, rfl, hr, hgr, hb⟩ := id ha
  refine ⟨(hrg.alloc o).kept hgr (fun e => hn e.symm) (fun e => h.nr e.symm), hF.push ha, h.ks.step hx, h.mpl, h.rl, fun e => ?_, ?_⟩
  · simp [Value.ownBlock] at e
    subst e
    rcases hb with hb | hb
    · exact h.nr hb
    · simp at hb; omega
  · have := h.cn; simp; omega
theorem US.fin {w wr w' : World} {mp r n cnt c : Nat} {D : DataW Unit} {H : Int → Option Mb} {v : Value} {left : Lit → Bool} {Ks : List Int} (h : US w mp r n D H v left cnt Ks c wr) (hH : H 0 = none) (hl : ∀ kl, left kl = false) {g : Nat} (hv : v.ownBlock = some g) (hc : c ≤ 100000)
    (ho : EOwn elI w' v ((0 :: Ks).mergeSort fun x y => decide (x ≤ y))) (hg : wr.grownBy w' (some g)) : UsP H w (.returned v) w' := by
  have hd := h.ks.done hl
  have h0 : 0 ∉ Ks := fun hm => by have := (hd 0).2 hm; rw [hH] at this; cases this
  have hcn := h.cn
  refine ⟨v, _, rfl, ⟨ho, h.fe.bel.trans (below_grownN hg (fun i hi => by cases hi; exact h.fe.far g hv) h.fe.bel.size), h.fe.far⟩, sorted_lt (List.nodup_cons.2 ⟨h0, h.ks.nodup⟩), by rw [List.length_mergeSort]; simp; omega, fun u => ?_⟩
  rw [List.mem_mergeSort, List.mem_cons, hd u]
set_option maxRecDepth 100000 in
set_option maxHeartbeats 8000000 in
theorem users_some (w : World) (y n c mp : Nat) (H : Int → Option Mb) (hb : Blk w y 53 #[.map (some mp)]) (hm : MapM w mp n H c) (hw : WFH H) (hc : c ≤ 100000) :
    Calls Try.prog 27 #[ptrA y] w (UsP H w) := by
  have hH : H 0 = none := by
    cases hh : H 0 with
    | none => rfl
    | some m => have := (hw 0 m hh).2.1; omega
  have HH := Lib.hid hH
  have t0 : w.cell? ⟨y, 0, none⟩ = some (.map (some mp)) := hb.cell 0
  have zy := hb.lt
  have zm := hm.lt
  have HMA := Lib.hid (hm.alloc (.cells #[.int .i64 0] 3))
  have HTY := Lib.hid (show Try.prog.underlying 58 = some (.slice elI.T) from Try.underlying58)
  have hx := Blk.new w elI.T #[.int .i64 0]
  have HF0 := Lib.hid (show FE elI w (.slice (some ⟨w.heap.size, 0, none⟩) 1 1) [0] (w.alloc (.cells #[.int .i64 0] 3)) from ⟨EOwn.block elI_ok (M := [0]) hx rfl (by simp), (Below.refl _ _).alloc (Nat.le_refl _) _, fun i hi => by simp [Value.ownBlock] at hi; omega⟩)
  clear hb hm hH hw hx
  obtain ⟨D, hown, -, -, hhas, -, hsz⟩ := HMA.out
  have HHAS := Lib.hid hhas
  have HSZ := Lib.hid hsz
  clear hhas hsz HMA
  go_enter Try.func27, Try.ntmps27
  go_wp2_with (first | (at_range; refine wpList_range_own _ rfl _ 51 rfl 3 34 (int_keyed Try.underlying3) Try.underlying51 recR mp n D rfl hown ?_; intro w0 hrg0 hg0 hs0) | go_in)

  go_frame
  obtain ⟨r, hr⟩ : ∃ r, (w.alloc (.cells #[.int .i64 0] 3)).heap.size = r := ⟨_, rfl⟩
  have hr2 : r = w.heap.size + 1 := by rw [← hr]; simp
  rw [hr] at hrg0 ⊢
  have HR2 := Lib.hid hr2
  clear hr hr2
  have HU := Lib.hid (show US w mp r n D H (.slice (some ⟨w.heap.size, 0, none⟩) 1 1) (Maps.has D) (Maps.size D) [] c w0 from
    ⟨hrg0, ⟨HF0.out.own.keep fun i hi e => hg0.block i hi (by simp), HF0.out.bel.trans (below_grownN hg0 (fun i hi => by cases hi) HF0.out.bel.size), HF0.out.far⟩, KS.start HHAS.out, zm, by have := HR2.out; omega, by have := HR2.out; simp [Value.ownBlock]; omega, by have := HSZ.out; simp; omega⟩)
  clear hrg0 hg0 hs0 hown HF0
  go_loopw [3, 4] (fun v u wr => ∃ (v0 : Value) (left : Lit → Bool) (cnt : Nat) (Ks : List Int), v = v0 ∧ Hid (US w mp r n D H v0 left cnt Ks c wr)) (fun _ _ wr => wr.rangeLeft mp r)
  case atStart => exact ⟨_, _, _, _, rfl, HU⟩
  case round =>
    rename World => wr
    obtain ⟨v0, left, cnt, Ks, hv, HUS⟩ := hrel
    have hv' := hv.symm
    clear hv
    subst hv'
    have HLL := Lib.hid (show (0 :: Ks).length ≤ 1000000 by have := HUS.out.cn; simp; omega)
    go_wp2_with (first | (at_next; refine wpList_next_ranges _ rfl _ rfl 3 (int_keyed Try.underlying3) recR (Value.int .i64) (fun v : Value => v) (fun key kl hk => has_int (D := D) (H := H) (left := left) key kl hk) (fun v y _ => ⟨v, rfl⟩) mp r n D left cnt rfl HUS.out.rg ?_ ?_) | go_in)
    · intro hc0 hl0
      obtain ⟨g, cap, rfl, hrow⟩ : ∃ g cap, v0 = .slice (some ⟨g, 0, none⟩) (0 :: Ks).length cap ∧ ERow elI wr g cap (0 :: Ks) := by
        rcases HUS.out.fe.own with ⟨_, h9⟩ | h9
        · cases h9
        · exact h9
      have HROW := Lib.hid hrow
      have HL0 := Lib.hid hl0
      clear hrow hl0
      go_wp2_with (go_at_call 34; refine (sort_own HROW.out HLL.out).mono ?_; rintro e w2 ⟨rfl, ho, hg9⟩; have HZ := Lib.hid (HUS.out.fin HH.out HL0.out (g := g) rfl hc ho hg9); clear ho hg9)
      go_ret
      exact HZ.out
    · intro x c9 kl y9 y10 w1 cnt1 hkey hlk hR hat hrg1 hlt hg1 hs1 hen
      obtain ⟨x2, ex, rfl, -⟩ := Maps.keyOf_int_inv Try.underlying3 hkey
      cases ex
      have HF1 := Lib.hid (HUS.out.next hg1 hrg1 hlt)
      have HHI := Lib.hid hat
      have HPU := Lib.hid (fun v2 w3 (o : Obj) hA => HUS.out.push (x := x) (o := o) (v' := v2) (w' := w3) hlk hg1 hrg1 hlt hA)
      clear hkey hlk hR hat hg1 hs1
      go_wp2_with (at_builtin; refine wpList_epush elI_ok rfl (.tmp 17) (.tmp 19) _ rfl HTY.out _ (0 :: Ks) x w1.heap.size 1 rfl rfl (HF1.out.own.below ((Below.refl _ _).alloc (Nat.le_refl _) _)) (new_int w1 _ x) HLL.out ?_; intro v2 w3 hA2; have HP2 := Lib.hid (HPU.out _ _ _ hA2); clear hA2)
      go_roundw
      case rel => exact ⟨_, _, _, _, rfl, HP2⟩
      case measure => rw [HP2.out.rg.left_eq, HUS.out.rg.left_eq]; exact hlt
end Go.Proofs.Ytolbjlphpgfcpaa
