/- queue: Pop, first of *entries; the library's Push and Pop, by contract. -/
import Derived.Test.YtdmmglnpeoeicaaQPush
namespace Go.Proofs.Ytdmmglnpeoeicaa
set_option linter.unusedVariables false
set_option linter.unusedSimpArgs false
open Go.RowKit
theorem elen_any (A : Option Addr) (n c : Nat) (w : World) : Calls Try.prog 64 #[.slice A n c] w fun e w' => e = .returned (.int .i64 (n : Int)) ∧ w = w' := by
  go_enter Try.func64, Try.ntmps64
  go_wp2
  go_ret
  exact ⟨rfl, rfl⟩
theorem at_take {L : List En} {n i : Nat} (h : i < n) : at_ (L.take n) i = at_ L i := by simp [at_, List.getD_eq_getElem?_getD, List.getElem?_take, h]
theorem QRow.take {w : World} {g cap : Nat} {L : List En} (h : QRow w g cap L) (n : Nat) : QRow w g cap (L.take n) := by
  obtain ⟨cur, h1, h2, h3, h4, h5⟩ := h
  refine ⟨cur, h1, h2, by rw [List.length_take]; omega, h4, fun i j hi hj => ?_⟩
  rw [List.length_take] at hi
  rw [at_take (by omega)]
  exact h5 i j (by omega) hj
def PopPost (q g cap : Nat) (x : En) (L' : List En) (w : World) (e : Ending) (w' : World) : Prop :=
  e = .returned (.iface 29 (.agg #[.int .u64 x.1, .int .u64 x.2.1, .int .i64 x.2.2])) ∧ HG w' q g cap L' ∧ Turned q (some g) w w'
set_option maxHeartbeats 2000000 in
theorem epop_any (q g cap n : Nat) (L : List En) (w : World) (h : HG w q g cap L) (hn : L.length = n + 1) (hl : n ≤ 4398046511102) :
    Calls Try.prog 67 #[.pointer (some ⟨q, 0, none⟩)] w fun e w' => PopPost q g cap (at_ L n) (L.take n) w e w' := by
  have k0 := h.cell
  have f0 := h.1.frozen 0
  obtain ⟨c0, c1, c2⟩ := h.2.cell (show n < L.length by omega)
  have hcap : L.length ≤ cap := by obtain ⟨cur, _, _, h3, _⟩ := h.2; exact h3
  have hqq := h.1.lt
  have hgg := h.2.lt
  have hqg := h.ne
  have hnc : (n : Int) ≤ (cap : Int) := by omega
  have hnc2 : n ≤ cap := by omega
  rw [hn] at k0
  have hlt : (L.take n).length = n := by rw [List.length_take]; omega
  have HP : Hid (∀ X : World, Below w.heap.size w X → PopPost q g cap (at_ L n) (L.take n) w (.returned (.iface 29 (.agg #[.int .u64 (at_ L n).1, .int .u64 (at_ L n).2.1, .int .i64 (at_ L n).2.2]))) (X.setCell ⟨q, 0, none⟩ (.slice (some ⟨g, 0, none⟩) n cap))) := by
    refine Lib.hid fun X hb => ⟨rfl, ⟨?_, ?_⟩, ?_⟩
    · rw [hlt]; exact (h.1.below hb hqq).set1 _
    · exact ((h.2.below hb).take n).keep (Below.heap_setCell _ _ _ _ (fun e => hqg e.symm))
    · refine ⟨hb.os, hb.tape, hb.output, by have := hb.size; simpa using this, fun i hi hne _ => ?_⟩
      rw [Below.heap_setCell _ _ _ _ hne]
      exact hb.block i hi
  generalize at_ L n = x at *
  clear h hn hlt
  go_enter Try.func67, Try.ntmps67
  go_wp2
  go_ret
  exact (fun (hp : PopPost q g cap x (L.take n) w _ _) (o : Obj) => (⟨hp.1, hp.2.1.below ((Below.refl _ _).alloc (Nat.le_refl _) o), hp.2.2.trans (Turned.of_below (r := some g) ((Below.refl _ _).alloc (Nat.le_refl _) o)) (.inl rfl)⟩ : PopPost q g cap x (L.take n) w _ _)) (HP.out w (Below.refl _ _)) _
set_option maxHeartbeats 1000000 in
theorem first_any (q g cap : Nat) (L : List En) (w : World) (h : HG w q g cap L) (h0 : 0 < L.length) (hl : L.length ≤ 4398046511103) :
    Calls Try.prog 22 #[.pointer (some ⟨q, 0, none⟩)] w fun e w' => e = .returned (.iface 29 (.agg #[.int .u64 (at_ L 0).1, .int .u64 (at_ L 0).2.1, .int .i64 (at_ L 0).2.2])) ∧ w = w' := by
  have k0 := h.cell
  obtain ⟨c0, c1, c2⟩ := h.2.cell h0
  rw [Nat.zero_mul] at c0 c1 c2
  have h0i : (0 : Int) < (L.length : Int) := by omega
  generalize at_ L 0 = x at *
  clear h
  go_enter Try.func22, Try.ntmps22
  go_wp2
  go_ret
  exact ⟨rfl, rfl⟩
/-- The queue at q as the heap has it. -/
def QQ (w : World) (q : Nat) (v : Value) (L : List En) : Prop := Blk w q 48 #[v] ∧ QOwn w v L ∧ HeapTo L.length L
def HPushPost (q : Nat) (v : Value) (x : En) (L : List En) (w : World) (e : Ending) (w' : World) : Prop :=
  e = .returned (.tuple #[]) ∧ ∃ g cap L', HG w' q g cap L' ∧ HeapTo L'.length L' ∧ L'.Perm (x :: L) ∧ Turned q v.ownBlock w w' ∧ (v.ownBlock = some g ∨ w.heap.size ≤ g)
set_option maxHeartbeats 2000000 in
theorem hpush_any (q : Nat) (v : Value) (L : List En) (x : En) (w : World) (h : QQ w q v L) (hl : L.length ≤ 4398046511102) :
    Calls Try.prog 23 #[.iface 52 (.pointer (some ⟨q, 0, none⟩)), .iface 29 (.agg #[.int .u64 x.1, .int .u64 x.2.1, .int .i64 x.2.2])] w fun e w' => HPushPost q v x L w e w' := by
  have H1 := Lib.hid (epush_any q v L x w h.1 h.2.1 hl)
  have HU := Lib.hid (UpInv.push h.2.2 x)
  have hm := fun F w => meth_push F ⟨q, 0, none⟩ w
  have hll : ((L ++ [x]).length : Int) - 1 = (L.length : Int) := by simp
  have hlp : (1 : Int) ≤ ((L ++ [x]).length : Int) := by simp; omega
  have hlm : ((L ++ [x]).length : Int) ≤ 4398046511103 := by simp; omega
  have hln : (L ++ [x]).length ≤ 4611686018427387904 := by simp; omega
  have HPM := Lib.hid (show (L ++ [x]).Perm (x :: L) from List.perm_append_comm)
  clear h
  generalize L ++ [x] = M at *
  go_enter Try.func23, Try.ntmps23
  go_wp2_with fail
  refine H1.out.mono ?_
  rintro e w1 ⟨rfl, g, cap, hg, ht, ho⟩
  have HG1 := Lib.hid hg; have HT1 := Lib.hid ht; have HO1 := Lib.hid ho
  clear hg ht ho hm
  have hm := fun F => meth_len F q w1 _ HG1.out.cell
  go_wp2_with fail
  refine (elen_any _ _ _ _).mono ?_
  rintro e w2 ⟨rfl, rfl⟩
  go_wp2_with fail
  refine (up_any q g cap M w1 L.length HG1.out HU.out hln).mono ?_
  rintro e w3 ⟨rfl, L', hp, hh, hg3, ht3⟩
  have HF := Lib.hid (show HPushPost q v x L w (.returned (.tuple #[])) w3 from ⟨rfl, g, cap, L', hg3, hh, hp.trans HPM.out, HT1.out.trans ht3 (by
    rcases HO1.out with h | h
    · exact .inl h.symm
    · exact .inr fun i hi e => by simp at e; omega), HO1.out⟩)
  clear hp hh hg3 ht3 hm
  go_wp2
  go_end0
  exact HF.out
def HPopPost (q g cap : Nat) (L : List En) (w : World) (e : Ending) (w' : World) : Prop :=
  e = .returned (.iface 29 (.agg #[.int .u64 (at_ L 0).1, .int .u64 (at_ L 0).2.1, .int .i64 (at_ L 0).2.2])) ∧ ∃ L', HG w' q g cap L' ∧ HeapTo L'.length L' ∧ (at_ L 0 :: L').Perm L ∧ Turned q (some g) w w'
theorem heap_take {n : Nat} {L : List En} (h : HeapTo n L) (hl : L.length = n + 1) : HeapTo (L.take n).length (L.take n) := fun k k0 hk => by
  rw [List.length_take] at hk
  rw [at_take (by omega), at_take (by omega)]
  exact h k k0 (by omega)
theorem take_perm {n : Nat} {L : List En} (hl : L.length = n + 1) : (at_ L n :: L.take n).Perm L := by
  have e : L = L.take n ++ [at_ L n] := by
    have h1 : L.take (n + 1) = L := List.take_of_length_le (by omega)
    have h2 : n < L.length := by omega
    rw [List.take_add_one, get?_at h2] at h1
    simpa using h1.symm
  have : (at_ L n :: L.take n).Perm (L.take n ++ [at_ L n]) := (List.perm_append_comm (l₁ := [at_ L n]) (l₂ := L.take n))
  rw [← e] at this
  exact this
set_option maxHeartbeats 2000000 in
theorem hpop_any (q g cap n : Nat) (L : List En) (w : World) (h : HG w q g cap L) (hh : HeapTo L.length L) (hn : L.length = n + 1) (hl : n ≤ 4398046511102) :
    Calls Try.prog 28 #[.iface 52 (.pointer (some ⟨q, 0, none⟩))] w fun e w' => HPopPost q g cap L w e w' := by
  have hm := fun F => meth_len F q w _ h.cell
  have hms := fun F => meth_swap F q w _ h.cell
  have hmp := fun F w => meth_pop F ⟨q, 0, none⟩ w
  have hsw := eswap_any g cap 0 n L w h.2 (by omega) (by omega)
  rw [hn] at hh hsw
  have HDI := Lib.hid (DownInv.pop hh (show n < L.length by omega))
  have hcast : ((L.length : Nat) : Int) - 1 = (n : Int) := by omega
  have hl1 : (1 : Int) ≤ (L.length : Int) := by omega
  have hl2 : (L.length : Int) ≤ 4398046511103 := by omega
  have HSW := Lib.hid hsw; have HH := Lib.hid h; have HN := Lib.hid hn
  have HAN := Lib.hid (show at_ (sw L 0 n) n = at_ L 0 by rw [at_sw (by omega) (by omega), if_pos rfl])
  clear hsw h hh hn
  rw [show L.length = n + 1 from HN.out] at hm hms
  have hcast2 : (((n + 1 : Nat)) : Int) - 1 = (n : Int) := by omega
  go_enter Try.func28, Try.ntmps28
  go_wp2_with fail
  refine (elen_any _ _ _ _).mono ?_
  rintro e w2 ⟨rfl, hw2⟩
  subst hw2
  go_wp2_with fail
  refine HSW.out.mono ?_
  rintro e w3 ⟨rfl, hq3, hg3⟩
  have HG3 := Lib.hid (HH.out.swapped (sw_length L 0 n) hq3 hg3)
  have HT3 := Lib.hid (Turned.of_grown (q := q) hg3)
  clear hq3 hg3 hm hms
  go_wp2_with fail
  refine (down_any q g cap n (sw L 0 n) w3 HG3.out HDI.out (by rw [sw_length]; have := HN.out; omega) (by rw [sw_length]; have := HN.out; omega)).mono ?_
  rintro e w4 ⟨b, L', rfl, hp, hat, hh, hg4, ht4⟩
  have hl4 : L'.length = n + 1 := by rw [hp.length_eq, sw_length]; exact HN.out
  have HEP := Lib.hid (epop_any q g cap n L' w4 hg4 hl4 hl)
  have hx : at_ L' n = at_ L 0 := by rw [hat n (Nat.le_refl _)]; exact HAN.out
  have HFIN := Lib.hid (show ∀ e' w', PopPost q g cap (at_ L' n) (L'.take n) w4 e' w' → HPopPost q g cap L w e' w' from fun e' w' ⟨h1, h2, h3⟩ => by
    rw [hx] at h1
    refine ⟨h1, _, h2, heap_take hh hl4, ?_, (HT3.out.trans ht4 (.inl rfl)).trans h3 (.inl rfl)⟩
    have := take_perm hl4
    rw [hx] at this
    exact (this.trans hp).trans (sw_perm (by have := HN.out; omega) (by have := HN.out; omega)))
  clear hp hat hh hg4 ht4 hl4 hx
  go_wp2_with fail
  refine HEP.out.mono ?_
  rintro e w5 hpost
  have HF := Lib.hid (HFIN.out _ _ hpost)
  obtain ⟨rfl, _⟩ := hpost
  go_wp2
  go_ret
  exact HF.out
set_option maxHeartbeats 1000000 in
theorem takeFirst_any (q g cap n : Nat) (L : List En) (w : World) (h : HG w q g cap L) (hh : HeapTo L.length L) (hn : L.length = n + 1) (hl : n ≤ 4398046511102) :
    Calls Try.prog 24 #[.pointer (some ⟨q, 0, none⟩)] w fun e w' => HPopPost q g cap L w e w' := by
  have H := Lib.hid (hpop_any q g cap n L w h hh hn hl)
  clear h hh hn
  go_enter Try.func24, Try.ntmps24
  go_wp2_with fail
  refine H.out.mono ?_
  rintro e w5 hpost
  have HF := Lib.hid hpost
  obtain ⟨rfl, _⟩ := hpost
  go_wp2
  go_ret
  exact HF.out
end Go.Proofs.Ytdmmglnpeoeicaa
