/- audit: known, filled by contract. -/
import Derived.Test.YtjkkhefdpcpjiaaAu8
namespace Go.Proofs.Ytjkkhefdpcpjiaa
set_option linter.unusedVariables false
set_option linter.unusedSimpArgs false
open Go.RowKit
theorem AS.keepRow {y : Nat} {v v' : Value} {w w' : World} {H : List Ev} {n p : Nat} (h : AS y v w v' H n p w') {v2 : Value} {L : List Ev} (hO : EOwn elE w v2 L) (hne : ∀ i, v2.ownBlock = some i → i ≠ y ∧ v.ownBlock ≠ some i) : EOwn elE w' v2 L :=
  hO.keep fun i hi e => h.ke.block i hi (hne i e).1 (hne i e).2
theorem AS.apart {y : Nat} {v v' : Value} {w w' : World} {H : List Ev} {n p : Nat} (h : AS y v w v' H n p w') {i : Nat} (hi : i < w.heap.size) (hn : v.ownBlock ≠ some i) : v'.ownBlock ≠ some i := fun e => by
  rcases h.far i e with h1 | h1
  · exact hn h1
  · omega
theorem KeT.bel {y : Nat} {v : Value} {w0 w w' : World} (h : KeT y v w w') (hb : Below w0.heap.size w0 w) (hy : w0.heap.size ≤ y) (hv : ∀ i, v.ownBlock = some i → w0.heap.size ≤ i) : Below w0.heap.size w0 w' :=
  ⟨h.os.trans hb.os, h.tape.trans hb.tape, h.output.trans hb.output, Nat.le_trans hb.size h.size, fun i hi => (h.block i (Nat.lt_of_lt_of_le hi hb.size) (by omega) (fun e => by have := hv i e; omega)).trans (hb.block i hi)⟩
theorem AS.farB {y B : Nat} {v v' : Value} {w w' : World} {H : List Ev} {n p : Nat} (h : AS y v w v' H n p w') (hB : B ≤ w.heap.size) (hv : ∀ i, v.ownBlock = some i → B ≤ i) : ∀ i, v'.ownBlock = some i → B ≤ i := fun i e => by
  rcases h.far i e with h1 | h1
  · exact hv i h1
  · omega
set_option maxRecDepth 100000 in
set_option maxHeartbeats 8000000 in
theorem aknown_any (w : World) : Calls Try.prog 19 #[] w fun e w' => e = .returned (.bool true) ∧ Below w.heap.size w w' := by
  go_enter Try.func19, Try.ntmps19
  go_wp2_with fail
  refine (anew_any _).mono ?_
  rintro e w1 ⟨rfl, hT, hb⟩
  have HB := Lib.hid hb
  have HT := Lib.hid hT
  clear hT hb
  obtain ⟨y, hy⟩ : ∃ y, w.heap.size = y := ⟨_, rfl⟩
  have HY := Lib.hid (show w.heap.size ≤ y by omega)
  rw [hy] at HT ⊢
  clear hy
  go_wp2_with fail
  refine (ev_any _ _ _).mono ?_
  rintro e w2 ⟨rfl, hb⟩
  have HB2 := Lib.hid (below_trans HB.out hb)
  have HT2 := Lib.hid (HT.out.below hb)
  clear hb HB HT
  go_wp2_with fail
  refine (aput_any _ y _ _ 0 0 ⟨1, 8, 0, 0⟩ HT2.out (by simp)).mono ?_
  rintro e w3 ⟨v3, rfl, hA⟩
  have HB3 := Lib.hid (hA.ke.bel HB2.out HY.out (fun i hi => by simp [Value.ownBlock] at hi))
  have HF3 := Lib.hid (hA.farB HB2.out.size (fun i hi => by simp [Value.ownBlock] at hi))
  have HT3 := Lib.hid hA.tr
  clear hA HB2 HT2
  go_wp2_with fail
  refine (ev_any _ _ _).mono ?_
  rintro e w4 ⟨rfl, hb⟩
  have HB4 := Lib.hid (below_trans HB3.out hb)
  have HT4 := Lib.hid (HT3.out.below hb)
  clear hb HB3 HT3
  go_wp2_with fail
  refine (aput_any _ y _ _ 0 0 ⟨2, 8, 0, 0⟩ HT4.out (by simp)).mono ?_
  rintro e w5 ⟨v5, rfl, hA⟩
  have HB5 := Lib.hid (hA.ke.bel HB4.out HY.out HF3.out)
  have HF5 := Lib.hid (hA.farB HB4.out.size HF3.out)
  have HT5 := Lib.hid hA.tr
  clear hA HB4 HT4 HF3
  go_wp2_with fail
  refine (ev_any _ _ _).mono ?_
  rintro e w6 ⟨rfl, hb⟩
  have HB6 := Lib.hid (below_trans HB5.out hb)
  have HT6 := Lib.hid (HT5.out.below hb)
  clear hb HB5 HT5
  go_wp2_with fail
  refine (aput_any _ y _ _ 0 0 ⟨1, 9, 0, 0⟩ HT6.out (by simp)).mono ?_
  rintro e w7 ⟨v7, rfl, hA⟩
  have HB7 := Lib.hid (hA.ke.bel HB6.out HY.out HF5.out)
  have HF7 := Lib.hid (hA.farB HB6.out.size HF5.out)
  have HT7 := Lib.hid hA.tr
  clear hA HB6 HT6 HF5
  have HOW := Lib.hid (aown_any w7 y v7 _ 0 0 1 1 9 HT7.out (by simp) (by decide) (by decide))
  have hpg : pageI (owns 1 (List.drop 0 ([] ++ [(⟨1, 8, 0, 0⟩ : Ev)] ++ [(⟨2, 8, 0, 0⟩ : Ev)] ++ [(⟨1, 9, 0, 0⟩ : Ev)]))) 1 9 = [⟨1, 9, 0, 0⟩] := by decide
  rw [hpg] at HOW
  clear hpg
  go_wp2_with fail
  refine HOW.out.mono ?_
  rintro e w8 ⟨a, rfl, hO, hF, hb⟩
  have HB8 := Lib.hid (below_trans HB7.out hb)
  have HT8 := Lib.hid (HT7.out.below hb)
  have HO8 := Lib.hid hO
  have HFA := Lib.hid (show ∀ i, a.ownBlock = some i → i ≠ y ∧ v7.ownBlock ≠ some i from fun i hi => ⟨fun e => by have := hF i hi; have := HT7.out.blk.lt; omega, fun e => by have := hF i hi; have := HT7.out.own.lt e; omega⟩)
  clear hO hF hb HB7 HT7 HOW
  have HDR := Lib.hid (drain_any w8 y v7 _ 0 0 2 HT8.out (by simp))
  obtain ⟨A8, c8, e8, -, -⟩ := HO8.out.slice
  have HA8 := Lib.hid e8
  subst e8
  simp only [List.length_cons, List.length_nil, Nat.zero_add] at HO8 HFA ⊢
  go_wp2_with fail
  refine HDR.out.mono ?_
  rintro e w9 ⟨b, v9, H9, n9, rfl, hO, hF, hA, hd, hl, hap⟩
  have hdn : drN (([] ++ [(⟨1, 8, 0, 0⟩ : Ev)] ++ [(⟨2, 8, 0, 0⟩ : Ev)] ++ [(⟨1, 9, 0, 0⟩ : Ev)]).length - 0) 2 = 2 := by decide
  rw [hdn] at hO hA hd
  have hd' : H9.drop n9 = [(⟨1, 9, 0, 0⟩ : Ev)] := by rw [hd]; decide
  have HO9 := Lib.hid (hA.keepRow HO8.out HFA.out)
  have HB9 := Lib.hid (hA.ke.bel HB8.out HY.out HF7.out)
  have HT9 := Lib.hid hA.tr
  have HD9 := Lib.hid hd'
  have hHl : H9.length ≤ 1000000 := by simp at hl; omega
  have HL9 := Lib.hid hHl
  have hlb : ∃ A c, b = .slice A 2 c := by
    obtain ⟨A, c, e, _, _⟩ := hO.slice
    exact ⟨A, c, e⟩
  obtain ⟨Ab, cb, rfl⟩ := hlb
  clear hO hF hA hd hl hap hd' hHl hdn HB8 HT8 HO8 HFA HDR HF7
  go_wp2_with fail
  refine (ev_any _ _ _).mono ?_
  rintro e w10 ⟨rfl, hb⟩
  have HB10 := Lib.hid (below_trans HB9.out hb)
  have HT10 := Lib.hid (HT9.out.below hb)
  have HO10 := Lib.hid (HO9.out.below hb)
  clear hb HB9 HT9 HO9
  have HN10 := Lib.hid (ERd.of_own elE_ok (EOwn.block elE_ok (M := [(⟨1, 9, 0, 0⟩ : Ev)]) (Blk.new w10 elE.T #[.int .i64 1, .int .i64 9, .int .i64 0, .int .i64 0]) rfl (by simp)))
  have hal : Below w10.heap.size w10 (w10.alloc (.cells #[.int .i64 1, .int .i64 9, .int .i64 0, .int .i64 0] 27)) := (Below.refl _ _).alloc (Nat.le_refl _) _
  have HAL := Lib.hid hal
  clear hal
  have HSA := Lib.hid (rsameE_any _ _ _ _ ((ERd.of_own elE_ok HO10.out).below HAL.out) HN10.out (by simp))
  go_wp2_with fail
  refine HSA.out.mono ?_
  rintro e w11 ⟨rfl, q, rfl⟩
  have hb11 : Below w10.heap.size w10 ((w10.alloc (.cells #[.int .i64 1, .int .i64 9, .int .i64 0, .int .i64 0] 27)).drewN q) := below_drawn HAL.out q
  have HB11 := Lib.hid (below_trans HB10.out hb11)
  have HT11 := Lib.hid (HT10.out.below hb11)
  have HO11 := Lib.hid (HO10.out.below hb11)
  clear hb11 HSA HN10 HAL HB10 HT10 HO10
  generalize (w10.alloc (.cells #[.int .i64 1, .int .i64 9, .int .i64 0, .int .i64 0] 27)).drewN q = w11 at *
  have HOW := Lib.hid (aown_any w11 y v9 _ n9 _ 1 0 9 HT11.out HL9.out (by decide) (by decide))
  rw [HD9.out] at HOW
  have hpg : pageI (owns 1 [(⟨1, 9, 0, 0⟩ : Ev)]) 0 9 = [⟨1, 9, 0, 0⟩] := by decide
  rw [hpg] at HOW
  clear hpg
  go_wp2_with fail
  refine HOW.out.mono ?_
  rintro e w12 ⟨a2, rfl, hO, hF, hb⟩
  have HB12 := Lib.hid (below_trans HB11.out hb)
  have HT12 := Lib.hid (HT11.out.below hb)
  have HO12 := Lib.hid (HO11.out.below hb)
  have HP12 := Lib.hid hO
  obtain ⟨A12, c12, rfl, -, -⟩ := HP12.out.slice
  simp only [List.length_cons, List.length_nil, Nat.zero_add] at HP12 ⊢
  clear hO hF hb HB11 HT11 HO11 HOW
  have HSA := Lib.hid (rsameE_any w12 _ _ _ (ERd.of_own elE_ok HP12.out) (ERd.of_own elE_ok HO12.out) (by simp))
  go_wp2_with fail
  refine HSA.out.mono ?_
  rintro e w13 ⟨rfl, q, rfl⟩
  have HB13 := Lib.hid (below_drawn HB12.out q)
  have HT13 := Lib.hid (HT12.out.drewN q)
  clear HSA HB12 HT12 HO12 HP12
  generalize w12.drewN q = w13 at *
  go_wp2_with fail
  refine (apast_any w13 y v9 _ n9 _ HT13.out).mono ?_
  rintro e w14 ⟨rfl, hw⟩
  subst hw
  have HLE := Lib.hid (alen_any w13 y v9 _ n9 _ HT13.out)
  have hlen : H9.length - n9 = 1 := by have := congrArg List.length HD9.out; simpa using this
  rw [hlen] at HLE
  have hp2 : ((min (0 + 2) 4611686018427387903 : Nat) : Int) = 2 := by decide
  rw [hp2]
  go_wp2_with fail
  refine HLE.out.mono ?_
  rintro e w15 ⟨rfl, q2, rfl⟩
  go_wp2
  go_ret
  exact ⟨rfl, below_drawn HB13.out q2⟩
end Go.Proofs.Ytjkkhefdpcpjiaa
