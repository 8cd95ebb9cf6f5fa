/- reply: slices.IndexFunc and ContainsFunc at shapes and events, by contract. -/
import Derived.Test.YtmapcdmegkfheaaZbRe8
namespace Go.Proofs.Ytmapcdmegkfheaa
set_option linter.unusedVariables false
set_option linter.unusedSimpArgs false
open Go.RowKit
theorem ERd.cell {α : Type} {E : El α} {w : World} {A : Option Addr} {n c : Nat} {L : List α} (h : ERd E w (.slice A n c) L) {i : Nat} {x : α} (hx : L[i]? = some x) : ∃ g o, A = some ⟨g, o, none⟩ ∧ ∀ j u, (E.enc x)[j]? = some u → w.cell? ⟨g, o + i * E.k + j, none⟩ = some u := by
  obtain ⟨A', c', e, _, _, h3⟩ := h
  injection e with e1 e2 e3
  subst e1
  exact h3 i x hx
theorem ERd.shape {α : Type} {E : El α} {w : World} {v : Value} {L : List α} (h : ERd E w v L) : ∃ A c, v = .slice A L.length c ∧ L.length ≤ c ∧ c ≤ maxLen := by
  obtain ⟨A, c, e, h1, h2, _⟩ := h
  exact ⟨A, c, e, h1, h2⟩
def elOE : El Evt := { T := 62, k := 4, by_ := 32, z := .agg #[.int .i64 0, .int .i64 0, .int .i64 0, .int .i64 0], enc := fun e => [.int .i64 e.usr, .int .i64 e.op, .int .i64 e.st, .int .i64 e.tick] }
theorem elOE_ok : elOE.Ok := ⟨by decide, fun _ => rfl, fun x u hu => by simp only [elOE, List.mem_cons, List.not_mem_nil, or_false] at hu; rcases hu with rfl | rfl | rfl | rfl <;> rfl, by kernel_rfl, rfl, by decide⟩
theorem elOE_at {w : World} {A : Option Addr} {n c : Nat} {L : List Evt} (h : ERd elOE w (.slice A n c) L) {i : Nat} {x : Evt} (hi : L[i]? = some x) : ∃ g o, A = some ⟨g, o, none⟩ ∧
    w.cell? ⟨g, o + i * 4, none⟩ = some (.int .i64 x.usr) ∧ w.cell? ⟨g, o + i * 4 + 1, none⟩ = some (.int .i64 x.op) ∧ w.cell? ⟨g, o + i * 4 + 2, none⟩ = some (.int .i64 x.st) ∧ w.cell? ⟨g, o + i * 4 + 3, none⟩ = some (.int .i64 x.tick) := by
  obtain ⟨g, o, e, hc⟩ := h.cell hi
  exact ⟨g, o, e, hc 0 _ rfl, hc 1 _ rfl, hc 2 _ rfl, hc 3 _ rfl⟩
def IxelOE (L : List Evt) (w : World) (e : Ending) (w' : World) : Prop := Below w.heap.size w w' ∧ ((e = .returned (.int .i64 (-1)) ∧ L.all evB = true) ∨ ∃ k : Nat, e = .returned (.int .i64 (k : Int)) ∧ L.all evB = false)
set_option maxRecDepth 100000 in
set_option maxHeartbeats 4000000 in
theorem index_elOE (w : World) (v : Value) (L : List Evt) (h : ERd elOE w v L) (hL : L.length ≤ 9223372036854775807) :
    Calls Try.prog 63 #[v, .func (.func 50) #[] #[]] w (IxelOE L w) := by
  obtain ⟨A1, c1, rfl, hc1, hc2⟩ := h.shape
  have HO := Lib.hid h
  clear h
  obtain ⟨n, hn⟩ : ∃ n, n = L.length := ⟨_, rfl⟩
  rw [← hn] at HO hL hc1 ⊢
  have HN := Lib.hid hn; clear hn
  go_enter Try.func63, Try.ntmps63
  go_wp2_with fail
  go_loopw [5, 8] (fun _ i wr => ∃ k : Nat, k ≤ n ∧ i = .int .i64 k ∧ Hid (Below w.heap.size w wr) ∧ Hid ((L.take k).all evB = true)) (fun _ i _ => n - (intOf i).toNat)
  case atStart => exact ⟨0, Nat.zero_le _, rfl, Below.refl _ _, by simp [Hid]⟩
  case round =>
    rename_i wr
    obtain ⟨k, hk, rfl, HW, HK⟩ := hrel
    by_cases hlt : k < n
    · have hkl : k < L.length := by rw [← HN.out]; exact hlt
      have hx : L[k]? = some L[k] := List.getElem?_eq_getElem hkl
      have HT2 := Lib.hid (show (L.take (k + 1)).all evB = ((L.take k).all evB && evB L[k]) by rw [List.take_succ_eq_append_getElem hkl, List.all_append]; simp)
      have HF := Lib.hid (show evB L[k] = false → L.all evB = false from fun h9 => by
        rw [List.all_eq_false]; exact ⟨L[k], List.getElem_mem hkl, by rw [h9]; exact Bool.false_ne_true⟩)
      obtain ⟨g, o, rfl, a0, a1, a2, a3⟩ := elOE_at (HO.out.below HW.out) hx
      have hlt2 : (k : Int) < n := by omega
      have HD := Lib.hid (fun W => wrongEvent_any W L[k])
      generalize L[k] = x at *
      clear hx
      obtain ⟨b, hb⟩ : ∃ b, evB x = b := ⟨_, rfl⟩
      simp only [hb] at HD HT2 HF
      clear hb
      go_wp2_with fail
      refine (HD.out _).mono ?_
      rintro e w2 ⟨rfl, hb2⟩
      have HB2 := Lib.hid (below_trans HW.out hb2)
      clear hb2 a0 a1 a2 a3
      cases b with
      | false =>
        have HI := Lib.hid (HF.out rfl)
        go_wp2
        go_ret
        exact ⟨HB2.out, .inr ⟨k, rfl, HI.out⟩⟩
      | true =>
        have HK2 := Lib.hid (show (L.take (k + 1)).all evB = true by rw [HT2.out, HK.out]; rfl)
        go_wp2
        go_roundw
        case rel => exact ⟨k + 1, by omega, by go_num, HB2, HK2⟩
        case measure => simp [intOf]; omega
    · obtain rfl : k = n := by omega
      have HZ := Lib.hid (show L.all evB = true by have h9 := HK.out; rw [List.take_of_length_le (by rw [← HN.out]; omega)] at h9; exact h9)
      go_wp2
      go_ret
      exact ⟨HW.out, .inl ⟨rfl, HZ.out⟩⟩
set_option maxRecDepth 100000 in
set_option maxHeartbeats 4000000 in
theorem contains_elOE (w : World) (v : Value) (L : List Evt) (h : ERd elOE w v L) (hL : L.length ≤ 9223372036854775807) :
    Calls Try.prog 49 #[v, .func (.func 50) #[] #[]] w fun e w' => e = .returned (.bool (!(L.all evB))) ∧ Below w.heap.size w w' := by
  obtain ⟨A1, c1, rfl, hc1, hc2⟩ := h.shape
  have HX := Lib.hid (fun W (hW : Below w.heap.size w W) => index_elOE W (.slice A1 L.length c1) L (h.below hW) hL)
  clear h
  go_enter Try.func49, Try.ntmps49
  go_wp2_with fail
  refine (HX.out _ (by go_grown)).mono ?_
  rintro e w2 ⟨hb2, h2⟩
  have HB2 := Lib.hid hb2
  rcases h2 with ⟨rfl, hz⟩ | ⟨k, rfl, hz⟩
  · have HZ := Lib.hid hz
    clear hz hb2
    go_wp2
    go_ret
    exact ⟨by rw [HZ.out]; rfl, HB2.out⟩
  · have HZ := Lib.hid hz
    clear hz hb2
    have hk : (0 : Int) ≤ (k : Int) := Int.natCast_nonneg k
    go_wp2
    go_ret
    exact ⟨by rw [HZ.out]; rfl, HB2.out⟩
def elOS : El Snt := { T := 59, k := 6, by_ := 48, z := .agg #[.int .i64 0, .int .i64 0, .int .i64 0, .int .i64 0, .int .i64 0, .int .i64 0], enc := fun e => [.int .i64 e.id, .int .i64 e.lev, .int .i64 e.b0, .int .i64 e.b1, .int .i64 e.b2, .int .i64 e.b3] }
theorem elOS_ok : elOS.Ok := ⟨by decide, fun _ => rfl, fun x u hu => by simp only [elOS, List.mem_cons, List.not_mem_nil, or_false] at hu; rcases hu with rfl | rfl | rfl | rfl | rfl | rfl <;> rfl, by kernel_rfl, rfl, by decide⟩
theorem elOS_at {w : World} {A : Option Addr} {n c : Nat} {L : List Snt} (h : ERd elOS w (.slice A n c) L) {i : Nat} {x : Snt} (hi : L[i]? = some x) : ∃ g o, A = some ⟨g, o, none⟩ ∧
    w.cell? ⟨g, o + i * 6, none⟩ = some (.int .i64 x.id) ∧ w.cell? ⟨g, o + i * 6 + 1, none⟩ = some (.int .i64 x.lev) ∧ w.cell? ⟨g, o + i * 6 + 2, none⟩ = some (.int .i64 x.b0) ∧ w.cell? ⟨g, o + i * 6 + 3, none⟩ = some (.int .i64 x.b1) ∧ w.cell? ⟨g, o + i * 6 + 4, none⟩ = some (.int .i64 x.b2) ∧ w.cell? ⟨g, o + i * 6 + 5, none⟩ = some (.int .i64 x.b3) := by
  obtain ⟨g, o, e, hc⟩ := h.cell hi
  exact ⟨g, o, e, hc 0 _ rfl, hc 1 _ rfl, hc 2 _ rfl, hc 3 _ rfl, hc 4 _ rfl, hc 5 _ rfl⟩
def IxelOS (L : List Snt) (w : World) (e : Ending) (w' : World) : Prop := Below w.heap.size w w' ∧ ((e = .returned (.int .i64 (-1)) ∧ L.all snB = true) ∨ ∃ k : Nat, e = .returned (.int .i64 (k : Int)) ∧ L.all snB = false)
set_option maxRecDepth 100000 in
set_option maxHeartbeats 4000000 in
theorem index_elOS (w : World) (v : Value) (L : List Snt) (h : ERd elOS w v L) (hL : L.length ≤ 9223372036854775807) :
    Calls Try.prog 61 #[v, .func (.func 48) #[] #[]] w (IxelOS L w) := by
  obtain ⟨A1, c1, rfl, hc1, hc2⟩ := h.shape
  have HO := Lib.hid h
  clear h
  obtain ⟨n, hn⟩ : ∃ n, n = L.length := ⟨_, rfl⟩
  rw [← hn] at HO hL hc1 ⊢
  have HN := Lib.hid hn; clear hn
  go_enter Try.func61, Try.ntmps61
  go_wp2_with fail
  go_loopw [5, 8] (fun _ i wr => ∃ k : Nat, k ≤ n ∧ i = .int .i64 k ∧ Hid (Below w.heap.size w wr) ∧ Hid ((L.take k).all snB = true)) (fun _ i _ => n - (intOf i).toNat)
  case atStart => exact ⟨0, Nat.zero_le _, rfl, Below.refl _ _, by simp [Hid]⟩
  case round =>
    rename_i wr
    obtain ⟨k, hk, rfl, HW, HK⟩ := hrel
    by_cases hlt : k < n
    · have hkl : k < L.length := by rw [← HN.out]; exact hlt
      have hx : L[k]? = some L[k] := List.getElem?_eq_getElem hkl
      have HT2 := Lib.hid (show (L.take (k + 1)).all snB = ((L.take k).all snB && snB L[k]) by rw [List.take_succ_eq_append_getElem hkl, List.all_append]; simp)
      have HF := Lib.hid (show snB L[k] = false → L.all snB = false from fun h9 => by
        rw [List.all_eq_false]; exact ⟨L[k], List.getElem_mem hkl, by rw [h9]; exact Bool.false_ne_true⟩)
      obtain ⟨g, o, rfl, a0, a1, a2, a3, a4, a5⟩ := elOS_at (HO.out.below HW.out) hx
      have hlt2 : (k : Int) < n := by omega
      have HD := Lib.hid (fun W => wrongSeen_any W L[k])
      generalize L[k] = x at *
      clear hx
      obtain ⟨b, hb⟩ : ∃ b, snB x = b := ⟨_, rfl⟩
      simp only [hb] at HD HT2 HF
      clear hb
      go_wp2_with fail
      refine (HD.out _).mono ?_
      rintro e w2 ⟨rfl, hb2⟩
      have HB2 := Lib.hid (below_trans HW.out hb2)
      clear hb2 a0 a1 a2 a3 a4 a5
      cases b with
      | false =>
        have HI := Lib.hid (HF.out rfl)
        go_wp2
        go_ret
        exact ⟨HB2.out, .inr ⟨k, rfl, HI.out⟩⟩
      | true =>
        have HK2 := Lib.hid (show (L.take (k + 1)).all snB = true by rw [HT2.out, HK.out]; rfl)
        go_wp2
        go_roundw
        case rel => exact ⟨k + 1, by omega, by go_num, HB2, HK2⟩
        case measure => simp [intOf]; omega
    · obtain rfl : k = n := by omega
      have HZ := Lib.hid (show L.all snB = true by have h9 := HK.out; rw [List.take_of_length_le (by rw [← HN.out]; omega)] at h9; exact h9)
      go_wp2
      go_ret
      exact ⟨HW.out, .inl ⟨rfl, HZ.out⟩⟩
set_option maxRecDepth 100000 in
set_option maxHeartbeats 4000000 in
theorem contains_elOS (w : World) (v : Value) (L : List Snt) (h : ERd elOS w v L) (hL : L.length ≤ 9223372036854775807) :
    Calls Try.prog 47 #[v, .func (.func 48) #[] #[]] w fun e w' => e = .returned (.bool (!(L.all snB))) ∧ Below w.heap.size w w' := by
  obtain ⟨A1, c1, rfl, hc1, hc2⟩ := h.shape
  have HX := Lib.hid (fun W (hW : Below w.heap.size w W) => index_elOS W (.slice A1 L.length c1) L (h.below hW) hL)
  clear h
  go_enter Try.func47, Try.ntmps47
  go_wp2_with fail
  refine (HX.out _ (by go_grown)).mono ?_
  rintro e w2 ⟨hb2, h2⟩
  have HB2 := Lib.hid hb2
  rcases h2 with ⟨rfl, hz⟩ | ⟨k, rfl, hz⟩
  · have HZ := Lib.hid hz
    clear hz hb2
    go_wp2
    go_ret
    exact ⟨by rw [HZ.out]; rfl, HB2.out⟩
  · have HZ := Lib.hid hz
    clear hz hb2
    have hk : (0 : Int) ≤ (k : Int) := Int.natCast_nonneg k
    go_wp2
    go_ret
    exact ⟨by rw [HZ.out]; rfl, HB2.out⟩
end Go.Proofs.Ytmapcdmegkfheaa
