/- The document's Own, Page, Same of events, by contract. -/
import Derived.Test.YtjkkhefdpcpjiaaAu7
namespace Go.Proofs.Ytjkkhefdpcpjiaa
set_option linter.unusedVariables false
set_option linter.unusedSimpArgs false
open Go.RowKit
/-- A row of one's own that was made since w. -/
structure FE {α : Type} (E : El α) (w : World) (v : Value) (L : List α) (wr : World) : Prop where
  own : EOwn E wr v L
  bel : Below w.heap.size w wr
  far : ∀ i, v.ownBlock = some i → w.heap.size ≤ i
theorem FE.nil_ {α : Type} {E : El α} (w wr : World) (h : Below w.heap.size w wr) : FE E w (.slice none 0 0) [] wr := ⟨EOwn.nil_ _, h, fun i hi => by simp [Value.ownBlock] at hi⟩
theorem FE.push {α : Type} {E : El α} {w wr w' : World} {v v' : Value} {L : List α} {x : α} {o : Obj} (h : FE E w v L wr) (ha : EAppended E v (L ++ [x]) (wr.alloc o) v' w') : FE E w v' (L ++ [x]) w' := by
  have hs := h.bel.size
  have hb := ha.below (B := w.heap.size) (by simp; omega) h.far
  exact ⟨ha.own, (h.bel.alloc hs o).trans hb.1, hb.2⟩
theorem FE.below {α : Type} {E : El α} {w wr w' : World} {v : Value} {L : List α} (h : FE E w v L wr) (hb : Below wr.heap.size wr w') : FE E w v L w' := ⟨h.own.below hb, below_trans h.bel hb, h.far⟩
theorem new_e (w : World) (t : TypeId) (x : Ev) : ∀ j u, (elE.enc x)[j]? = some u → (w.alloc (.cells #[.int .i64 x.user, .int .i64 x.op, .int .i64 x.st, .int .i64 x.tick] t)).cell? ⟨w.heap.size, j, none⟩ = some u := fun j u hu => new_cellT _ _ _ j (by simpa [elE] using hu)
set_option maxRecDepth 100000 in
set_option maxHeartbeats 4000000 in
theorem rown_any (w : World) (v : Value) (L : List Ev) (u : Int) (h : ERd elE w v L) (hl : L.length ≤ 1000000) :
    Calls Try.prog 18 #[v, .int .i64 u] w fun e w' => ∃ v', e = .returned v' ∧ FE elE w v' (owns u L) w' := by
  obtain ⟨A1, c1, rfl, -, -⟩ := h.shape
  have HL := Lib.hid h
  clear h
  have HTY := Lib.hid (show Try.prog.underlying 25 = some (.slice elE.T) from Try.underlying25)
  obtain ⟨n, hn⟩ : ∃ n, n = L.length := ⟨_, rfl⟩
  rw [← hn] at HL hl ⊢
  have HN := Lib.hid hn; clear hn
  go_enter Try.func18, Try.ntmps18
  go_wp2_with fail
  go_loopw [5, 6] (fun v i wr => ∃ (k : Nat) (v0 : Value), k ≤ n ∧ v = v0 ∧ i = .int .i64 k ∧ Hid (FE elE w v0 (owns u (L.take k)) wr)) (fun _ i _ => n - (intOf i).toNat)
  case atStart => exact ⟨0, _, Nat.zero_le _, rfl, rfl, by simpa [Hid, owns] using FE.nil_ (E := elE) w w (Below.refl _ _)⟩
  case round =>
    rename World => wr
    obtain ⟨k, v0, hk, hv, rfl, HF⟩ := hrel
    have hv' := hv.symm
    clear hv
    subst hv'
    by_cases hlt : k < n
    · have hkl : k < L.length := by rw [← HN.out]; exact hlt
      have hx : L[k]? = some L[k] := List.getElem?_eq_getElem hkl
      have HHIT := Lib.hid (fun h => owns_hit (u := u) hkl h)
      have HMISS := Lib.hid (fun h => owns_miss (u := u) hkl h)
      have HLE := Lib.hid (show (owns u (L.take k)).length ≤ 1000000 by have := owns_len u (L.take k); rw [List.length_take] at this; omega)
      obtain ⟨g, o, rfl, a0, a1, a2, a3⟩ := (HL.out.below HF.out.bel).four hx
      generalize L[k] = x at *
      clear hx
      obtain ⟨x0, x1, x2, x3⟩ := x
      simp only at a0 a1 a2 a3 HHIT HMISS
      obtain ⟨A5, c5, rfl, -, -⟩ := HF.out.own.slice
      by_cases hu : x0 = u
      · subst hu
        have he : (x0 == x0) = true := by simp
        have HHI := Lib.hid (HHIT.out rfl)
        clear HHIT HMISS
        generalize hFL : owns x0 (L.take k) = FL at *
        have HFL := Lib.hid hFL
        clear hFL
        go_wp2_with ((at_builtin; refine wpList_epush elE_ok rfl (.tmp 20) (.tmp 25) _ rfl HTY.out _ FL ⟨x0, x1, x2, x3⟩ wr.heap.size 1 rfl rfl (HF.out.own.below ((Below.refl _ _).alloc (Nat.le_refl _) _)) (new_e wr _ ⟨x0, x1, x2, x3⟩) HLE.out ?_; intro v2 w3 hA2; have HP2 := Lib.hid (HF.out.push hA2); clear hA2))
        go_roundw
        case rel => exact ⟨k + 1, _, by omega, rfl, by go_num, by have h9 := HP2.out; rw [← HHI.out] at h9; exact h9⟩
        case measure => simp [intOf]; omega
      · have he : (x0 == u) = false := by simpa using hu
        have HMI := Lib.hid (HMISS.out hu)
        clear HHIT HMISS hu
        have HF2 := Lib.hid (show FE elE w _ (owns u (L.take (k + 1))) wr by rw [HMI.out]; exact HF.out)
        clear HF
        go_wp2
        go_roundw
        case rel => exact ⟨k + 1, _, by omega, rfl, by go_num, HF2⟩
        case measure => simp [intOf]; omega
    · obtain rfl : k = n := by omega
      have HZ := Lib.hid (show FE elE w v0 (owns u L) wr by have h9 := HF.out; rw [List.take_of_length_le (by rw [← HN.out]; omega)] at h9; exact h9)
      clear HF
      go_wp2
      go_ret
      exact ⟨_, rfl, HZ.out⟩
set_option maxRecDepth 100000 in
set_option maxHeartbeats 4000000 in
theorem rpage_any (w : World) (v : Value) (L : List Ev) (f m : Int) (h : ERd elE w v L) (hl : L.length ≤ 1000000) (hf : -9223372036854775808 ≤ f ∧ f ≤ 9223372036854775807) (hm : -9223372036854775808 ≤ m ∧ m ≤ 9223372036854775807) :
    Calls Try.prog 13 #[v, .int .i64 f, .int .i64 m] w fun e w' => ∃ v', e = .returned v' ∧ FE elE w v' (pageI L f m) w' := by
  obtain ⟨A1, c1, rfl, -, -⟩ := h.shape
  have HL := Lib.hid h
  clear h
  have HTY := Lib.hid (show Try.prog.underlying 25 = some (.slice elE.T) from Try.underlying25)
  obtain ⟨n, hn⟩ : ∃ n, n = L.length := ⟨_, rfl⟩
  rw [← hn] at HL hl ⊢
  have HN := Lib.hid hn; clear hn
  by_cases hf0 : f < 0
  · have HE := Lib.hid (show pageI L f m = [] from if_pos (.inl hf0))
    go_enter Try.func13, Try.ntmps13
    go_wp2_with fail
    go_loopw [7, 8] (fun v i wr => v = .slice none 0 0 ∧ i = .int .i64 0 ∧ wr = w) (fun _ i _ => 0)
    case atStart => exact ⟨rfl, rfl, rfl⟩
    case round =>
      obtain ⟨rfl, rfl, rfl⟩ := hrel
      by_cases hn0 : 0 < n
      · go_wp2
        go_ret
        exact ⟨_, rfl, by rw [HE.out]; exact FE.nil_ _ _ (Below.refl _ _)⟩
      · obtain rfl : n = 0 := by omega
        go_wp2
        go_ret
        exact ⟨_, rfl, by rw [HE.out]; exact FE.nil_ _ _ (Below.refl _ _)⟩
  · obtain ⟨f, rfl⟩ := Int.eq_ofNat_of_zero_le (show 0 ≤ f by omega)
    obtain ⟨M, hM⟩ : ∃ M, M = m.toNat := ⟨_, rfl⟩
    have HE := Lib.hid (show pageI L f m = pageL L f M by
      unfold pageI
      by_cases h0 : m < 0
      · rw [if_pos (.inr h0), hM, show m.toNat = 0 by omega]; simp [pageL]
      · rw [if_neg (by omega), hM]; simp)
    clear hf0
    have hM2 : ∀ z : Nat, (z < M ↔ (z : Int) < m) := fun z => by omega
    have HM2 := Lib.hid hM2
    clear hM2 hM
    go_enter Try.func13, Try.ntmps13
    go_wp2_with fail
    go_loopw [7, 8] (fun v i wr => ∃ (k : Nat) (v0 : Value), k ≤ n ∧ v = v0 ∧ i = .int .i64 k ∧ Hid (FE elE w v0 (pageL (L.take k) f M) wr)) (fun _ i _ => n - (intOf i).toNat)
    case atStart => exact ⟨0, _, Nat.zero_le _, rfl, rfl, by simpa [Hid, pageL] using FE.nil_ (E := elE) w w (Below.refl _ _)⟩
    case round =>
      rename World => wr
      obtain ⟨k, v0, hk, hv, rfl, HF⟩ := hrel
      have hv' := hv.symm
      clear hv
      subst hv'
      by_cases hlt : k < n
      · have hkl : k < L.length := by rw [← HN.out]; exact hlt
        have hx : L[k]? = some L[k] := List.getElem?_eq_getElem hkl
        have hts : L.take (k + 1) = L.take k ++ [L[k]] := List.take_succ_eq_append_getElem hkl
        have htl : (L.take k).length = k := by rw [List.length_take]; omega
        have hpl := pageL_len (L.take k) f M
        rw [htl] at hpl
        have HPU := Lib.hid (fun h1 h2 => pageL_push (R := L.take k) (f := f) (m := M) L[k] h1 h2)
        have HSK := Lib.hid (fun h1 => pageL_skip (R := L.take k) (f := f) (m := M) L[k] h1)
        have HFU := Lib.hid (fun h1 => pageL_full (R := L.take k) (f := f) (m := M) L[k] h1)
        rw [← hts, htl] at HPU HSK HFU
        have HLE := Lib.hid (show (pageL (L.take k) f M).length ≤ 1000000 by rw [hpl]; omega)
        obtain ⟨g, o, rfl, a0, a1, a2, a3⟩ := (HL.out.below HF.out.bel).four hx
        generalize L[k] = x at *
        clear hx hts htl
        obtain ⟨x0, x1, x2, x3⟩ := x
        simp only at a0 a1 a2 a3 HPU HSK HFU
        obtain ⟨A5, c5, rfl, -, -⟩ := HF.out.own.slice
        generalize hFL : pageL (L.take k) f M = FL at *
        have HFL := Lib.hid hFL
        clear hFL
        generalize hz : FL.length = z at *
        have HZ := Lib.hid hz
        clear hz
        have hz0 := HM2.out z
        by_cases hfk : f ≤ k
        · by_cases hzm : z < M
          · have hzm' : (z : Int) < m := hz0.1 hzm
            have HPL := Lib.hid (HPU.out hfk (by omega))
            clear HPU HSK HFU hz0 hpl
            go_wp2_with ((at_builtin; refine wpList_epush elE_ok rfl (.tmp 28) (.tmp 33) _ rfl HTY.out _ FL ⟨x0, x1, x2, x3⟩ wr.heap.size 1 rfl rfl (HF.out.own.below ((Below.refl _ _).alloc (Nat.le_refl _) _)) (new_e wr _ ⟨x0, x1, x2, x3⟩) (by rw [HZ.out]; exact HLE.out) ?_; intro v2 w3 hA2; have HP2 := Lib.hid (HF.out.push hA2); clear hA2))
            go_roundw
            case rel => exact ⟨k + 1, _, by omega, rfl, by go_num, by have h9 := HP2.out; rw [← HPL.out] at h9; exact h9⟩
            case measure => simp [intOf]; omega
          · have hzm' : m ≤ (z : Int) := by omega
            have HPL := Lib.hid (HFU.out (by omega))
            have HF2 := Lib.hid (show FE elE w _ (pageL (L.take (k + 1)) f M) wr by rw [HPL.out]; exact HF.out)
            clear HPU HSK HFU hz0 hpl HF
            go_wp2
            go_roundw
            case rel => exact ⟨k + 1, _, by omega, rfl, by go_num, HF2⟩
            case measure => simp [intOf]; omega
        · have HPL := Lib.hid (HSK.out (by omega))
          have HF2 := Lib.hid (show FE elE w _ (pageL (L.take (k + 1)) f M) wr by rw [HPL.out]; exact HF.out)
          clear HPU HSK HFU hz0 hpl HF
          go_wp2
          go_roundw
          case rel => exact ⟨k + 1, _, by omega, rfl, by go_num, HF2⟩
          case measure => simp [intOf]; omega
      · obtain rfl : k = n := by omega
        have HZ := Lib.hid (show FE elE w v0 (pageI L f m) wr by rw [HE.out]; have h9 := HF.out; rw [List.take_of_length_le (by rw [← HN.out]; omega)] at h9; exact h9)
        clear HF
        go_wp2
        go_ret
        exact ⟨_, rfl, HZ.out⟩
set_option maxRecDepth 100000 in
set_option maxHeartbeats 4000000 in
theorem rsameE_any (w : World) (u v : Value) (L : List Ev) (h : ERd elE w u L) (h2 : ERd elE w v L) (hl : L.length ≤ 1000000) :
    Calls Try.prog 12 #[u, v] w fun e w' => e = .returned (.bool true) ∧ ∃ q, w' = w.drewN q := by
  obtain ⟨A1, c1, rfl, -, -⟩ := h.shape
  obtain ⟨A2, c2, rfl, -, -⟩ := h2.shape
  have HO := Lib.hid h
  have HP := Lib.hid h2
  clear h h2
  obtain ⟨n, hn⟩ : ∃ n, n = L.length := ⟨_, rfl⟩
  rw [← hn] at HO HP hl ⊢
  have HN := Lib.hid hn; clear hn
  go_enter Try.func12, Try.ntmps12
  go_wp2_with fail
  go_loopw [5] (fun i wr => ∃ k : Nat, k ≤ n ∧ i = .int .i64 k ∧ Hid (∃ q, wr = w.drewN q)) (fun i _ => n - (intOf i).toNat)
  case atStart => exact ⟨0, Nat.zero_le _, rfl, 0, rfl⟩
  case round =>
    rename World => wr
    obtain ⟨k, hk, rfl, HQ⟩ := hrel
    by_cases hlt : k < n
    · have hkl : k < L.length := by rw [← HN.out]; exact hlt
      have hx : L[k]? = some L[k] := List.getElem?_eq_getElem hkl
      have hbw : Below w.heap.size w wr := by obtain ⟨q, rfl⟩ := HQ.out; exact below_drawn (Below.refl _ _) q
      obtain ⟨g, o, rfl, a0, a1, a2, a3⟩ := (HO.out.below hbw).four hx
      obtain ⟨g', o', rfl, b0, b1, b2, b3⟩ := (HP.out.below hbw).four hx
      generalize L[k] = x at *
      clear hx hbw
      obtain ⟨x0, x1, x2, x3⟩ := x
      simp only at a0 a1 a2 a3 b0 b1 b2 b3
      have hlt2 : (k : Int) < n := by omega
      go_upto_region 6 with fail
      have e0 : (x0 == x0) = true := by simp
      have e1 : (x1 == x1) = true := by simp
      have e2 : (x2 == x2) = true := by simp
      have e3 : (x3 == x3) = true := by simp
      go_region
      clear a0 a1 a2 a3 b0 b1 b2 b3
      go_wp2
      go_roundw
      case rel => exact ⟨k + 1, by omega, by go_num, by obtain ⟨q, rfl⟩ := HQ.out; exact ⟨q + 1, rfl⟩⟩
      case measure => simp [intOf]; omega
    · obtain rfl : k = n := by omega
      go_wp2
      go_ret
      exact ⟨rfl, HQ.out⟩
end Go.Proofs.Ytjkkhefdpcpjiaa
