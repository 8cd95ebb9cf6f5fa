/- The document's New, Find, Without, Put, Spend, Same of members, by contract. -/
import Derived.Test.YtolbjlphpgfcpaaRoR
namespace Go.Proofs.Ytolbjlphpgfcpaa
set_option linter.unusedVariables false
set_option linter.unusedSimpArgs false
open Go.RowKit
def elM : El Mb := { T := 34, k := 6, by_ := 48, z := Mb.zero.V, enc := fun m => [.int .i64 m.user, .int .i64 m.role, .int .i64 m.tier, .int .i64 m.quota, .int .i64 m.k, .int .u64 m.area] }
theorem elM_ok : elM.Ok := ⟨by decide, fun _ => rfl, fun x u hu => by simp only [elM, List.mem_cons, List.not_mem_nil, or_false] at hu; rcases hu with rfl | rfl | rfl | rfl | rfl | rfl <;> rfl, by kernel_rfl, rfl, by decide⟩
theorem new_cellT (w : World) (cs : Array Value) (t : TypeId) (i : Nat) {v : Value} (h : cs[i]? = some v) : (w.alloc (.cells cs t)).cell? ⟨w.heap.size, i, none⟩ = some v := by rw [(Blk.new w t cs).cell]; exact h
theorem new_m (w : World) (t : TypeId) (x : Mb) : ∀ j u, (elM.enc x)[j]? = some u → (w.alloc (.cells #[.int .i64 x.user, .int .i64 x.role, .int .i64 x.tier, .int .i64 x.quota, .int .i64 x.k, .int .u64 x.area] t)).cell? ⟨w.heap.size, j, none⟩ = some u := fun j u hu => new_cellT _ _ _ j (by simpa [elM] using hu)
theorem ERd.sixm {w : World} {A : Option Addr} {n c : Nat} {L : List Mb} (h : ERd elM w (.slice A n c) L) {i : Nat} {x : Mb} (hi : L[i]? = some x) : ∃ g o, A = some ⟨g, o, none⟩ ∧ g < w.heap.size ∧
    w.cell? ⟨g, o + i * 6, none⟩ = some (.int .i64 x.user) ∧ w.cell? ⟨g, o + i * 6 + 1, none⟩ = some (.int .i64 x.role) ∧ w.cell? ⟨g, o + i * 6 + 2, none⟩ = some (.int .i64 x.tier) ∧ w.cell? ⟨g, o + i * 6 + 3, none⟩ = some (.int .i64 x.quota) ∧ w.cell? ⟨g, o + i * 6 + 4, none⟩ = some (.int .i64 x.k) ∧ w.cell? ⟨g, o + i * 6 + 5, none⟩ = some (.int .u64 x.area) := by
  obtain ⟨A', c', e, h1, h2, h3⟩ := h
  injection e with e1 e2 e3
  subst e1
  obtain ⟨g, o, rfl, hc⟩ := h3 i x hi
  exact ⟨g, o, rfl, World.block_lt_of_cell? w _ (hc 0 _ rfl), hc 0 _ rfl, hc 1 _ rfl, hc 2 _ rfl, hc 3 _ rfl, hc 4 _ rfl, hc 5 _ rfl⟩
/-- A row of one's own that was made since w. -/
structure FE {α : Type} (E : El α) (w : World) (v : Value) (L : List α) (wr : World) : Prop where
  own : EOwn E wr v L
  bel : Below w.heap.size w wr
  far : ∀ i, v.ownBlock = some i → w.heap.size ≤ i
theorem FE.nil_ {α : Type} {E : El α} (w wr : World) (h : Below w.heap.size w wr) : FE E w (.slice none 0 0) [] wr := ⟨EOwn.nil_ _, h, fun i hi => by simp [Value.ownBlock] at hi⟩
theorem FE.push {α : Type} {E : El α} {w wr w' : World} {v v' : Value} {L : List α} {x : α} {o : Obj} (h : FE E w v L wr) (ha : EAppended E v (L ++ [x]) (wr.alloc o) v' w') : FE E w v' (L ++ [x]) w' := by
  have hs := h.bel.size
  have hb := ha.below (B := w.heap.size) (by simp; omega) h.far
  exact ⟨ha.own, (h.bel.alloc hs o).trans hb.1, hb.2⟩
theorem FE.below {α : Type} {E : El α} {w wr w' : World} {v : Value} {L : List α} (h : FE E w v L wr) (hb : Below wr.heap.size wr w') : FE E w v L w' := ⟨h.own.below hb, below_trans h.bel hb, h.far⟩
set_option maxHeartbeats 2000000 in
theorem refnew_any (w : World) : Calls Try.prog 8 #[] w fun e w' => ∃ v, e = .returned v ∧ FE elM w v [Mb.first] w' := by
  go_enter Try.func8, Try.ntmps8
  go_wp2
  go_ret
  exact ⟨_, rfl, ⟨EOwn.block elM_ok (M := [Mb.first]) (Blk.new w elM.T #[.int .i64 0, .int .i64 0, .int .i64 0, .int .i64 65535, .int .i64 0, .int .u64 0]) rfl (by simp), (Below.refl _ _).alloc (Nat.le_refl _) _, fun i hi => by simp [Value.ownBlock] at hi; omega⟩⟩
set_option maxRecDepth 100000 in
set_option maxHeartbeats 4000000 in
theorem reffind_any (w : World) (v : Value) (L : List Mb) (u : Int) (h : ERd elM w v L) (hl : L.length ≤ 1000000) :
    Calls Try.prog 12 #[v, .int .i64 u] w fun e w' => e = .returned (.tuple #[((rfO L u).getD Mb.zero).V, .bool (rfO L u).isSome]) ∧ Below w.heap.size w w' := by
  obtain ⟨A1, c1, rfl, -, -⟩ := h.shape
  have HL := Lib.hid h
  clear h
  obtain ⟨n, hn⟩ : ∃ n, n = L.length := ⟨_, rfl⟩
  rw [← hn] at HL hl ⊢
  have HN := Lib.hid hn; clear hn
  have HNO := Lib.hid (fun h => rfO_none (L := L) (u := u) h)
  have HHI := Lib.hid (fun k hk h he => rfO_hit (L := L) (u := u) (k := k) hk h he)
  obtain ⟨rf, hrf⟩ : ∃ rf, rfO L u = rf := ⟨_, rfl⟩
  rw [hrf] at HNO HHI ⊢
  clear hrf
  have HB := Lib.hid (show Below w.heap.size w (w.alloc (.cells #[.int .i64 0, .int .i64 0, .int .i64 0, .int .i64 0, .int .i64 0, .int .u64 0] 34)) from (Below.refl _ _).alloc (Nat.le_refl _) _)
  go_enter Try.func12, Try.ntmps12
  go_wp2_with fail
  go_loopw [6] (fun i wr => ∃ k : Nat, k ≤ n ∧ i = .int .i64 k ∧ Hid (∀ x ∈ L.take k, x.user ≠ u) ∧ wr = w.alloc (.cells #[.int .i64 0, .int .i64 0, .int .i64 0, .int .i64 0, .int .i64 0, .int .u64 0] 34)) (fun i _ => n - (intOf i).toNat)
  case atStart => exact ⟨0, Nat.zero_le _, rfl, fun x hx => by simp at hx, rfl⟩
  case round =>
    obtain ⟨k, hk, rfl, HF, rfl⟩ := hrel
    by_cases hlt : k < n
    · have hkl : k < L.length := by rw [← HN.out]; exact hlt
      have hx : L[k]? = some L[k] := List.getElem?_eq_getElem hkl
      have HT := Lib.hid (show L.take (k + 1) = L.take k ++ [L[k]] from List.take_succ_eq_append_getElem hkl)
      have HI := Lib.hid (fun he => HHI.out k hkl HF.out he)
      obtain ⟨g, o, rfl, hg, a0, a1, a2, a3, a4, a5⟩ := (HL.out.below HB.out).sixm hx
      obtain ⟨g', o', e', hg', _, _, _, _, _, _⟩ := HL.out.sixm hx
      simp only [Option.some.injEq, Addr.mk.injEq, and_true] at e'
      obtain ⟨rfl, rfl⟩ := e'
      have hgw : g ≠ w.heap.size := by omega
      generalize L[k] = x at *
      clear hx
      obtain ⟨x0, x1, x2, x3, x4, x5⟩ := x
      simp only at a0 a1 a2 a3 a4 a5 HI HT
      by_cases hu : x0 = u
      · subst hu
        have he : (x0 == x0) = true := by simp
        have HR := Lib.hid (HI.out rfl)
        clear HT HI HHI HNO
        go_wp2
        rw [HR.out]
        exact bodyPost_ret (v := .tuple #[Mb.V ⟨x0, x1, x2, x3, x4, x5⟩, .bool true]) (by simp [results, Try.results12, go_sem]) rfl ⟨rfl, by go_grown⟩
      · have he : (x0 == u) = false := by simpa using hu
        have HF2 := Lib.hid (show ∀ x ∈ L.take (k + 1), x.user ≠ u from fun x hx => by
          rw [HT.out] at hx
          rcases List.mem_append.1 hx with h1 | h1
          · exact HF.out x h1
          · rw [List.mem_singleton.1 h1]; exact hu)
        clear HT HI HF hu
        go_wp2
        go_roundw
        case rel => exact ⟨k + 1, by omega, by go_num, HF2, by first | rfl | trivial⟩
        case measure => simp [intOf]; omega
    · obtain rfl : k = n := by omega
      have HR := Lib.hid (HNO.out (by have h9 := HF.out; rw [List.take_of_length_le (by rw [← HN.out]; omega)] at h9; exact h9))
      clear HNO HHI
      go_wp2
      rw [HR.out]
      exact bodyPost_ret (v := .tuple #[Mb.zero.V, .bool false]) (by simp [results, Try.results12, go_sem, Mb.zero]) rfl ⟨rfl, by go_grown⟩
theorem woM_take {L : List Mb} {u : Int} {k : Nat} (hk : k < L.length) : woM (L.take (k + 1)) u = if L[k].user = u then woM (L.take k) u else woM (L.take k) u ++ [L[k]] := by
  unfold woM
  rw [List.take_succ_eq_append_getElem hk, List.filter_append]
  by_cases h : L[k].user = u
  · rw [if_pos h]; simp [List.filter_cons, h]
  · rw [if_neg h]; simp [List.filter_cons, h]
theorem woM_le (L : List Mb) (u : Int) : (woM L u).length ≤ L.length := List.length_filter_le _ _
set_option maxRecDepth 100000 in
set_option maxHeartbeats 4000000 in
theorem refwithout_any (w : World) (v : Value) (L : List Mb) (u : Int) (h : ERd elM w v L) (hl : L.length ≤ 1000000) :
    Calls Try.prog 23 #[v, .int .i64 u] w fun e w' => ∃ v', e = .returned v' ∧ FE elM w v' (woM L u) w' := by
  obtain ⟨A1, c1, rfl, -, -⟩ := h.shape
  have HL := Lib.hid h
  clear h
  have HTY := Lib.hid (show Try.prog.underlying 25 = some (.slice elM.T) from Try.underlying25)
  obtain ⟨n, hn⟩ : ∃ n, n = L.length := ⟨_, rfl⟩
  rw [← hn] at HL hl ⊢
  have HN := Lib.hid hn; clear hn
  go_enter Try.func23, Try.ntmps23
  go_wp2_with fail
  go_loopw [5, 6] (fun v i wr => ∃ (k : Nat) (v0 : Value), k ≤ n ∧ v = v0 ∧ i = .int .i64 k ∧ Hid (FE elM w v0 (woM (L.take k) u) wr)) (fun _ i _ => n - (intOf i).toNat)
  case atStart => exact ⟨0, _, Nat.zero_le _, rfl, rfl, by simpa [Hid, woM] using FE.nil_ (E := elM) w w (Below.refl _ _)⟩
  case round =>
    rename World => wr
    obtain ⟨k, v0, hk, hv, rfl, HF⟩ := hrel
    have hv' := hv.symm
    clear hv
    subst hv'
    by_cases hlt : k < n
    · have hkl : k < L.length := by rw [← HN.out]; exact hlt
      have hx : L[k]? = some L[k] := List.getElem?_eq_getElem hkl
      have HT := Lib.hid (woM_take (u := u) hkl)
      have HLE := Lib.hid (show (woM (L.take k) u).length ≤ 1000000 by have := woM_le (L.take k) u; rw [List.length_take] at this; omega)
      obtain ⟨g, o, rfl, hg, a0, a1, a2, a3, a4, a5⟩ := (HL.out.below HF.out.bel).sixm hx
      generalize L[k] = x at *
      clear hx hg
      obtain ⟨x0, x1, x2, x3, x4, x5⟩ := x
      simp only at a0 a1 a2 a3 a4 a5 HT
      obtain ⟨A5, c5, rfl, -, -⟩ := HF.out.own.slice
      by_cases hu : x0 = u
      · have he : (x0 != u) = false := by simpa using hu
        have HF2 := Lib.hid (show FE elM w _ (woM (L.take (k + 1)) u) wr by rw [HT.out, if_pos hu]; exact HF.out)
        clear HT HF hu
        go_wp2
        go_roundw
        case rel => exact ⟨k + 1, _, by omega, rfl, by go_num, HF2⟩
        case measure => simp [intOf]; omega
      · have he : (x0 != u) = true := by simpa using hu
        have HHI := Lib.hid (show woM (L.take (k + 1)) u = woM (L.take k) u ++ [⟨x0, x1, x2, x3, x4, x5⟩] by rw [HT.out, if_neg hu])
        clear HT hu
        generalize hFL : woM (L.take k) u = FL at *
        have HFL := Lib.hid hFL
        clear hFL
        go_wp2_with ((at_builtin; refine wpList_epush elM_ok rfl (.tmp 20) (.tmp 25) _ rfl HTY.out _ FL ⟨x0, x1, x2, x3, x4, x5⟩ wr.heap.size 1 rfl rfl (HF.out.own.below ((Below.refl _ _).alloc (Nat.le_refl _) _)) (new_m wr _ ⟨x0, x1, x2, x3, x4, x5⟩) HLE.out ?_; intro v2 w3 hA2; have HP2 := Lib.hid (HF.out.push hA2); clear hA2))
        go_roundw
        case rel => exact ⟨k + 1, _, by omega, rfl, by go_num, by have h9 := HP2.out; rw [← HHI.out] at h9; exact h9⟩
        case measure => simp [intOf]; omega
    · obtain rfl : k = n := by omega
      have HZ := Lib.hid (show FE elM w v0 (woM L u) wr by have h9 := HF.out; rw [List.take_of_length_le (by rw [← HN.out]; omega)] at h9; exact h9)
      clear HF
      go_wp2
      go_ret
      exact ⟨_, rfl, HZ.out⟩
set_option maxRecDepth 100000 in
set_option maxHeartbeats 4000000 in
theorem rsameM_any (w : World) (u v : Value) (L : List Mb) (h : ERd elM w u L) (h2 : ERd elM w v L) (hl : L.length ≤ 1000000) :
    Calls Try.prog 14 #[u, v] w fun e w' => e = .returned (.bool true) ∧ ∃ q, w' = w.drewN q := by
  obtain ⟨A1, c1, rfl, -, -⟩ := h.shape
  obtain ⟨A2, c2, rfl, -, -⟩ := h2.shape
  have HO := Lib.hid h
  have HP := Lib.hid h2
  clear h h2
  obtain ⟨n, hn⟩ : ∃ n, n = L.length := ⟨_, rfl⟩
  rw [← hn] at HO HP hl ⊢
  have HN := Lib.hid hn; clear hn
  go_enter Try.func14, Try.ntmps14
  go_wp2_with fail
  go_loopw [5] (fun i wr => ∃ k : Nat, k ≤ n ∧ i = .int .i64 k ∧ Hid (∃ q, wr = w.drewN q)) (fun i _ => n - (intOf i).toNat)
  case atStart => exact ⟨0, Nat.zero_le _, rfl, 0, rfl⟩
  case round =>
    rename World => wr
    obtain ⟨k, hk, rfl, HQ⟩ := hrel
    by_cases hlt : k < n
    · have hkl : k < L.length := by rw [← HN.out]; exact hlt
      have hx : L[k]? = some L[k] := List.getElem?_eq_getElem hkl
      have hbw : Below w.heap.size w wr := by obtain ⟨q, rfl⟩ := HQ.out; exact below_drawn (Below.refl _ _) q
      obtain ⟨g, o, rfl, hg, a0, a1, a2, a3, a4, a5⟩ := (HO.out.below hbw).sixm hx
      obtain ⟨g', o', rfl, hg', b0, b1, b2, b3, b4, b5⟩ := (HP.out.below hbw).sixm hx
      generalize L[k] = x at *
      clear hx hbw
      obtain ⟨x0, x1, x2, x3, x4, x5⟩ := x
      simp only at a0 a1 a2 a3 a4 a5 b0 b1 b2 b3 b4 b5
      have hlt2 : (k : Int) < n := by omega
      go_upto_region 6 with fail
      have e0 : (x0 == x0) = true := by simp
      have e1 : (x1 == x1) = true := by simp
      have e2 : (x2 == x2) = true := by simp
      have e3 : (x3 == x3) = true := by simp
      have e4 : (x4 == x4) = true := by simp
      have e5 : ((x5 : Int) == (x5 : Int)) = true := by simp
      go_region
      clear a0 a1 a2 a3 a4 a5 b0 b1 b2 b3 b4 b5
      go_wp2
      go_roundw
      case rel => exact ⟨k + 1, by omega, by go_num, by obtain ⟨q, rfl⟩ := HQ.out; exact ⟨q + 1, rfl⟩⟩
      case measure => simp [intOf]; omega
    · obtain rfl : k = n := by omega
      go_wp2
      go_ret
      exact ⟨rfl, HQ.out⟩
end Go.Proofs.Ytolbjlphpgfcpaa
