/- The document's buffer by contract: Next (3). -/
import Derived.Test.YtmkehbmegimecaaFrameRef4
namespace Go.Proofs.Ytmkehbmegimecaa
set_option linter.unusedVariables false
set_option linter.unusedSimpArgs false
open Go.RowKit
set_option maxHeartbeats 2000000 in
theorem rnext_whole1 (A : Option Addr) (n c ov : Nat) (room : Int) (l : List UInt8) (w : World) (hx : RB w A n l) (hn : n ≤ c) (hn2 : n ≤ 65536) (hov : ov ≤ 65535) (h2 : 2 ≤ n) (N : Nat) (hNe : hdr l = N) (hN6 : N ≤ 600) (hs : 2 + N ≤ n) (hck : c = 2 + N) (hc2 : c = 2) : Calls Try.prog 12 #[.agg #[.int .i64 room, .slice A n c, .int .i64 (ov : Int)]] w fun e w' => RNextPost A 1 room (n - (2 + N)) (l.drop (2 + N)) 0 N ((l.drop 2).take N) w e w' := by
  have HX := Lib.hid hx
  obtain ⟨ad, rfl, x0, x1⟩ := hx.two h2
  have hl := hdr_lt l
  have hN : (256 : Int) * ((l.getD 0 0).toNat : Int) + ((l.getD 1 0).toNat : Int) = (N : Int) := by rw [← hNe]; unfold hdr; omega
  have l0 := (l.getD 0 0).toNat_lt
  have l1 := (l.getD 1 0).toNat_lt
  have n2 : ¬ ((n : Int) < 2) := by omega
  have n0 : 0 < n := by omega
  have n1 : (1 : Int) < (n : Int) := by omega
  have hni : (n : Int) ≤ 65536 := by omega
  have hN2 : (N : Int) ≤ 600 := by omega
  have hs2 : 2 + (N : Int) ≤ (n : Int) := by omega
  have hkc : 2 + (N : Int) ≤ (c : Int) := by omega
  have h2c : (2 : Int) ≤ (c : Int) := by omega
  have h02k : (0 : Int) ≤ 2 + (N : Int) := by omega
  have h22k : (2 : Int) ≤ 2 + (N : Int) := by omega
  have htn : (2 + (N : Int)).toNat = 2 + N := by omega
  have hkn2 : 2 + N ≤ n := by omega
  have hkc2 : 2 + N ≤ c := by omega
  have hNN2 : 2 + N - 2 = N := by omega
  have HCK := Lib.hid hck; clear hck
  have HC2 := Lib.hid hc2; clear hc2
  generalize (l.getD 0 0).toNat = a at *
  generalize (l.getD 1 0).toNat = b at *
  have w0 : IntKind.i64.wrap (256 * (a : Int)) = 256 * (a : Int) := IntWalk.i64_in _ (by omega)
  have w1 : IntKind.i64.wrap (256 * (a : Int) + (b : Int)) = 256 * (a : Int) + (b : Int) := IntWalk.i64_in _ (by omega)
  have hNN : wrap64 (wrap64 (256 * wrap64 (a : Int)) + wrap64 (b : Int)) = (N : Int) := by
    rw [IntWalk.wrap64_in (a : Int) (by omega), IntWalk.wrap64_in (b : Int) (by omega), IntWalk.wrap64_in (256 * (a : Int)) (by omega), IntWalk.wrap64_in _ (by omega)]; exact hN
  have HN := Lib.hid hNN
  clear hx l0 l1 hN hNN w0 w1
  go_enter Try.func12, Try.ntmps12
  go_wp2_with fail
  have hB0 : Below w.heap.size w ((w.alloc (.cells #[.int .i64 room, .slice (some ad) n c, .int .i64 (ov : Int)] 30)).alloc (.cells #[.int .i64 0, .slice none 0 0, .int .i64 0] 30)) := by go_grown
  have K := blk_two w 30 30 #[.int .i64 room, .slice (some ad) n c, .int .i64 (ov : Int)] #[.int .i64 0, .slice none 0 0, .int .i64 0]
  have hX0 := HX.out.later hB0
  generalize ((w.alloc (.cells #[.int .i64 room, .slice (some ad) n c, .int .i64 (ov : Int)] 30)).alloc (.cells #[.int .i64 0, .slice none 0 0, .int .i64 0] 30)) = W at hB0 K hX0 ⊢
  obtain ⟨K1, K2⟩ := K
  have k0 := K1.cell 0
  have k1 := K1.cell 1
  have k2 := K1.cell 2
  have r0 := K2.cell 0
  have r1 := K2.cell 1
  have r2 := K2.cell 2
  have q0 := K2.frozen 0
  have q1 := K2.frozen 1
  have q2 := K2.frozen 2
  simp only [List.getElem?_toArray, List.getElem?_cons_zero, List.getElem?_cons_succ] at k0 k1 k2 r0 r1 r2
  have zK2 : w.heap.size + 1 < W.heap.size := K2.lt
  clear K1 K2
  have y0 := cell_later hB0 x0
  have y1 := cell_later hB0 x1
  have ya : W.cell? ad = some (.int .u8 (a : Int)) := by have h9 := y0; unfold Addr.add at h9; simpa using h9
  have yb := y1
  unfold Addr.add at yb
  simp at yb
  clear x0 x1
  go_quiet (fail)
  rw [HN.out]
  replace hB0 := below_drawn hB0 nq
  have hX1 : RB (W.drewN nq) (some ad) n l := Reads.drewN hX0 nq
  clear hX0
  have zK3 : w.heap.size + 1 < (W.drewN nq).heap.size := zK2
  have kk0 : (W.drewN nq).cell? ⟨w.heap.size, 0, none⟩ = some (.int .i64 room) := k0
  have kk1 : (W.drewN nq).cell? ⟨w.heap.size, 1, none⟩ = some (.slice (some ad) n c) := k1
  have kk2 : (W.drewN nq).cell? ⟨w.heap.size, 2, none⟩ = some (.int .i64 (ov : Int)) := k2
  have rr0 : (W.drewN nq).cell? ⟨w.heap.size + 1, 0, none⟩ = some (.int .i64 0) := r0
  have rr1 : (W.drewN nq).cell? ⟨w.heap.size + 1, 1, none⟩ = some (.slice none 0 0) := r1
  have rr2 : (W.drewN nq).cell? ⟨w.heap.size + 1, 2, none⟩ = some (.int .i64 0) := r2
  have qq0 : (W.drewN nq).frozen? ⟨w.heap.size + 1, 0, none⟩ = false := q0
  have qq1 : (W.drewN nq).frozen? ⟨w.heap.size + 1, 1, none⟩ = false := q1
  have qq2 : (W.drewN nq).frozen? ⟨w.heap.size + 1, 2, none⟩ = false := q2
  clear k0 k1 k2 r0 r1 r2 q0 q1 q2 zK2 ya yb y0 y1
  generalize W.drewN nq = V at *
  have hck := HCK.out
  have hc2 := HC2.out
  have v1 : IntKind.i64.wrap (2 + (N : Int)) = 2 + (N : Int) := IntWalk.i64_in _ (by omega)
  go_wp2_with fail
  go_region_held3 (fun w' => w'.cell? ⟨w.heap.size, 0, none⟩ = some (.int .i64 room) ∧ w'.cell? ⟨w.heap.size, 1, none⟩ = some (.slice (some ad) n c)) (go_keep) (fail)
  go_wp2
  have hN0 : N = 0 := Nat.add_left_cancel (hck.symm.trans hc2)
  subst hN0
  have hcut := hX1.cut (k := 2 + 0) hkn2 hn
  have hcw := HX.out.cut (k := 2 + 0) hkn2 hn
  rw [if_pos hck] at hcut hcw
  have hbd := (hX1.cut (k := 2) h2 hn).take 0 (Nat.le_sub_of_add_le (by omega))
  have hbw := (HX.out.cut (k := 2) h2 hn).take 0 (Nat.le_sub_of_add_le (by omega))
  rw [if_pos hc2] at hbd hbw
  refine bodyPost_ret (v := .tuple #[.agg #[.int .i64 room, .slice (some ad) (n - (2 + 0)) (c - (2 + 0)), .int .i64 0], .slice (some ad) 0 (c - 2), .int .i64 1]) ?_ rfl ⟨some ad, c - (2 + 0), some ad, c - 2, rfl, ?_, by first | exact Nat.sub_le_sub_right hn _ | omega, ?_, ?_, by first | rfl | simp [block_of_add], fun h0 => by first | (exfalso; omega) | rfl | simp [block_of_add]⟩
  · simp [results, Try.results12, go_sem, *]
  · exact RB.far3 hcut (by have h9 := hcw.old_ne (g := w.heap.size + 1) (Nat.le_succ _); exact h9) _ _ _
  · exact RB.far3 hbd (by have h9 := hbw.old_ne (g := w.heap.size + 1) (Nat.le_succ _); exact h9) _ _ _
  · first | (go_grown; done) | exact below_drawn (by go_grown) _
set_option maxHeartbeats 2000000 in
theorem rnext_whole2 (A : Option Addr) (n c ov : Nat) (room : Int) (l : List UInt8) (w : World) (hx : RB w A n l) (hn : n ≤ c) (hn2 : n ≤ 65536) (hov : ov ≤ 65535) (h2 : 2 ≤ n) (N : Nat) (hNe : hdr l = N) (hN6 : N ≤ 600) (hs : 2 + N ≤ n) (hck : c = 2 + N) (hc2 : ¬ c = 2) (hN0 : ¬ N = 0) : Calls Try.prog 12 #[.agg #[.int .i64 room, .slice A n c, .int .i64 (ov : Int)]] w fun e w' => RNextPost A 1 room (n - (2 + N)) (l.drop (2 + N)) 0 N ((l.drop 2).take N) w e w' := by
  have HX := Lib.hid hx
  obtain ⟨ad, rfl, x0, x1⟩ := hx.two h2
  have hl := hdr_lt l
  have hN : (256 : Int) * ((l.getD 0 0).toNat : Int) + ((l.getD 1 0).toNat : Int) = (N : Int) := by rw [← hNe]; unfold hdr; omega
  have l0 := (l.getD 0 0).toNat_lt
  have l1 := (l.getD 1 0).toNat_lt
  have n2 : ¬ ((n : Int) < 2) := by omega
  have n0 : 0 < n := by omega
  have n1 : (1 : Int) < (n : Int) := by omega
  have hni : (n : Int) ≤ 65536 := by omega
  have hN2 : (N : Int) ≤ 600 := by omega
  have hs2 : 2 + (N : Int) ≤ (n : Int) := by omega
  have hkc : 2 + (N : Int) ≤ (c : Int) := by omega
  have h2c : (2 : Int) ≤ (c : Int) := by omega
  have h02k : (0 : Int) ≤ 2 + (N : Int) := by omega
  have h22k : (2 : Int) ≤ 2 + (N : Int) := by omega
  have htn : (2 + (N : Int)).toNat = 2 + N := by omega
  have hkn2 : 2 + N ≤ n := by omega
  have hkc2 : 2 + N ≤ c := by omega
  have hNN2 : 2 + N - 2 = N := by omega
  have HCK := Lib.hid hck; clear hck
  have HC2 := Lib.hid hc2; clear hc2
  generalize (l.getD 0 0).toNat = a at *
  generalize (l.getD 1 0).toNat = b at *
  have w0 : IntKind.i64.wrap (256 * (a : Int)) = 256 * (a : Int) := IntWalk.i64_in _ (by omega)
  have w1 : IntKind.i64.wrap (256 * (a : Int) + (b : Int)) = 256 * (a : Int) + (b : Int) := IntWalk.i64_in _ (by omega)
  have hNN : wrap64 (wrap64 (256 * wrap64 (a : Int)) + wrap64 (b : Int)) = (N : Int) := by
    rw [IntWalk.wrap64_in (a : Int) (by omega), IntWalk.wrap64_in (b : Int) (by omega), IntWalk.wrap64_in (256 * (a : Int)) (by omega), IntWalk.wrap64_in _ (by omega)]; exact hN
  have HN := Lib.hid hNN
  clear hx l0 l1 hN hNN w0 w1
  go_enter Try.func12, Try.ntmps12
  go_wp2_with fail
  have hB0 : Below w.heap.size w ((w.alloc (.cells #[.int .i64 room, .slice (some ad) n c, .int .i64 (ov : Int)] 30)).alloc (.cells #[.int .i64 0, .slice none 0 0, .int .i64 0] 30)) := by go_grown
  have K := blk_two w 30 30 #[.int .i64 room, .slice (some ad) n c, .int .i64 (ov : Int)] #[.int .i64 0, .slice none 0 0, .int .i64 0]
  have hX0 := HX.out.later hB0
  generalize ((w.alloc (.cells #[.int .i64 room, .slice (some ad) n c, .int .i64 (ov : Int)] 30)).alloc (.cells #[.int .i64 0, .slice none 0 0, .int .i64 0] 30)) = W at hB0 K hX0 ⊢
  obtain ⟨K1, K2⟩ := K
  have k0 := K1.cell 0
  have k1 := K1.cell 1
  have k2 := K1.cell 2
  have r0 := K2.cell 0
  have r1 := K2.cell 1
  have r2 := K2.cell 2
  have q0 := K2.frozen 0
  have q1 := K2.frozen 1
  have q2 := K2.frozen 2
  simp only [List.getElem?_toArray, List.getElem?_cons_zero, List.getElem?_cons_succ] at k0 k1 k2 r0 r1 r2
  have zK2 : w.heap.size + 1 < W.heap.size := K2.lt
  clear K1 K2
  have y0 := cell_later hB0 x0
  have y1 := cell_later hB0 x1
  have ya : W.cell? ad = some (.int .u8 (a : Int)) := by have h9 := y0; unfold Addr.add at h9; simpa using h9
  have yb := y1
  unfold Addr.add at yb
  simp at yb
  clear x0 x1
  go_quiet (fail)
  rw [HN.out]
  replace hB0 := below_drawn hB0 nq
  have hX1 : RB (W.drewN nq) (some ad) n l := Reads.drewN hX0 nq
  clear hX0
  have zK3 : w.heap.size + 1 < (W.drewN nq).heap.size := zK2
  have kk0 : (W.drewN nq).cell? ⟨w.heap.size, 0, none⟩ = some (.int .i64 room) := k0
  have kk1 : (W.drewN nq).cell? ⟨w.heap.size, 1, none⟩ = some (.slice (some ad) n c) := k1
  have kk2 : (W.drewN nq).cell? ⟨w.heap.size, 2, none⟩ = some (.int .i64 (ov : Int)) := k2
  have rr0 : (W.drewN nq).cell? ⟨w.heap.size + 1, 0, none⟩ = some (.int .i64 0) := r0
  have rr1 : (W.drewN nq).cell? ⟨w.heap.size + 1, 1, none⟩ = some (.slice none 0 0) := r1
  have rr2 : (W.drewN nq).cell? ⟨w.heap.size + 1, 2, none⟩ = some (.int .i64 0) := r2
  have qq0 : (W.drewN nq).frozen? ⟨w.heap.size + 1, 0, none⟩ = false := q0
  have qq1 : (W.drewN nq).frozen? ⟨w.heap.size + 1, 1, none⟩ = false := q1
  have qq2 : (W.drewN nq).frozen? ⟨w.heap.size + 1, 2, none⟩ = false := q2
  clear k0 k1 k2 r0 r1 r2 q0 q1 q2 zK2 ya yb y0 y1
  generalize W.drewN nq = V at *
  have hck := HCK.out
  have hc2 := HC2.out
  have v1 : IntKind.i64.wrap (2 + (N : Int)) = 2 + (N : Int) := IntWalk.i64_in _ (by omega)
  go_wp2_with fail
  go_region_held3 (fun w' => w'.cell? ⟨w.heap.size, 0, none⟩ = some (.int .i64 room) ∧ w'.cell? ⟨w.heap.size, 1, none⟩ = some (.slice (some ad) n c)) (go_keep) (fail)
  go_wp2
  have hcut := hX1.cut (k := 2 + N) hkn2 hn
  have hcw := HX.out.cut (k := 2 + N) hkn2 hn
  rw [if_pos hck] at hcut hcw
  have hbd := (hX1.cut (k := 2) h2 hn).take N (Nat.le_sub_of_add_le (by omega))
  have hbw := (HX.out.cut (k := 2) h2 hn).take N (Nat.le_sub_of_add_le (by omega))
  rw [if_neg hc2] at hbd hbw
  refine bodyPost_ret (v := .tuple #[.agg #[.int .i64 room, .slice (some ad) (n - (2 + N)) (c - (2 + N)), .int .i64 0], .slice (some (ad.add 2)) N (c - 2), .int .i64 1]) ?_ rfl ⟨some ad, c - (2 + N), some (ad.add 2), c - 2, rfl, ?_, by first | exact Nat.sub_le_sub_right hn _ | omega, ?_, ?_, by first | rfl | simp [block_of_add], fun h0 => by first | (exfalso; omega) | rfl | simp [block_of_add]⟩
  · simp [results, Try.results12, go_sem, *]
  · exact RB.far3 hcut (by have h9 := hcw.old_ne (g := w.heap.size + 1) (Nat.le_succ _); exact h9) _ _ _
  · exact RB.far3 hbd (by have h9 := hbw.old_ne (g := w.heap.size + 1) (Nat.le_succ _); exact h9) _ _ _
  · first | (go_grown; done) | exact below_drawn (by go_grown) _
set_option maxHeartbeats 2000000 in
theorem rnext_whole3 (A : Option Addr) (n c ov : Nat) (room : Int) (l : List UInt8) (w : World) (hx : RB w A n l) (hn : n ≤ c) (hn2 : n ≤ 65536) (hov : ov ≤ 65535) (h2 : 2 ≤ n) (N : Nat) (hNe : hdr l = N) (hN6 : N ≤ 600) (hs : 2 + N ≤ n) (hck : ¬ c = 2 + N) (hc2 : ¬ c = 2) : Calls Try.prog 12 #[.agg #[.int .i64 room, .slice A n c, .int .i64 (ov : Int)]] w fun e w' => RNextPost A 1 room (n - (2 + N)) (l.drop (2 + N)) 0 N ((l.drop 2).take N) w e w' := by
  have HX := Lib.hid hx
  obtain ⟨ad, rfl, x0, x1⟩ := hx.two h2
  have hl := hdr_lt l
  have hN : (256 : Int) * ((l.getD 0 0).toNat : Int) + ((l.getD 1 0).toNat : Int) = (N : Int) := by rw [← hNe]; unfold hdr; omega
  have l0 := (l.getD 0 0).toNat_lt
  have l1 := (l.getD 1 0).toNat_lt
  have n2 : ¬ ((n : Int) < 2) := by omega
  have n0 : 0 < n := by omega
  have n1 : (1 : Int) < (n : Int) := by omega
  have hni : (n : Int) ≤ 65536 := by omega
  have hN2 : (N : Int) ≤ 600 := by omega
  have hs2 : 2 + (N : Int) ≤ (n : Int) := by omega
  have hkc : 2 + (N : Int) ≤ (c : Int) := by omega
  have h2c : (2 : Int) ≤ (c : Int) := by omega
  have h02k : (0 : Int) ≤ 2 + (N : Int) := by omega
  have h22k : (2 : Int) ≤ 2 + (N : Int) := by omega
  have htn : (2 + (N : Int)).toNat = 2 + N := by omega
  have hkn2 : 2 + N ≤ n := by omega
  have hkc2 : 2 + N ≤ c := by omega
  have hNN2 : 2 + N - 2 = N := by omega
  have HCK := Lib.hid hck; clear hck
  have HC2 := Lib.hid hc2; clear hc2
  generalize (l.getD 0 0).toNat = a at *
  generalize (l.getD 1 0).toNat = b at *
  have w0 : IntKind.i64.wrap (256 * (a : Int)) = 256 * (a : Int) := IntWalk.i64_in _ (by omega)
  have w1 : IntKind.i64.wrap (256 * (a : Int) + (b : Int)) = 256 * (a : Int) + (b : Int) := IntWalk.i64_in _ (by omega)
  have hNN : wrap64 (wrap64 (256 * wrap64 (a : Int)) + wrap64 (b : Int)) = (N : Int) := by
    rw [IntWalk.wrap64_in (a : Int) (by omega), IntWalk.wrap64_in (b : Int) (by omega), IntWalk.wrap64_in (256 * (a : Int)) (by omega), IntWalk.wrap64_in _ (by omega)]; exact hN
  have HN := Lib.hid hNN
  clear hx l0 l1 hN hNN w0 w1
  go_enter Try.func12, Try.ntmps12
  go_wp2_with fail
  have hB0 : Below w.heap.size w ((w.alloc (.cells #[.int .i64 room, .slice (some ad) n c, .int .i64 (ov : Int)] 30)).alloc (.cells #[.int .i64 0, .slice none 0 0, .int .i64 0] 30)) := by go_grown
  have K := blk_two w 30 30 #[.int .i64 room, .slice (some ad) n c, .int .i64 (ov : Int)] #[.int .i64 0, .slice none 0 0, .int .i64 0]
  have hX0 := HX.out.later hB0
  generalize ((w.alloc (.cells #[.int .i64 room, .slice (some ad) n c, .int .i64 (ov : Int)] 30)).alloc (.cells #[.int .i64 0, .slice none 0 0, .int .i64 0] 30)) = W at hB0 K hX0 ⊢
  obtain ⟨K1, K2⟩ := K
  have k0 := K1.cell 0
  have k1 := K1.cell 1
  have k2 := K1.cell 2
  have r0 := K2.cell 0
  have r1 := K2.cell 1
  have r2 := K2.cell 2
  have q0 := K2.frozen 0
  have q1 := K2.frozen 1
  have q2 := K2.frozen 2
  simp only [List.getElem?_toArray, List.getElem?_cons_zero, List.getElem?_cons_succ] at k0 k1 k2 r0 r1 r2
  have zK2 : w.heap.size + 1 < W.heap.size := K2.lt
  clear K1 K2
  have y0 := cell_later hB0 x0
  have y1 := cell_later hB0 x1
  have ya : W.cell? ad = some (.int .u8 (a : Int)) := by have h9 := y0; unfold Addr.add at h9; simpa using h9
  have yb := y1
  unfold Addr.add at yb
  simp at yb
  clear x0 x1
  go_quiet (fail)
  rw [HN.out]
  replace hB0 := below_drawn hB0 nq
  have hX1 : RB (W.drewN nq) (some ad) n l := Reads.drewN hX0 nq
  clear hX0
  have zK3 : w.heap.size + 1 < (W.drewN nq).heap.size := zK2
  have kk0 : (W.drewN nq).cell? ⟨w.heap.size, 0, none⟩ = some (.int .i64 room) := k0
  have kk1 : (W.drewN nq).cell? ⟨w.heap.size, 1, none⟩ = some (.slice (some ad) n c) := k1
  have kk2 : (W.drewN nq).cell? ⟨w.heap.size, 2, none⟩ = some (.int .i64 (ov : Int)) := k2
  have rr0 : (W.drewN nq).cell? ⟨w.heap.size + 1, 0, none⟩ = some (.int .i64 0) := r0
  have rr1 : (W.drewN nq).cell? ⟨w.heap.size + 1, 1, none⟩ = some (.slice none 0 0) := r1
  have rr2 : (W.drewN nq).cell? ⟨w.heap.size + 1, 2, none⟩ = some (.int .i64 0) := r2
  have qq0 : (W.drewN nq).frozen? ⟨w.heap.size + 1, 0, none⟩ = false := q0
  have qq1 : (W.drewN nq).frozen? ⟨w.heap.size + 1, 1, none⟩ = false := q1
  have qq2 : (W.drewN nq).frozen? ⟨w.heap.size + 1, 2, none⟩ = false := q2
  clear k0 k1 k2 r0 r1 r2 q0 q1 q2 zK2 ya yb y0 y1
  generalize W.drewN nq = V at *
  have hck := HCK.out
  have hc2 := HC2.out
  have v1 : IntKind.i64.wrap (2 + (N : Int)) = 2 + (N : Int) := IntWalk.i64_in _ (by omega)
  go_wp2_with fail
  go_region_held3 (fun w' => w'.cell? ⟨w.heap.size, 0, none⟩ = some (.int .i64 room) ∧ w'.cell? ⟨w.heap.size, 1, none⟩ = some (.slice (some ad) n c)) (go_keep) (fail)
  go_wp2
  have hcut := hX1.cut (k := 2 + N) hkn2 hn
  have hcw := HX.out.cut (k := 2 + N) hkn2 hn
  rw [if_neg hck] at hcut hcw
  have hbd := (hX1.cut (k := 2) h2 hn).take N (Nat.le_sub_of_add_le (by omega))
  have hbw := (HX.out.cut (k := 2) h2 hn).take N (Nat.le_sub_of_add_le (by omega))
  rw [if_neg hc2] at hbd hbw
  refine bodyPost_ret (v := .tuple #[.agg #[.int .i64 room, .slice (some (ad.add (2 + N))) (n - (2 + N)) (c - (2 + N)), .int .i64 0], .slice (some (ad.add 2)) N (c - 2), .int .i64 1]) ?_ rfl ⟨some (ad.add (2 + N)), c - (2 + N), some (ad.add 2), c - 2, rfl, ?_, by first | exact Nat.sub_le_sub_right hn _ | omega, ?_, ?_, by first | rfl | simp [block_of_add], fun h0 => by first | (exfalso; omega) | rfl | simp [block_of_add]⟩
  · simp [results, Try.results12, go_sem, *]
  · exact RB.far3 hcut (by have h9 := hcw.old_ne (g := w.heap.size + 1) (Nat.le_succ _); exact h9) _ _ _
  · exact RB.far3 hbd (by have h9 := hbw.old_ne (g := w.heap.size + 1) (Nat.le_succ _); exact h9) _ _ _
  · first | (go_grown; done) | exact below_drawn (by go_grown) _
theorem rnext_whole (A : Option Addr) (n c ov : Nat) (room : Int) (l : List UInt8) (w : World) (hx : RB w A n l) (hn : n ≤ c) (hn2 : n ≤ 65536) (hov : ov ≤ 65535) (h2 : 2 ≤ n) (N : Nat) (hNe : hdr l = N) (hN6 : N ≤ 600) (hs : 2 + N ≤ n) : Calls Try.prog 12 #[.agg #[.int .i64 room, .slice A n c, .int .i64 (ov : Int)]] w fun e w' => RNextPost A 1 room (n - (2 + N)) (l.drop (2 + N)) 0 N ((l.drop 2).take N) w e w' := by
  by_cases hck : c = 2 + N
  · by_cases hc2 : c = 2
    · exact rnext_whole1 A n c ov room l w hx hn hn2 hov h2 N hNe hN6 hs hck hc2
    · exact rnext_whole2 A n c ov room l w hx hn hn2 hov h2 N hNe hN6 hs hck hc2 (by omega)
  · exact rnext_whole3 A n c ov room l w hx hn hn2 hov h2 N hNe hN6 hs hck (by omega)
end Go.Proofs.Ytmkehbmegimecaa
