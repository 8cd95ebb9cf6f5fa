/- The document's buffer by contract: Next (2). -/
import Derived.Test.YtmkehbmegimecaaFrameRef3
namespace Go.Proofs.Ytmkehbmegimecaa
set_option linter.unusedVariables false
set_option linter.unusedSimpArgs false
open Go.RowKit
set_option maxHeartbeats 2000000 in
theorem rnext_short (A : Option Addr) (n c ov : Nat) (room : Int) (l : List UInt8) (w : World) (hx : RB w A n l) (hn : n ≤ c) (hn2 : n ≤ 65536) (hov : ov ≤ 65535) (h2 : 2 ≤ n) (hN6 : hdr l ≤ 600) (hs : n < 2 + hdr l) : Calls Try.prog 12 #[.agg #[.int .i64 room, .slice A n c, .int .i64 (ov : Int)]] w fun e w' => RNextPost A 0 room n l (ov : Int) 0 [] w e w' := by
  have HX := Lib.hid hx
  obtain ⟨ad, rfl, x0, x1⟩ := hx.two h2
  have hl := hdr_lt l
  have hN : (256 : Int) * ((l.getD 0 0).toNat : Int) + ((l.getD 1 0).toNat : Int) = ((hdr l : Nat) : Int) := by unfold hdr; omega
  have l0 := (l.getD 0 0).toNat_lt
  have l1 := (l.getD 1 0).toNat_lt
  have n2 : ¬ ((n : Int) < 2) := by omega
  have n0 : 0 < n := by omega
  have n1 : (1 : Int) < (n : Int) := by omega
  have hni : (n : Int) ≤ 65536 := by omega
  have hs2 : (n : Int) < 2 + ((hdr l : Nat) : Int) := by omega
  have hN2 : ((hdr l : Nat) : Int) ≤ 600 := by omega
  generalize (l.getD 0 0).toNat = a at *
  generalize (l.getD 1 0).toNat = b at *
  have w0 : IntKind.i64.wrap (256 * (a : Int)) = 256 * (a : Int) := IntWalk.i64_in _ (by omega)
  have w1 : IntKind.i64.wrap (256 * (a : Int) + (b : Int)) = 256 * (a : Int) + (b : Int) := IntWalk.i64_in _ (by omega)
  have hNN : wrap64 (wrap64 (256 * wrap64 (a : Int)) + wrap64 (b : Int)) = ((hdr l : Nat) : Int) := by
    rw [IntWalk.wrap64_in (a : Int) (by omega), IntWalk.wrap64_in (b : Int) (by omega), IntWalk.wrap64_in (256 * (a : Int)) (by omega), IntWalk.wrap64_in _ (by omega)]; exact hN
  have HN := Lib.hid hNN
  clear hx l0 l1 hN hNN w0 w1
  go_enter Try.func12, Try.ntmps12
  go_wp2_with fail
  have hB0 : Below w.heap.size w ((w.alloc (.cells #[.int .i64 room, .slice (some ad) n c, .int .i64 (ov : Int)] 30)).alloc (.cells #[.int .i64 0, .slice none 0 0, .int .i64 0] 30)) := by go_grown
  have K := blk_two w 30 30 #[.int .i64 room, .slice (some ad) n c, .int .i64 (ov : Int)] #[.int .i64 0, .slice none 0 0, .int .i64 0]
  have hX0 := HX.out.later hB0
  generalize ((w.alloc (.cells #[.int .i64 room, .slice (some ad) n c, .int .i64 (ov : Int)] 30)).alloc (.cells #[.int .i64 0, .slice none 0 0, .int .i64 0] 30)) = W at hB0 K hX0 ⊢
  obtain ⟨K1, K2⟩ := K
  have k0 := K1.cell 0
  have k1 := K1.cell 1
  have k2 := K1.cell 2
  have r0 := K2.cell 0
  have r1 := K2.cell 1
  have r2 := K2.cell 2
  have q0 := K2.frozen 0
  have q1 := K2.frozen 1
  have q2 := K2.frozen 2
  simp only [List.getElem?_toArray, List.getElem?_cons_zero, List.getElem?_cons_succ] at k0 k1 k2 r0 r1 r2
  have zK2 : w.heap.size + 1 < W.heap.size := K2.lt
  clear K1 K2
  have y0 := cell_later hB0 x0
  have y1 := cell_later hB0 x1
  have ya : W.cell? ad = some (.int .u8 (a : Int)) := by have h9 := y0; unfold Addr.add at h9; simpa using h9
  have yb := y1
  unfold Addr.add at yb
  simp at yb
  clear x0 x1
  go_quiet (fail)
  rw [HN.out]
  replace hB0 := below_drawn hB0 nq
  have hX1 : RB (W.drewN nq) (some ad) n l := Reads.drewN hX0 nq
  clear hX0
  have zK3 : w.heap.size + 1 < (W.drewN nq).heap.size := zK2
  have kk0 : (W.drewN nq).cell? ⟨w.heap.size, 0, none⟩ = some (.int .i64 room) := k0
  have kk1 : (W.drewN nq).cell? ⟨w.heap.size, 1, none⟩ = some (.slice (some ad) n c) := k1
  have kk2 : (W.drewN nq).cell? ⟨w.heap.size, 2, none⟩ = some (.int .i64 (ov : Int)) := k2
  have rr0 : (W.drewN nq).cell? ⟨w.heap.size + 1, 0, none⟩ = some (.int .i64 0) := r0
  have rr1 : (W.drewN nq).cell? ⟨w.heap.size + 1, 1, none⟩ = some (.slice none 0 0) := r1
  have rr2 : (W.drewN nq).cell? ⟨w.heap.size + 1, 2, none⟩ = some (.int .i64 0) := r2
  have qq0 : (W.drewN nq).frozen? ⟨w.heap.size + 1, 0, none⟩ = false := q0
  have qq1 : (W.drewN nq).frozen? ⟨w.heap.size + 1, 1, none⟩ = false := q1
  have qq2 : (W.drewN nq).frozen? ⟨w.heap.size + 1, 2, none⟩ = false := q2
  clear k0 k1 k2 r0 r1 r2 q0 q1 q2 zK2 ya yb y0 y1
  generalize W.drewN nq = V at *
  go_wp2
  refine bodyPost_ret (v := .tuple #[.agg #[.int .i64 room, .slice (some ad) n c, .int .i64 (ov : Int)], .slice none 0 0, .int .i64 0]) ?_ rfl ⟨some ad, c, none, 0, rfl, ?_, hn, RB.nil_ _, ?_, by first | rfl | simp [block_of_add], fun h0 => by first | (exfalso; omega) | rfl | simp [block_of_add]⟩
  · simp [results, Try.results12, go_sem, *]
  · exact RB.far3 hX1 (by have h9 := HX.out.old_ne (g := w.heap.size + 1) (by omega); exact h9) _ _ _
  · first | (go_grown; done) | exact below_drawn (by go_grown) _
set_option maxHeartbeats 2000000 in
theorem rnext_over1 (A : Option Addr) (n c ov : Nat) (room : Int) (l : List UInt8) (w : World) (hx : RB w A n l) (hn : n ≤ c) (hn2 : n ≤ 65536) (hov : ov ≤ 65535) (h2 : 2 ≤ n) (hN6 : 600 < hdr l) (k : Nat) (hk : min (hdr l) (n - 2) = k) (hck : c = 2 + k) : Calls Try.prog 12 #[.agg #[.int .i64 room, .slice A n c, .int .i64 (ov : Int)]] w fun e w' => RNextPost A 2 room (n - (2 + k)) (l.drop (2 + k)) (((hdr l : Nat) : Int) - (k : Int)) 0 [] w e w' := by
  have HX := Lib.hid hx
  obtain ⟨ad, rfl, x0, x1⟩ := hx.two h2
  have hl := hdr_lt l
  have hN : (256 : Int) * ((l.getD 0 0).toNat : Int) + ((l.getD 1 0).toNat : Int) = ((hdr l : Nat) : Int) := by unfold hdr; omega
  have l0 := (l.getD 0 0).toNat_lt
  have l1 := (l.getD 1 0).toNat_lt
  have n2 : ¬ ((n : Int) < 2) := by omega
  have n0 : 0 < n := by omega
  have n1 : (1 : Int) < (n : Int) := by omega
  have hni : (n : Int) ≤ 65536 := by omega
  have hN2 : (600 : Int) < ((hdr l : Nat) : Int) := by omega
  have hk2 : min ((hdr l : Nat) : Int) ((n : Int) - 2) = (k : Int) := by omega
  have hkn : 2 + (k : Int) ≤ (n : Int) := by omega
  have hkc : 2 + (k : Int) ≤ (c : Int) := by omega
  have h02k : (0 : Int) ≤ 2 + (k : Int) := by omega
  have htn : (2 + (k : Int)).toNat = 2 + k := by omega
  have hkn2 : 2 + k ≤ n := by omega
  have hkc2 : 2 + k ≤ c := by omega
  have hkN : (k : Int) ≤ ((hdr l : Nat) : Int) := by omega
  have hNi : ((hdr l : Nat) : Int) ≤ 65535 := by omega
  have e2k : (2 : Int) + (k : Int) = ((2 + k : Nat) : Int) := by omega
  have HE := Lib.hid e2k; clear e2k hk
  have HCK := Lib.hid hck; clear hck
  generalize (l.getD 0 0).toNat = a at *
  generalize (l.getD 1 0).toNat = b at *
  have w0 : IntKind.i64.wrap (256 * (a : Int)) = 256 * (a : Int) := IntWalk.i64_in _ (by omega)
  have w1 : IntKind.i64.wrap (256 * (a : Int) + (b : Int)) = 256 * (a : Int) + (b : Int) := IntWalk.i64_in _ (by omega)
  have hNN : wrap64 (wrap64 (256 * wrap64 (a : Int)) + wrap64 (b : Int)) = ((hdr l : Nat) : Int) := by
    rw [IntWalk.wrap64_in (a : Int) (by omega), IntWalk.wrap64_in (b : Int) (by omega), IntWalk.wrap64_in (256 * (a : Int)) (by omega), IntWalk.wrap64_in _ (by omega)]; exact hN
  have HN := Lib.hid hNN
  clear hx l0 l1 hN hNN w0 w1
  go_enter Try.func12, Try.ntmps12
  go_wp2_with fail
  have hB0 : Below w.heap.size w ((w.alloc (.cells #[.int .i64 room, .slice (some ad) n c, .int .i64 (ov : Int)] 30)).alloc (.cells #[.int .i64 0, .slice none 0 0, .int .i64 0] 30)) := by go_grown
  have K := blk_two w 30 30 #[.int .i64 room, .slice (some ad) n c, .int .i64 (ov : Int)] #[.int .i64 0, .slice none 0 0, .int .i64 0]
  have hX0 := HX.out.later hB0
  generalize ((w.alloc (.cells #[.int .i64 room, .slice (some ad) n c, .int .i64 (ov : Int)] 30)).alloc (.cells #[.int .i64 0, .slice none 0 0, .int .i64 0] 30)) = W at hB0 K hX0 ⊢
  obtain ⟨K1, K2⟩ := K
  have k0 := K1.cell 0
  have k1 := K1.cell 1
  have k2 := K1.cell 2
  have r0 := K2.cell 0
  have r1 := K2.cell 1
  have r2 := K2.cell 2
  have q0 := K2.frozen 0
  have q1 := K2.frozen 1
  have q2 := K2.frozen 2
  simp only [List.getElem?_toArray, List.getElem?_cons_zero, List.getElem?_cons_succ] at k0 k1 k2 r0 r1 r2
  have zK2 : w.heap.size + 1 < W.heap.size := K2.lt
  clear K1 K2
  have y0 := cell_later hB0 x0
  have y1 := cell_later hB0 x1
  have ya : W.cell? ad = some (.int .u8 (a : Int)) := by have h9 := y0; unfold Addr.add at h9; simpa using h9
  have yb := y1
  unfold Addr.add at yb
  simp at yb
  clear x0 x1
  go_quiet (fail)
  rw [HN.out]
  replace hB0 := below_drawn hB0 nq
  have hX1 : RB (W.drewN nq) (some ad) n l := Reads.drewN hX0 nq
  clear hX0
  have zK3 : w.heap.size + 1 < (W.drewN nq).heap.size := zK2
  have kk0 : (W.drewN nq).cell? ⟨w.heap.size, 0, none⟩ = some (.int .i64 room) := k0
  have kk1 : (W.drewN nq).cell? ⟨w.heap.size, 1, none⟩ = some (.slice (some ad) n c) := k1
  have kk2 : (W.drewN nq).cell? ⟨w.heap.size, 2, none⟩ = some (.int .i64 (ov : Int)) := k2
  have rr0 : (W.drewN nq).cell? ⟨w.heap.size + 1, 0, none⟩ = some (.int .i64 0) := r0
  have rr1 : (W.drewN nq).cell? ⟨w.heap.size + 1, 1, none⟩ = some (.slice none 0 0) := r1
  have rr2 : (W.drewN nq).cell? ⟨w.heap.size + 1, 2, none⟩ = some (.int .i64 0) := r2
  have qq0 : (W.drewN nq).frozen? ⟨w.heap.size + 1, 0, none⟩ = false := q0
  have qq1 : (W.drewN nq).frozen? ⟨w.heap.size + 1, 1, none⟩ = false := q1
  have qq2 : (W.drewN nq).frozen? ⟨w.heap.size + 1, 2, none⟩ = false := q2
  clear k0 k1 k2 r0 r1 r2 q0 q1 q2 zK2 ya yb y0 y1
  generalize W.drewN nq = V at *
  have hck := HCK.out
  go_wp2_with ((go_at_call 23; refine (rless_any _ _ _).mono ?_; rintro e w1 ⟨rfl, hw1⟩; subst hw1))
  have v1 : IntKind.i64.wrap (2 + (k : Int)) = 2 + (k : Int) := IntWalk.i64_in _ (by omega)
  have v2 : IntKind.i64.wrap (((hdr l : Nat) : Int) - (k : Int)) = ((hdr l : Nat) : Int) - (k : Int) := IntWalk.i64_in _ (by omega)
  go_region_held3 (fun w' => w'.cell? ⟨w.heap.size, 0, none⟩ = some (.int .i64 room) ∧ w'.cell? ⟨w.heap.size, 1, none⟩ = some (.slice (some ad) n c)) (go_keep) (fail)
  go_wp2
  have hcut := hX1.cut (k := 2 + k) hkn2 hn
  have hcw := HX.out.cut (k := 2 + k) hkn2 hn
  rw [if_pos hck] at hcut hcw
  refine bodyPost_ret (v := .tuple #[.agg #[.int .i64 room, .slice (some ad) (n - (2 + k)) (c - (2 + k)), .int .i64 (((hdr l : Nat) : Int) - (k : Int))], .slice none 0 0, .int .i64 2]) ?_ rfl ⟨some ad, c - (2 + k), none, 0, rfl, ?_, Nat.sub_le_sub_right hn _, RB.nil_ _, ?_, by first | rfl | simp [block_of_add], fun h0 => by first | (exfalso; omega) | rfl | simp [block_of_add]⟩
  · simp [results, Try.results12, go_sem, *]
  · exact RB.far3 hcut (by have h9 := hcw.old_ne (g := w.heap.size + 1) (Nat.le_succ _); exact h9) _ _ _
  · first | (go_grown; done) | exact below_drawn (by go_grown) _
set_option maxHeartbeats 2000000 in
theorem rnext_over2 (A : Option Addr) (n c ov : Nat) (room : Int) (l : List UInt8) (w : World) (hx : RB w A n l) (hn : n ≤ c) (hn2 : n ≤ 65536) (hov : ov ≤ 65535) (h2 : 2 ≤ n) (hN6 : 600 < hdr l) (k : Nat) (hk : min (hdr l) (n - 2) = k) (hck : ¬ c = 2 + k) : Calls Try.prog 12 #[.agg #[.int .i64 room, .slice A n c, .int .i64 (ov : Int)]] w fun e w' => RNextPost A 2 room (n - (2 + k)) (l.drop (2 + k)) (((hdr l : Nat) : Int) - (k : Int)) 0 [] w e w' := by
  have HX := Lib.hid hx
  obtain ⟨ad, rfl, x0, x1⟩ := hx.two h2
  have hl := hdr_lt l
  have hN : (256 : Int) * ((l.getD 0 0).toNat : Int) + ((l.getD 1 0).toNat : Int) = ((hdr l : Nat) : Int) := by unfold hdr; omega
  have l0 := (l.getD 0 0).toNat_lt
  have l1 := (l.getD 1 0).toNat_lt
  have n2 : ¬ ((n : Int) < 2) := by omega
  have n0 : 0 < n := by omega
  have n1 : (1 : Int) < (n : Int) := by omega
  have hni : (n : Int) ≤ 65536 := by omega
  have hN2 : (600 : Int) < ((hdr l : Nat) : Int) := by omega
  have hk2 : min ((hdr l : Nat) : Int) ((n : Int) - 2) = (k : Int) := by omega
  have hkn : 2 + (k : Int) ≤ (n : Int) := by omega
  have hkc : 2 + (k : Int) ≤ (c : Int) := by omega
  have h02k : (0 : Int) ≤ 2 + (k : Int) := by omega
  have htn : (2 + (k : Int)).toNat = 2 + k := by omega
  have hkn2 : 2 + k ≤ n := by omega
  have hkc2 : 2 + k ≤ c := by omega
  have hkN : (k : Int) ≤ ((hdr l : Nat) : Int) := by omega
  have hNi : ((hdr l : Nat) : Int) ≤ 65535 := by omega
  have e2k : (2 : Int) + (k : Int) = ((2 + k : Nat) : Int) := by omega
  have HE := Lib.hid e2k; clear e2k hk
  have HCK := Lib.hid hck; clear hck
  generalize (l.getD 0 0).toNat = a at *
  generalize (l.getD 1 0).toNat = b at *
  have w0 : IntKind.i64.wrap (256 * (a : Int)) = 256 * (a : Int) := IntWalk.i64_in _ (by omega)
  have w1 : IntKind.i64.wrap (256 * (a : Int) + (b : Int)) = 256 * (a : Int) + (b : Int) := IntWalk.i64_in _ (by omega)
  have hNN : wrap64 (wrap64 (256 * wrap64 (a : Int)) + wrap64 (b : Int)) = ((hdr l : Nat) : Int) := by
    rw [IntWalk.wrap64_in (a : Int) (by omega), IntWalk.wrap64_in (b : Int) (by omega), IntWalk.wrap64_in (256 * (a : Int)) (by omega), IntWalk.wrap64_in _ (by omega)]; exact hN
  have HN := Lib.hid hNN
  clear hx l0 l1 hN hNN w0 w1
  go_enter Try.func12, Try.ntmps12
  go_wp2_with fail
  have hB0 : Below w.heap.size w ((w.alloc (.cells #[.int .i64 room, .slice (some ad) n c, .int .i64 (ov : Int)] 30)).alloc (.cells #[.int .i64 0, .slice none 0 0, .int .i64 0] 30)) := by go_grown
  have K := blk_two w 30 30 #[.int .i64 room, .slice (some ad) n c, .int .i64 (ov : Int)] #[.int .i64 0, .slice none 0 0, .int .i64 0]
  have hX0 := HX.out.later hB0
  generalize ((w.alloc (.cells #[.int .i64 room, .slice (some ad) n c, .int .i64 (ov : Int)] 30)).alloc (.cells #[.int .i64 0, .slice none 0 0, .int .i64 0] 30)) = W at hB0 K hX0 ⊢
  obtain ⟨K1, K2⟩ := K
  have k0 := K1.cell 0
  have k1 := K1.cell 1
  have k2 := K1.cell 2
  have r0 := K2.cell 0
  have r1 := K2.cell 1
  have r2 := K2.cell 2
  have q0 := K2.frozen 0
  have q1 := K2.frozen 1
  have q2 := K2.frozen 2
  simp only [List.getElem?_toArray, List.getElem?_cons_zero, List.getElem?_cons_succ] at k0 k1 k2 r0 r1 r2
  have zK2 : w.heap.size + 1 < W.heap.size := K2.lt
  clear K1 K2
  have y0 := cell_later hB0 x0
  have y1 := cell_later hB0 x1
  have ya : W.cell? ad = some (.int .u8 (a : Int)) := by have h9 := y0; unfold Addr.add at h9; simpa using h9
  have yb := y1
  unfold Addr.add at yb
  simp at yb
  clear x0 x1
  go_quiet (fail)
  rw [HN.out]
  replace hB0 := below_drawn hB0 nq
  have hX1 : RB (W.drewN nq) (some ad) n l := Reads.drewN hX0 nq
  clear hX0
  have zK3 : w.heap.size + 1 < (W.drewN nq).heap.size := zK2
  have kk0 : (W.drewN nq).cell? ⟨w.heap.size, 0, none⟩ = some (.int .i64 room) := k0
  have kk1 : (W.drewN nq).cell? ⟨w.heap.size, 1, none⟩ = some (.slice (some ad) n c) := k1
  have kk2 : (W.drewN nq).cell? ⟨w.heap.size, 2, none⟩ = some (.int .i64 (ov : Int)) := k2
  have rr0 : (W.drewN nq).cell? ⟨w.heap.size + 1, 0, none⟩ = some (.int .i64 0) := r0
  have rr1 : (W.drewN nq).cell? ⟨w.heap.size + 1, 1, none⟩ = some (.slice none 0 0) := r1
  have rr2 : (W.drewN nq).cell? ⟨w.heap.size + 1, 2, none⟩ = some (.int .i64 0) := r2
  have qq0 : (W.drewN nq).frozen? ⟨w.heap.size + 1, 0, none⟩ = false := q0
  have qq1 : (W.drewN nq).frozen? ⟨w.heap.size + 1, 1, none⟩ = false := q1
  have qq2 : (W.drewN nq).frozen? ⟨w.heap.size + 1, 2, none⟩ = false := q2
  clear k0 k1 k2 r0 r1 r2 q0 q1 q2 zK2 ya yb y0 y1
  generalize W.drewN nq = V at *
  have hck := HCK.out
  go_wp2_with ((go_at_call 23; refine (rless_any _ _ _).mono ?_; rintro e w1 ⟨rfl, hw1⟩; subst hw1))
  have v1 : IntKind.i64.wrap (2 + (k : Int)) = 2 + (k : Int) := IntWalk.i64_in _ (by omega)
  have v2 : IntKind.i64.wrap (((hdr l : Nat) : Int) - (k : Int)) = ((hdr l : Nat) : Int) - (k : Int) := IntWalk.i64_in _ (by omega)
  go_region_held3 (fun w' => w'.cell? ⟨w.heap.size, 0, none⟩ = some (.int .i64 room) ∧ w'.cell? ⟨w.heap.size, 1, none⟩ = some (.slice (some ad) n c)) (go_keep) (fail)
  go_wp2
  have hcut := hX1.cut (k := 2 + k) hkn2 hn
  have hcw := HX.out.cut (k := 2 + k) hkn2 hn
  rw [if_neg hck] at hcut hcw
  refine bodyPost_ret (v := .tuple #[.agg #[.int .i64 room, .slice (some (ad.add (2 + k))) (n - (2 + k)) (c - (2 + k)), .int .i64 (((hdr l : Nat) : Int) - (k : Int))], .slice none 0 0, .int .i64 2]) ?_ rfl ⟨some (ad.add (2 + k)), c - (2 + k), none, 0, rfl, ?_, Nat.sub_le_sub_right hn _, RB.nil_ _, ?_, by first | rfl | simp [block_of_add], fun h0 => by first | (exfalso; omega) | rfl | simp [block_of_add]⟩
  · simp [results, Try.results12, go_sem, *]
  · exact RB.far3 hcut (by have h9 := hcw.old_ne (g := w.heap.size + 1) (Nat.le_succ _); exact h9) _ _ _
  · first | (go_grown; done) | exact below_drawn (by go_grown) _
theorem rnext_over (A : Option Addr) (n c ov : Nat) (room : Int) (l : List UInt8) (w : World) (hx : RB w A n l) (hn : n ≤ c) (hn2 : n ≤ 65536) (hov : ov ≤ 65535) (h2 : 2 ≤ n) (hN6 : 600 < hdr l) (k : Nat) (hk : min (hdr l) (n - 2) = k) : Calls Try.prog 12 #[.agg #[.int .i64 room, .slice A n c, .int .i64 (ov : Int)]] w fun e w' => RNextPost A 2 room (n - (2 + k)) (l.drop (2 + k)) (((hdr l : Nat) : Int) - (k : Int)) 0 [] w e w' := by
  by_cases hck : c = 2 + k
  · exact rnext_over1 A n c ov room l w hx hn hn2 hov h2 hN6 k hk hck
  · exact rnext_over2 A n c ov room l w hx hn hn2 hov h2 hN6 k hk hck
end Go.Proofs.Ytmkehbmegimecaa
