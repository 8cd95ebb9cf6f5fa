/- The document's buffer by contract: less, Feed, Next. -/
import Derived.Test.YtmkehbmegimecaaFrameRef
namespace Go.Proofs.Ytmkehbmegimecaa
set_option linter.unusedVariables false
set_option linter.unusedSimpArgs false
open Go.RowKit
theorem ret_int {k : IntKind} {a b : Int} (h : a = b) : Ending.returned (.int k a) = .returned (.int k b) := by rw [h]
set_option maxHeartbeats 400000 in
theorem rless_any (a b : Int) (w : World) : Calls Try.prog 23 #[.int .i64 a, .int .i64 b] w fun e w' => e = .returned (.int .i64 (min a b)) ∧ w = w' := by
  have h := Lib.hid (show (min a b = a ∨ min a b = b) ∧ min a b ≤ a ∧ min a b ≤ b by omega)
  go_enter Try.func23, Try.ntmps23
  go_wp2
  all_goals
    go_ret
    exact ⟨ret_int (by have h9 := h.out; omega), rfl⟩
theorem frozen_later {w wx : World} {a : Addr} {v : Value} (hb : Below w.heap.size w wx) (h : w.cell? a = some v) (hf : w.frozen? a = false) : wx.frozen? a = false := (hb.frozen (World.block_lt_of_cell? w a h)).trans hf
theorem Wt.lt {w : World} {A : Option Addr} {n cap : Nat} {l : List UInt8} (h : Wt w A n cap l) {g : Nat} (hg : A.map (·.block) = some g) : g < w.heap.size := by
  rcases h.2.2 with ⟨rfl, _⟩ | ⟨g', off, cur, rfl, hb, _⟩
  · simp at hg
  · have e : g' = g := by simpa using hg
    subst e
    exact hb.lt
def RFeedPost (room : Int) (n' : Nat) (l' : List UInt8) (ov' : Int) (w : World) (e : Ending) (w' : World) : Prop :=
  ∃ A' c', e = .returned (.tuple #[.agg #[.int .i64 room, .slice A' n' c', .int .i64 ov'], .bool true]) ∧ RB w' A' n' l' ∧ n' ≤ c' ∧ Below w.heap.size w w' ∧ ∀ g, A'.map (·.block) = some g → w.heap.size ≤ g ∧ g < w'.heap.size
def RNextPost (A : Option Addr) (kind : Int) (room : Int) (n' : Nat) (l' : List UInt8) (ov' : Int) (nb : Nat) (body : List UInt8) (w : World) (e : Ending) (w' : World) : Prop :=
  ∃ A' c' B cb, e = .returned (.tuple #[.agg #[.int .i64 room, .slice A' n' c', .int .i64 ov'], .slice B nb cb, .int .i64 kind]) ∧ RB w' A' n' l' ∧ n' ≤ c' ∧ RB w' B nb body ∧ Below w.heap.size w w' ∧ A'.map (·.block) = A.map (·.block) ∧ (0 < nb → B.map (·.block) = A.map (·.block))
set_option maxHeartbeats 1000000 in
theorem rfeed_no (A B : Option Addr) (n c m d ov k : Nat) (room : Int) (l news : List UInt8) (w : World) (hx : RB w A n l) (hn : n ≤ c) (hy : RB w B m news) (hd : m ≤ d) (hm : m ≤ 4611686018427387904) (hn2 : n ≤ 65536) (hr0 : 0 ≤ room) (hr1 : room ≤ 65536) (hov : ov ≤ 65535) (hk : min ov m = k) (hno : room < (m : Int) - (k : Int) + (n : Int)) : Calls Try.prog 10 #[.agg #[.int .i64 room, .slice A n c, .int .i64 (ov : Int)], .slice B m d] w fun e w' => e = .returned (.tuple #[.agg #[.int .i64 room, .slice A n c, .int .i64 (ov : Int)], .bool false]) ∧ Below w.heap.size w w' := by
  have hmin : min (ov : Int) (m : Int) = (k : Int) := by omega
  have hkm : (k : Int) ≤ (m : Int) := by omega
  have hkm2 : k ≤ m := by omega
  have hkd : k ≤ d := by omega
  have hkd2 : (k : Int) ≤ (d : Int) := by omega
  have hko : (k : Int) ≤ (ov : Int) := by omega
  have hmi : (m : Int) ≤ 4611686018427387904 := by omega
  have hni : (n : Int) ≤ 65536 := by omega
  have hoi : (ov : Int) ≤ 65535 := by omega
  clear hk
  go_enter Try.func10, Try.ntmps10
  go_wp2_with ((go_at_call 23; refine (rless_any _ _ _).mono ?_; rintro e w1 ⟨rfl, rfl⟩))
  refine bodyPost_ret (v := .tuple #[.agg #[.int .i64 room, .slice A n c, .int .i64 (ov : Int)], .bool false]) ?_ rfl ⟨rfl, ?_⟩
  · simp [results, Try.results10, go_sem, *]
  · go_grown
set_option maxHeartbeats 2000000 in
theorem rfeed_yes1 (A B : Option Addr) (n c m d ov k : Nat) (room : Int) (l news : List UInt8) (w : World) (hx : RB w A n l) (hn : n ≤ c) (hy : RB w B m news) (hd : m ≤ d) (hm : m ≤ 4611686018427387904) (hn2 : n ≤ 65536) (hr0 : 0 ≤ room) (hr1 : room ≤ 65536) (hov : ov ≤ 65535) (hk : min ov m = k) (hyes : (m : Int) - (k : Int) + (n : Int) ≤ room) (hck : d = k) : Calls Try.prog 10 #[.agg #[.int .i64 room, .slice A n c, .int .i64 (ov : Int)], .slice B m d] w fun e w' => RFeedPost room (n + (m - k)) (l ++ news.drop k) ((ov - k : Nat) : Int) w e w' := by
  have hmin : min (ov : Int) (m : Int) = (k : Int) := by omega
  have hkm : (k : Int) ≤ (m : Int) := by omega
  have hkm2 : k ≤ m := by omega
  have hkd : k ≤ d := by omega
  have hkd2 : (k : Int) ≤ (d : Int) := by omega
  have hko : (k : Int) ≤ (ov : Int) := by omega
  have hmi : (m : Int) ≤ 4611686018427387904 := by omega
  have hni : (n : Int) ≤ 65536 := by omega
  have hoi : (ov : Int) ≤ 65535 := by omega
  have hcut := hy.cut hkm2 hd
  rw [if_pos hck] at hcut
  have HC := Lib.hid hcut; have HX := Lib.hid hx
  have hov2 : ((ov - k : Nat) : Int) = (ov : Int) - (k : Int) := by omega
  rw [hov2]
  have hmk : m - k ≤ 65536 := by omega
  clear hk hcut hx hy hov2
  go_enter Try.func10, Try.ntmps10
  go_wp2_with ((go_at_call 23; refine (rless_any _ _ _).mono ?_; rintro e w1 ⟨rfl, rfl⟩))
  have hB0 : Below w.heap.size w ((w.alloc (.cells #[.int .i64 room, .slice A n c, .int .i64 (ov : Int)] 30)).alloc (.cells #[.int .i64 0, .slice none 0 0, .int .i64 0] 30)) := by go_grown
  have K := blk_two w 30 30 #[.int .i64 room, .slice A n c, .int .i64 (ov : Int)] #[.int .i64 0, .slice none 0 0, .int .i64 0]
  generalize ((w.alloc (.cells #[.int .i64 room, .slice A n c, .int .i64 (ov : Int)] 30)).alloc (.cells #[.int .i64 0, .slice none 0 0, .int .i64 0] 30)) = W at hB0 K ⊢
  obtain ⟨K1, K2⟩ := K
  have k0 := K1.cell 0
  have k1 := K1.cell 1
  have k2 := K1.cell 2
  have r0 := K2.cell 0
  have r1 := K2.cell 1
  have r2 := K2.cell 2
  have q0 := K2.frozen 0
  have q1 := K2.frozen 1
  have q2 := K2.frozen 2
  simp only [List.getElem?_toArray, List.getElem?_cons_zero, List.getElem?_cons_succ] at k0 k1 k2 r0 r1 r2
  have hw1 : IntKind.i64.wrap ((ov : Int) - (k : Int)) = (ov : Int) - (k : Int) := IntWalk.i64_in _ (by omega)
  have HK1 := Lib.hid K1; have HK2 := Lib.hid K2
  clear K1 K2
  have zK2 : w.heap.size + 1 < W.heap.size := by have := HK2.out.lt; exact this
  go_region_held3 (fun w' => w'.cell? ⟨w.heap.size, 0, none⟩ = some (.int .i64 room) ∧ w'.cell? ⟨w.heap.size, 1, none⟩ = some (.slice A n c) ∧ w'.cell? ⟨w.heap.size, 2, none⟩ = some (.int .i64 (ov : Int))) (first | (go_split_ands; refine ⟨?_, ?_, ?_⟩ <;> first | (exact cell_later (by assumption) (by assumption)) | (go_grown; done) | go_keep)) ((go_at_call 24; refine (join_any A (B) n c (m - k) _ l (news.drop k) _ (HX.out.later (by first | exact hB0 | exact below_drawn hB0 1)) (HC.out.later (by first | exact hB0 | exact below_drawn hB0 1)) hn2 hmk).mono ?_; rintro e w9 ⟨v, rfl, G, cg, rfl, ht, hb9, hG⟩; have s0 := cell_later hb9 r0; have s1 := cell_later hb9 r1; have s2 := cell_later hb9 r2; have t0 := frozen_later hb9 r0 q0; have t1 := frozen_later hb9 r1 q1; have t2 := frozen_later hb9 r2 q2; have hz9 := hb9.size; (try simp at hz9); have hz8 : w.heap.size + 1 < w9.heap.size := (by omega)))
  all_goals
    go_wp2
    have hr9 := ht.rb
    have hB9 : Below w.heap.size w w9 := below_trans (by first | exact hB0 | exact below_drawn hB0 1) hb9
    have hne : G.map (·.block) ≠ some (w.heap.size + 1) := fun e9 => by
      have := hG _ e9
      simp at this
      omega
    have hgc := ht.2.1
    refine bodyPost_ret (v := .tuple #[.agg #[.int .i64 room, .slice G (n + (m - k)) cg, .int .i64 ((ov : Int) - (k : Int))], .bool true]) ?_ rfl ⟨G, cg, rfl, ?_, hgc, ?_, fun g hg => by have := hG _ hg; have hlt := ht.lt hg; simp at this; refine ⟨by omega, ?_⟩; simpa using hlt⟩
    · simp [results, Try.results10, go_sem, *]
    · exact ((hr9.far (p := ⟨w.heap.size + 1, 0, none⟩) (fun _ => hne) _).far (p := ⟨w.heap.size + 1, 1, none⟩) (fun _ => hne) _).far (p := ⟨w.heap.size + 1, 2, none⟩) (fun _ => hne) _
    · first | (go_grown; done) | exact below_drawn (by go_grown) _
set_option maxHeartbeats 2000000 in
theorem rfeed_yes2 (A B : Option Addr) (n c m d ov k : Nat) (room : Int) (l news : List UInt8) (w : World) (hx : RB w A n l) (hn : n ≤ c) (hy : RB w B m news) (hd : m ≤ d) (hm : m ≤ 4611686018427387904) (hn2 : n ≤ 65536) (hr0 : 0 ≤ room) (hr1 : room ≤ 65536) (hov : ov ≤ 65535) (hk : min ov m = k) (hyes : (m : Int) - (k : Int) + (n : Int) ≤ room) (hck : ¬ d = k) : Calls Try.prog 10 #[.agg #[.int .i64 room, .slice A n c, .int .i64 (ov : Int)], .slice B m d] w fun e w' => RFeedPost room (n + (m - k)) (l ++ news.drop k) ((ov - k : Nat) : Int) w e w' := by
  have hmin : min (ov : Int) (m : Int) = (k : Int) := by omega
  have hkm : (k : Int) ≤ (m : Int) := by omega
  have hkm2 : k ≤ m := by omega
  have hkd : k ≤ d := by omega
  have hkd2 : (k : Int) ≤ (d : Int) := by omega
  have hko : (k : Int) ≤ (ov : Int) := by omega
  have hmi : (m : Int) ≤ 4611686018427387904 := by omega
  have hni : (n : Int) ≤ 65536 := by omega
  have hoi : (ov : Int) ≤ 65535 := by omega
  have hcut := hy.cut hkm2 hd
  rw [if_neg hck] at hcut
  have HC := Lib.hid hcut; have HX := Lib.hid hx
  have hov2 : ((ov - k : Nat) : Int) = (ov : Int) - (k : Int) := by omega
  rw [hov2]
  have hmk : m - k ≤ 65536 := by omega
  clear hk hcut hx hy hov2
  go_enter Try.func10, Try.ntmps10
  go_wp2_with ((go_at_call 23; refine (rless_any _ _ _).mono ?_; rintro e w1 ⟨rfl, rfl⟩))
  have hB0 : Below w.heap.size w ((w.alloc (.cells #[.int .i64 room, .slice A n c, .int .i64 (ov : Int)] 30)).alloc (.cells #[.int .i64 0, .slice none 0 0, .int .i64 0] 30)) := by go_grown
  have K := blk_two w 30 30 #[.int .i64 room, .slice A n c, .int .i64 (ov : Int)] #[.int .i64 0, .slice none 0 0, .int .i64 0]
  generalize ((w.alloc (.cells #[.int .i64 room, .slice A n c, .int .i64 (ov : Int)] 30)).alloc (.cells #[.int .i64 0, .slice none 0 0, .int .i64 0] 30)) = W at hB0 K ⊢
  obtain ⟨K1, K2⟩ := K
  have k0 := K1.cell 0
  have k1 := K1.cell 1
  have k2 := K1.cell 2
  have r0 := K2.cell 0
  have r1 := K2.cell 1
  have r2 := K2.cell 2
  have q0 := K2.frozen 0
  have q1 := K2.frozen 1
  have q2 := K2.frozen 2
  simp only [List.getElem?_toArray, List.getElem?_cons_zero, List.getElem?_cons_succ] at k0 k1 k2 r0 r1 r2
  have hw1 : IntKind.i64.wrap ((ov : Int) - (k : Int)) = (ov : Int) - (k : Int) := IntWalk.i64_in _ (by omega)
  have HK1 := Lib.hid K1; have HK2 := Lib.hid K2
  clear K1 K2
  have zK2 : w.heap.size + 1 < W.heap.size := by have := HK2.out.lt; exact this
  go_region_held3 (fun w' => w'.cell? ⟨w.heap.size, 0, none⟩ = some (.int .i64 room) ∧ w'.cell? ⟨w.heap.size, 1, none⟩ = some (.slice A n c) ∧ w'.cell? ⟨w.heap.size, 2, none⟩ = some (.int .i64 (ov : Int))) (first | (go_split_ands; refine ⟨?_, ?_, ?_⟩ <;> first | (exact cell_later (by assumption) (by assumption)) | (go_grown; done) | go_keep)) ((go_at_call 24; refine (join_any A (B.map (·.add k)) n c (m - k) _ l (news.drop k) _ (HX.out.later (by first | exact hB0 | exact below_drawn hB0 1)) (HC.out.later (by first | exact hB0 | exact below_drawn hB0 1)) hn2 hmk).mono ?_; rintro e w9 ⟨v, rfl, G, cg, rfl, ht, hb9, hG⟩; have s0 := cell_later hb9 r0; have s1 := cell_later hb9 r1; have s2 := cell_later hb9 r2; have t0 := frozen_later hb9 r0 q0; have t1 := frozen_later hb9 r1 q1; have t2 := frozen_later hb9 r2 q2; have hz9 := hb9.size; (try simp at hz9); have hz8 : w.heap.size + 1 < w9.heap.size := (by omega)))
  all_goals
    go_wp2
    have hr9 := ht.rb
    have hB9 : Below w.heap.size w w9 := below_trans (by first | exact hB0 | exact below_drawn hB0 1) hb9
    have hne : G.map (·.block) ≠ some (w.heap.size + 1) := fun e9 => by
      have := hG _ e9
      simp at this
      omega
    have hgc := ht.2.1
    refine bodyPost_ret (v := .tuple #[.agg #[.int .i64 room, .slice G (n + (m - k)) cg, .int .i64 ((ov : Int) - (k : Int))], .bool true]) ?_ rfl ⟨G, cg, rfl, ?_, hgc, ?_, fun g hg => by have := hG _ hg; have hlt := ht.lt hg; simp at this; refine ⟨by omega, ?_⟩; simpa using hlt⟩
    · simp [results, Try.results10, go_sem, *]
    · exact ((hr9.far (p := ⟨w.heap.size + 1, 0, none⟩) (fun _ => hne) _).far (p := ⟨w.heap.size + 1, 1, none⟩) (fun _ => hne) _).far (p := ⟨w.heap.size + 1, 2, none⟩) (fun _ => hne) _
    · first | (go_grown; done) | exact below_drawn (by go_grown) _
theorem rfeed_yes (A B : Option Addr) (n c m d ov k : Nat) (room : Int) (l news : List UInt8) (w : World) (hx : RB w A n l) (hn : n ≤ c) (hy : RB w B m news) (hd : m ≤ d) (hm : m ≤ 4611686018427387904) (hn2 : n ≤ 65536) (hr0 : 0 ≤ room) (hr1 : room ≤ 65536) (hov : ov ≤ 65535) (hk : min ov m = k) (hyes : (m : Int) - (k : Int) + (n : Int) ≤ room) : Calls Try.prog 10 #[.agg #[.int .i64 room, .slice A n c, .int .i64 (ov : Int)], .slice B m d] w fun e w' => RFeedPost room (n + (m - k)) (l ++ news.drop k) ((ov - k : Nat) : Int) w e w' := by
  by_cases hck : d = k
  · exact rfeed_yes1 A B n c m d ov k room l news w hx hn hy hd hm hn2 hr0 hr1 hov hk hyes hck
  · exact rfeed_yes2 A B n c m d ov k room l news w hx hn hy hd hm hn2 hr0 hr1 hov hk hyes hck
end Go.Proofs.Ytmkehbmegimecaa
