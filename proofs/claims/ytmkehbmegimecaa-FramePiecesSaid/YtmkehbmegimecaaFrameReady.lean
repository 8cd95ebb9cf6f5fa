/- frame: Ready, by contract, in every case; what the document's Next says of the kind. -/
import Derived.Test.YtmkehbmegimecaaFrameNx
import Derived.Test.YtmkehbmegimecaaFrameRef5
namespace Go.Proofs.Ytmkehbmegimecaa
set_option linter.unusedVariables false
set_option linter.unusedSimpArgs false
open Go.RowKit
theorem drew_below {W w9 : World} (h : Below W.drew.heap.size W.drew w9) : Below W.heap.size W w9 := ⟨h.os, h.tape, h.output, h.size, h.block⟩
/-- The kind of what comes next. -/
def nkind (n : Nat) (l : List UInt8) : Int := if n < 2 then 0 else if 600 < hdr l then 2 else if n < 2 + hdr l then 0 else 1
theorem look_kind (p n cap : Nat) (A : Option Addr) (room ov : Int) (l : List UInt8) (w : World) (hp : Blk w p 58 #[.int .i64 room, .slice A n cap, .int .i64 ov]) (ht : Wt w A n cap l) (hn : n ≤ 1099511627776) : Calls Try.prog 25 #[.pointer (some ⟨p, 0, none⟩)] w fun e w' => ∃ m : Int, e = .returned (.tuple #[.int .i64 (nkind n l), .int .i64 m]) ∧ Below w.heap.size w w' := by
  unfold nkind
  by_cases h2 : n < 2
  · rw [if_pos h2]
    exact (look_few p n cap A room ov l w hp ht hn h2).mono fun e w' ⟨he, hw⟩ => ⟨_, he, hw ▸ Below.refl _ _⟩
  · rw [if_neg h2]
    by_cases h6 : 600 < hdr l
    · rw [if_pos h6]
      exact (look_over p n cap A room ov l w hp ht hn (by omega) h6).mono fun e w' ⟨he, hw⟩ => ⟨_, he, hw⟩
    · rw [if_neg h6]
      by_cases hs : n < 2 + hdr l
      · rw [if_pos hs]
        exact (look_short p n cap A room ov l w hp ht hn (by omega) (by omega) hs).mono fun e w' ⟨he, hw⟩ => ⟨_, he, hw⟩
      · rw [if_neg hs]
        exact (look_whole p n cap A room ov l w hp ht hn (by omega) (by omega) (by omega)).mono fun e w' ⟨he, hw⟩ => ⟨_, he, hw⟩
set_option maxHeartbeats 1000000 in
theorem ready_any (p n cap : Nat) (A : Option Addr) (room ov : Int) (l : List UInt8) (w : World) (hp : Blk w p 58 #[.int .i64 room, .slice A n cap, .int .i64 ov]) (ht : Wt w A n cap l) (hn : n ≤ 1099511627776) : Calls Try.prog 22 #[.pointer (some ⟨p, 0, none⟩)] w fun e w' => e = .returned (.int .i64 (nkind n l)) ∧ Below w.heap.size w w' := by
  have HL := Lib.hid (look_kind p n cap A room ov l w hp ht hn); clear hp ht
  generalize nkind n l = K at HL ⊢
  go_enter Try.func22, Try.ntmps22
  go_wp2_with fail
  refine HL.out.mono ?_
  rintro e w1 ⟨m, rfl, hb⟩
  go_wp2
  go_ret
  exact ⟨rfl, hb⟩
def RKindPost (kind : Int) (w : World) (e : Ending) (w' : World) : Prop :=
  ∃ (room ov' : Int) (A' B : Option Addr) (n' c' nb cb : Nat), e = .returned (.tuple #[.agg #[.int .i64 room, .slice A' n' c', .int .i64 ov'], .slice B nb cb, .int .i64 kind]) ∧ Below w.heap.size w w'
theorem rkind_any (A : Option Addr) (n c ov : Nat) (room : Int) (l : List UInt8) (w : World) (hx : RB w A n l) (hn : n ≤ c) (hn2 : n ≤ 65536) (hov : ov ≤ 65535) : Calls Try.prog 12 #[.agg #[.int .i64 room, .slice A n c, .int .i64 (ov : Int)]] w fun e w' => RKindPost (nkind n l) w e w' := by
  unfold nkind
  by_cases h2 : n < 2
  · rw [if_pos h2]
    exact (rnext_few A n c ov room l w hx hn hn2 hov h2).mono fun e w' ⟨A', c', B, cb, he, _, _, _, hb, _⟩ => ⟨_, _, _, _, _, _, _, _, he, hb⟩
  · rw [if_neg h2]
    by_cases h6 : 600 < hdr l
    · rw [if_pos h6]
      exact (rnext_over A n c ov room l w hx hn hn2 hov (by omega) h6 _ rfl).mono fun e w' ⟨A', c', B, cb, he, _, _, _, hb, _⟩ => ⟨_, _, _, _, _, _, _, _, he, hb⟩
    · rw [if_neg h6]
      by_cases hs : n < 2 + hdr l
      · rw [if_pos hs]
        exact (rnext_short A n c ov room l w hx hn hn2 hov (by omega) (by omega) hs).mono fun e w' ⟨A', c', B, cb, he, _, _, _, hb, _⟩ => ⟨_, _, _, _, _, _, _, _, he, hb⟩
      · rw [if_neg hs]
        exact (rnext_whole A n c ov room l w hx hn hn2 hov (by omega) _ rfl (by omega) (by omega)).mono fun e w' ⟨A', c', B, cb, he, _, _, _, hb, _⟩ => ⟨_, _, _, _, _, _, _, _, he, hb⟩
set_option maxRecDepth 100000 in
set_option maxHeartbeats 2000000 in
theorem sm_any (p n cap c ov : Nat) (A R : Option Addr) (room : Int) (l : List UInt8) (w : World) (hp : Blk w p 58 #[.int .i64 room, .slice A n cap, .int .i64 (ov : Int)]) (ht : Wt w A n cap l) (hx : RB w R n l) (hc : n ≤ c) (hn : n ≤ 65536) (hov : ov ≤ 65535) : Calls Try.prog 15 #[.pointer (some ⟨p, 0, none⟩), .agg #[.int .i64 room, .slice R n c, .int .i64 (ov : Int)]] w fun e w' => e = .returned (.bool true) ∧ Below w.heap.size w w' := by
  have hni : (n : Int) ≤ 65536 := by omega
  have hoi : (ov : Int) ≤ 65535 := by omega
  have HP := Lib.hid hp; have HT := Lib.hid ht; have HX := Lib.hid hx; clear hp ht hx
  go_enter Try.func15, Try.ntmps15
  go_wp2_with fail
  refine (rkind_any R n c ov room l _ (RB.alloc HX.out _) hc hn hov).mono ?_
  rintro e w1 ⟨room1, ov1, A1, B1, n1, c1, nb1, cb1, rfl, hb1⟩
  have hz1 := hb1.size
  simp at hz1
  have K1 := (Blk.new w 30 #[.int .i64 room, .slice R n c, .int .i64 (ov : Int)]).below hb1 (by simp)
  have HB := Lib.hid (show Below w.heap.size w w1 from (Below.trans (by go_grown) (hb1.mono (by simp))))
  have HP1 := Lib.hid ((HP.out.alloc (.cells #[.int .i64 room, .slice R n c, .int .i64 (ov : Int)] 30)).below hb1 (by have := HP.out.lt; simp; omega))
  have HT1 := Lib.hid ((HT.out.alloc (.cells #[.int .i64 room, .slice R n c, .int .i64 (ov : Int)] 30)).below hb1)
  clear hb1
  have k0 := K1.cell 0
  have k1 := K1.cell 1
  have k2 := K1.cell 2
  simp only [List.getElem?_toArray, List.getElem?_cons_zero, List.getElem?_cons_succ] at k0 k1 k2
  clear K1
  generalize hK : nkind n l = K
  have HK := Lib.hid hK; clear hK
  go_wp2_with fail
  have k0' := cell_later ((Below.refl w1.heap.size w1).alloc (Nat.le_refl _) (.cells #[.int .i64 room1, .slice A1 n1 c1, .int .i64 ov1] 30)) k0
  have k1' := cell_later ((Below.refl w1.heap.size w1).alloc (Nat.le_refl _) (.cells #[.int .i64 room1, .slice A1 n1 c1, .int .i64 ov1] 30)) k1
  have k2' := cell_later ((Below.refl w1.heap.size w1).alloc (Nat.le_refl _) (.cells #[.int .i64 room1, .slice A1 n1 c1, .int .i64 ov1] 30)) k2
  have HP2 := Lib.hid (HP1.out.alloc (.cells #[.int .i64 room1, .slice A1 n1 c1, .int .i64 ov1] 30))
  have HT2 := Lib.hid (HT1.out.alloc (.cells #[.int .i64 room1, .slice A1 n1 c1, .int .i64 ov1] 30))
  have HB2 := Lib.hid (show Below w.heap.size w (w1.alloc (.cells #[.int .i64 room1, .slice A1 n1 c1, .int .i64 ov1] 30)) from HB.out.alloc (by omega) _)
  have hz2 : w.heap.size < (w1.alloc (.cells #[.int .i64 room1, .slice A1 n1 c1, .int .i64 ov1] 30)).heap.size := by simp; omega
  clear k0 k1 k2 HP1 HT1 HB HP HT
  generalize (w1.alloc (.cells #[.int .i64 room1, .slice A1 n1 c1, .int .i64 ov1] 30)) = W at k0' k1' k2' HP2 HT2 HB2 hz2 ⊢
  have hKK : (nkind n l == K) = true := by rw [HK.out]; simp
  go_region_held3 (fun w' => w'.cell? ⟨w.heap.size, 0, none⟩ = some (.int .i64 room) ∧ w'.cell? ⟨w.heap.size, 1, none⟩ = some (.slice R n c) ∧ w'.cell? ⟨w.heap.size, 2, none⟩ = some (.int .i64 (ov : Int))) (first | (go_split_ands; refine ⟨?_, ?_, ?_⟩ <;> first | (exact cell_later (by assumption) (by assumption)) | (go_grown; done) | go_keep)) (first
    | (go_at_call 16; refine (waiting_any p n cap A room ov _ (by first | exact HP2.out | exact HP2.out.drewN _)).mono ?_; rintro e w9 ⟨rfl, rfl⟩)
    | (go_at_call 17; refine (over_any p n cap A room ov _ (by first | exact HP2.out | exact HP2.out.drewN _)).mono ?_; rintro e w9 ⟨rfl, rfl⟩)
    | (go_at_call 22; refine (ready_any p n cap A room ov l _ (by first | exact HP2.out | exact HP2.out.drewN _) (by first | exact HT2.out | exact HT2.out.drewN _) (by omega)).mono ?_; rintro e w9 ⟨rfl, hb9⟩))
  all_goals
    go_wp2
    go_ret
    exact ⟨rfl, below_trans HB2.out (drew_below hb9)⟩
end Go.Proofs.Ytmkehbmegimecaa
