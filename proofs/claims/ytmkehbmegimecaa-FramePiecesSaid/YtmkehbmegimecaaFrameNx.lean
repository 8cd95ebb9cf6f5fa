/- frame: Next and Ready by contract. -/
import Derived.Test.YtmkehbmegimecaaFrameFrame
namespace Go.Proofs.Ytmkehbmegimecaa
set_option linter.unusedVariables false
set_option linter.unusedSimpArgs false
open Go.RowKit
attribute [local go_sem high] run_min2
set_option maxHeartbeats 400000 in
theorem next_nil (w : World) : Calls Try.prog 13 #[.pointer none] w fun e w' => e = .returned (.tuple #[.slice none 0 0, .int .i64 0]) ∧ w = w' := by
  go_enter Try.func13, Try.ntmps13
  go_wp2_with fail
  refine (look_nil _).mono ?_
  rintro e w1 ⟨rfl, rfl⟩
  go_wp2
  go_ret2
  exact ⟨rfl, rfl⟩
set_option maxHeartbeats 400000 in
theorem next_few (p n cap : Nat) (A : Option Addr) (room ov : Int) (l : List UInt8) (w : World) (hp : Blk w p 58 #[.int .i64 room, .slice A n cap, .int .i64 ov]) (ht : Wt w A n cap l) (hn : n ≤ 1099511627776) (h2 : n < 2) : Calls Try.prog 13 #[.pointer (some ⟨p, 0, none⟩)] w fun e w' => e = .returned (.tuple #[.slice none 0 0, .int .i64 0]) ∧ w = w' := by
  go_enter Try.func13, Try.ntmps13
  go_wp2_with fail
  refine (look_few p n cap A room ov l w hp ht hn h2).mono ?_
  rintro e w1 ⟨rfl, rfl⟩
  go_wp2
  go_ret2
  exact ⟨rfl, rfl⟩
set_option maxHeartbeats 400000 in
theorem next_short (p n cap : Nat) (A : Option Addr) (room ov : Int) (l : List UInt8) (w : World) (hp : Blk w p 58 #[.int .i64 room, .slice A n cap, .int .i64 ov]) (ht : Wt w A n cap l) (hn : n ≤ 1099511627776) (h2 : 2 ≤ n) (hN : hdr l ≤ 600) (hs : n < 2 + hdr l) : Calls Try.prog 13 #[.pointer (some ⟨p, 0, none⟩)] w fun e w' => e = .returned (.tuple #[.slice none 0 0, .int .i64 0]) ∧ Below w.heap.size w w' := by
  go_enter Try.func13, Try.ntmps13
  go_wp2_with fail
  refine (look_short p n cap A room ov l w hp ht hn h2 hN hs).mono ?_
  rintro e w1 ⟨rfl, hb⟩
  go_wp2
  go_ret2
  exact ⟨rfl, hb⟩
set_option maxHeartbeats 1000000 in
theorem next_over (p n cap : Nat) (A : Option Addr) (room ov : Int) (l : List UInt8) (w : World) (hp : Blk w p 58 #[.int .i64 room, .slice A n cap, .int .i64 ov]) (ht : Wt w A n cap l) (hn : n ≤ 1099511627776) (h2 : 2 ≤ n) (hN : 600 < hdr l) : Calls Try.prog 13 #[.pointer (some ⟨p, 0, none⟩)] w fun e w' => Over1 p A room l w e w' := by
  have hln : l.length = n := ht.1
  have hcn : n ≤ cap := ht.2.1
  have hNl := hdr_lt l
  obtain ⟨k, hk⟩ : ∃ k, min (hdr l) (n - 2) = k := ⟨_, rfl⟩
  have hkm : k ≤ n - 2 := by omega
  have hkN : k ≤ hdr l := by omega
  have hmin : min ((hdr l : Nat) : Int) ((n - 2 : Nat) : Int) = (k : Int) := by omega
  have hc1 : ∀ w1, Blk w1 p 58 #[.int .i64 room, .slice A n cap, .int .i64 ov] → _ := fun w1 h1 => cut_any p n cap 2 A room ov w1 h1 h2 hcn hn
  rw [show ((2 : Nat) : Int) = 2 from rfl] at hc1
  have HC1 := Lib.hid hc1; have HK := Lib.hid hk; have HLN := Lib.hid hln; have HMIN := Lib.hid hmin; clear hc1 hk hln hmin
  have hNi : ((hdr l : Nat) : Int) ≤ 65535 := by omega
  have hki : (k : Int) ≤ ((hdr l : Nat) : Int) := by omega
  go_enter Try.func13, Try.ntmps13
  go_wp2_with fail
  refine (look_over p n cap A room ov l w hp ht hn h2 hN).mono ?_
  rintro e w1 ⟨rfl, hb⟩
  have hp1 := hp.below hb hp.lt
  have ht1 := ht.below hb
  have F1 := Lib.hid (Fed.of_below (p := p) (A := none) hb)
  clear hp ht hb
  go_wp2_with fail
  refine (HC1.out w1 hp1).mono ?_
  rintro e w2 ⟨rfl, hw2⟩
  obtain ⟨hp2, ht2, _⟩ := cut_set (k := 2) hp1 ht1 h2
  rw [← hw2] at hp2 ht2
  have F2 := Lib.hid (F1.out.trans (show Fed p none w1 w2 by rw [hw2]; exact Fed.set w1 1 _))
  have HA2 := Lib.hid (cut_block A cap 2)
  clear hw2 hp1 ht1 F1
  generalize (if cap = 2 then A else A.map (·.add 2)) = A2 at *
  have k0 := hp2.cell 0
  have k1 := hp2.cell 1
  have k2 := hp2.cell 2
  simp only [List.getElem?_toArray, List.getElem?_cons_zero, List.getElem?_cons_succ] at k0 k1 k2
  have hmin := HMIN.out
  go_wp2_with fail
  refine (cut_any p (n - 2) (cap - 2) k A2 room ov w2 hp2 hkm (by omega) (by omega)).mono ?_
  rintro e w3 ⟨rfl, hw3⟩
  obtain ⟨hp3, ht3, _⟩ := cut_set (k := k) hp2 ht2 hkm
  rw [← hw3] at hp3 ht3
  have F3 := Lib.hid (F2.out.trans (show Fed p none w2 w3 by rw [hw3]; exact Fed.set w2 1 _))
  have HA3 := Lib.hid (cut_block A2 (cap - 2) k)
  clear hw3 hp2 ht2 F2 k0 k1 k2 hmin
  generalize (if cap - 2 = k then A2 else A2.map (·.add k)) = A3 at *
  have k0 := hp3.cell 0
  have k1 := hp3.cell 1
  have k2 := hp3.cell 2
  have f2 := hp3.frozen 2
  simp only [List.getElem?_toArray, List.getElem?_cons_zero, List.getElem?_cons_succ] at k0 k1 k2
  go_wp2
  go_ret2
  have e1 := HLN.out
  refine ⟨A3, cap - 2 - k, k, by rw [e1]; exact HK.out.symm, rfl, ?_, ?_, ?_, ?_⟩
  · rw [e1]
    have h9 := hp3.set_ 2 (.int .i64 (((hdr l : Nat) : Int) - (k : Int)))
    simpa using h9
  · rw [e1, ← List.drop_drop]
    exact ht3.far (p := ⟨p, 2, none⟩) (ht3.ne hp3 (by decide)) _
  · exact F3.out.trans (Fed.set w3 2 _)
  · exact HA3.out.trans HA2.out
set_option maxHeartbeats 1000000 in
theorem next_whole (p n cap : Nat) (A : Option Addr) (room ov : Int) (l : List UInt8) (w : World) (hp : Blk w p 58 #[.int .i64 room, .slice A n cap, .int .i64 ov]) (ht : Wt w A n cap l) (hn : n ≤ 1099511627776) (h2 : 2 ≤ n) (hN : hdr l ≤ 600) (hs : 2 + hdr l ≤ n) : Calls Try.prog 13 #[.pointer (some ⟨p, 0, none⟩)] w fun e w' => Whole1 p A room ov l w e w' := by
  have hln : l.length = n := ht.1
  have hcn : n ≤ cap := ht.2.1
  have hkm : hdr l ≤ n - 2 := by omega
  have hc1 : ∀ w1, Blk w1 p 58 #[.int .i64 room, .slice A n cap, .int .i64 ov] → _ := fun w1 h1 => cut_any p n cap 2 A room ov w1 h1 h2 hcn hn
  rw [show ((2 : Nat) : Int) = 2 from rfl] at hc1
  have HC1 := Lib.hid hc1; have HLN := Lib.hid hln; clear hc1 hln
  go_enter Try.func13, Try.ntmps13
  go_wp2_with fail
  refine (look_whole p n cap A room ov l w hp ht hn h2 hN hs).mono ?_
  rintro e w1 ⟨rfl, hb⟩
  have hp1 := hp.below hb hp.lt
  have ht1 := ht.below hb
  have F1 := Lib.hid (Fed.of_below (p := p) (A := none) hb)
  clear hp ht hb
  go_wp2_with fail
  refine (HC1.out w1 hp1).mono ?_
  rintro e w2 ⟨rfl, hw2⟩
  obtain ⟨hp2, ht2, _⟩ := cut_set (k := 2) hp1 ht1 h2
  rw [← hw2] at hp2 ht2
  have F2 := Lib.hid (F1.out.trans (show Fed p none w1 w2 by rw [hw2]; exact Fed.set w1 1 _))
  have HA2 := Lib.hid (cut_block A cap 2)
  clear hw2 hp1 ht1 F1
  generalize (if cap = 2 then A else A.map (·.add 2)) = A2 at *
  go_wp2_with fail
  refine (cut_any p (n - 2) (cap - 2) (hdr l) A2 room ov w2 hp2 hkm (by omega) (by omega)).mono ?_
  rintro e w3 ⟨rfl, hw3⟩
  obtain ⟨hp3, ht3, hr3⟩ := cut_set (k := hdr l) hp2 ht2 hkm
  rw [← hw3] at hp3 ht3 hr3
  have F3 := Lib.hid (F2.out.trans (show Fed p none w2 w3 by rw [hw3]; exact Fed.set w2 1 _))
  have HA3 := Lib.hid (cut_block A2 (cap - 2) (hdr l))
  clear hw3 hp2 ht2 F2
  generalize (if cap - 2 = hdr l then A2 else A2.map (·.add (hdr l))) = A3 at *
  go_wp2_with fail
  refine (clone_any A2 (hdr l) _ _ w3 hr3 (by omega)).mono ?_
  rintro e w4 ⟨B, c4, rfl, ht4, hb4, hB4⟩
  have hp4 := hp3.below hb4 hp3.lt
  have ht5 := ht3.below hb4
  have F4 := Lib.hid (F3.out.trans (Fed.of_below hb4))
  have F3s := Lib.hid F3.out.2.2.2.1
  have HB4 := Lib.hid hB4
  clear hp3 ht3 hr3 hb4 F3 hB4
  go_wp2
  go_ret2
  have e1 := HLN.out
  refine ⟨A3, cap - 2 - hdr l, B, c4, rfl, by rw [e1]; exact hp4, by rw [e1, ← List.drop_drop]; exact ht5, ht4, F4.out, HA3.out.trans HA2.out, fun g hg => Nat.le_trans F3s.out (HB4.out g hg)⟩
end Go.Proofs.Ytmkehbmegimecaa
