/- frame: what is next, by contract. -/
import Derived.Test.YtmkehbmegimecaaFrameNext
namespace Go.Proofs.Ytmkehbmegimecaa
set_option linter.unusedVariables false
set_option linter.unusedSimpArgs false
open Go.RowKit
set_option maxHeartbeats 400000 in
theorem look_few (p n cap : Nat) (A : Option Addr) (room ov : Int) (l : List UInt8) (w : World) (hp : Blk w p 58 #[.int .i64 room, .slice A n cap, .int .i64 ov]) (ht : Wt w A n cap l) (hn : n ≤ 1099511627776) (h2 : n < 2) : Calls Try.prog 25 #[.pointer (some ⟨p, 0, none⟩)] w fun e w' => e = .returned (.tuple #[.int .i64 0, .int .i64 0]) ∧ w = w' := by
  have hw := waiting_any p n cap A room ov w hp
  have HW := Lib.hid hw; clear hw
  have n2 : (n : Int) < 2 := by omega
  go_enter Try.func25, Try.ntmps25
  go_wp2_with ((go_at_call 16; refine (HW.out).mono ?_; rintro e w1 ⟨rfl, rfl⟩))
  go_ret2
  exact ⟨rfl, rfl⟩
set_option maxHeartbeats 400000 in
theorem look_nil (w : World) : Calls Try.prog 25 #[.pointer none] w fun e w' => e = .returned (.tuple #[.int .i64 0, .int .i64 0]) ∧ w = w' := by
  have hw := waiting_nil w
  have HW := Lib.hid hw; clear hw
  go_enter Try.func25, Try.ntmps25
  go_wp2_with ((go_at_call 16; refine (HW.out).mono ?_; rintro e w1 ⟨rfl, rfl⟩))
  go_ret2
  exact ⟨rfl, rfl⟩
set_option maxHeartbeats 1000000 in
theorem look_over (p n cap : Nat) (A : Option Addr) (room ov : Int) (l : List UInt8) (w : World) (hp : Blk w p 58 #[.int .i64 room, .slice A n cap, .int .i64 ov]) (ht : Wt w A n cap l) (hn : n ≤ 1099511627776) (h2 : 2 ≤ n) (hN : 600 < hdr l) : Calls Try.prog 25 #[.pointer (some ⟨p, 0, none⟩)] w fun e w' => e = .returned (.tuple #[.int .i64 2, .int .i64 ((hdr l : Nat) : Int)]) ∧ Below w.heap.size w w' := by
  obtain ⟨g, off, rfl, hg, x0, x1⟩ := ht.two h2
  have hw := waiting_any p n cap (some ⟨g, off, none⟩) room ov w hp
  have HW := Lib.hid hw; clear hw
  have k0 := hp.cell 0
  have k1 := hp.cell 1
  have k2 := hp.cell 2
  simp only [List.getElem?_toArray, List.getElem?_cons_zero, List.getElem?_cons_succ] at k0 k1 k2
  have n0 : 0 < n := by omega
  have n1 : (1 : Int) < (n : Int) := by omega
  have n2 : ¬ ((n : Int) < 2) := by omega
  have zp := hp.lt
  have hl := hdr_lt l
  have hle : ((hdr l : Nat) : Int) ≤ 65535 := by omega
  have hlen : ∀ (g9 c9 : Nat) (t9 : TypeId) (w9 : World), Blk w9 g9 t9 #[.int .u8 ((l.getD 0 0).toNat : Int), .int .u8 ((l.getD 1 0).toNat : Int)] → Calls Try.prog 30 #[.slice (some ⟨g9, 0, none⟩) 2 c9] w9 fun e w' => e = .returned (.int .i64 ((hdr l : Nat) : Int)) ∧ w9 = w' := fun g9 c9 t9 w9 h9 => length_any g9 c9 t9 _ _ w9 h9
  have hN2 : (600 : Int) < ((hdr l : Nat) : Int) := by omega
  clear hN
  generalize (l.getD 0 0).toNat = a at x0 hlen
  generalize (l.getD 1 0).toNat = b at x1 hlen
  generalize hdr l = N at *
  have HL := Lib.hid hlen; clear hlen ht hl hp
  go_enter Try.func25, Try.ntmps25
  go_wp2_with ((go_at_call 16; refine (HW.out).mono ?_; rintro e w1 ⟨rfl, rfl⟩))
  go_region_held3 (fun w' => w'.cell? ⟨p, 0, none⟩ = some (.int .i64 room) ∧ w'.cell? ⟨p, 1, none⟩ = some (.slice (some ⟨g, off, none⟩) n cap) ∧ w'.cell? ⟨p, 2, none⟩ = some (.int .i64 ov) ∧ w'.cell? ⟨g, off, none⟩ = some (.int .u8 (a : Int)) ∧ w'.cell? ⟨g, off + 1, none⟩ = some (.int .u8 (b : Int))) (go_keep) ((go_at_call 30; refine (HL.out _ _ _ _ (by first | exact Blk.new _ _ _ | exact (Blk.new _ _ _).drew)).mono ?_; rintro e w9 ⟨rfl, rfl⟩))
  all_goals
    go_wp2
    go_ret2
    exact ⟨rfl, by first | (go_grown; done) | exact below_drawn (by go_grown) _⟩
set_option maxHeartbeats 1000000 in
theorem look_short (p n cap : Nat) (A : Option Addr) (room ov : Int) (l : List UInt8) (w : World) (hp : Blk w p 58 #[.int .i64 room, .slice A n cap, .int .i64 ov]) (ht : Wt w A n cap l) (hn : n ≤ 1099511627776) (h2 : 2 ≤ n) (hN : hdr l ≤ 600) (hs : n < 2 + hdr l) : Calls Try.prog 25 #[.pointer (some ⟨p, 0, none⟩)] w fun e w' => e = .returned (.tuple #[.int .i64 0, .int .i64 0]) ∧ Below w.heap.size w w' := by
  obtain ⟨g, off, rfl, hg, x0, x1⟩ := ht.two h2
  have hw := waiting_any p n cap (some ⟨g, off, none⟩) room ov w hp
  have HW := Lib.hid hw; clear hw
  have k0 := hp.cell 0
  have k1 := hp.cell 1
  have k2 := hp.cell 2
  simp only [List.getElem?_toArray, List.getElem?_cons_zero, List.getElem?_cons_succ] at k0 k1 k2
  have n0 : 0 < n := by omega
  have n1 : (1 : Int) < (n : Int) := by omega
  have n2 : ¬ ((n : Int) < 2) := by omega
  have zp := hp.lt
  have hl := hdr_lt l
  have hle : ((hdr l : Nat) : Int) ≤ 65535 := by omega
  have hlen : ∀ (g9 c9 : Nat) (t9 : TypeId) (w9 : World), Blk w9 g9 t9 #[.int .u8 ((l.getD 0 0).toNat : Int), .int .u8 ((l.getD 1 0).toNat : Int)] → Calls Try.prog 30 #[.slice (some ⟨g9, 0, none⟩) 2 c9] w9 fun e w' => e = .returned (.int .i64 ((hdr l : Nat) : Int)) ∧ w9 = w' := fun g9 c9 t9 w9 h9 => length_any g9 c9 t9 _ _ w9 h9
  have hN2 : ((hdr l : Nat) : Int) ≤ 600 := by omega
  have hs2 : (n : Int) < 2 + ((hdr l : Nat) : Int) := by omega
  clear hN hs
  generalize (l.getD 0 0).toNat = a at x0 hlen
  generalize (l.getD 1 0).toNat = b at x1 hlen
  generalize hdr l = N at *
  have HL := Lib.hid hlen; clear hlen ht hl hp
  go_enter Try.func25, Try.ntmps25
  go_wp2_with ((go_at_call 16; refine (HW.out).mono ?_; rintro e w1 ⟨rfl, rfl⟩))
  go_region_held3 (fun w' => w'.cell? ⟨p, 0, none⟩ = some (.int .i64 room) ∧ w'.cell? ⟨p, 1, none⟩ = some (.slice (some ⟨g, off, none⟩) n cap) ∧ w'.cell? ⟨p, 2, none⟩ = some (.int .i64 ov) ∧ w'.cell? ⟨g, off, none⟩ = some (.int .u8 (a : Int)) ∧ w'.cell? ⟨g, off + 1, none⟩ = some (.int .u8 (b : Int))) (go_keep) ((go_at_call 30; refine (HL.out _ _ _ _ (by first | exact Blk.new _ _ _ | exact (Blk.new _ _ _).drew)).mono ?_; rintro e w9 ⟨rfl, rfl⟩))
  all_goals
    go_wp2
    go_ret2
    exact ⟨rfl, by first | (go_grown; done) | exact below_drawn (by go_grown) _⟩
set_option maxHeartbeats 1000000 in
theorem look_whole (p n cap : Nat) (A : Option Addr) (room ov : Int) (l : List UInt8) (w : World) (hp : Blk w p 58 #[.int .i64 room, .slice A n cap, .int .i64 ov]) (ht : Wt w A n cap l) (hn : n ≤ 1099511627776) (h2 : 2 ≤ n) (hN : hdr l ≤ 600) (hs : 2 + hdr l ≤ n) : Calls Try.prog 25 #[.pointer (some ⟨p, 0, none⟩)] w fun e w' => e = .returned (.tuple #[.int .i64 1, .int .i64 ((hdr l : Nat) : Int)]) ∧ Below w.heap.size w w' := by
  obtain ⟨g, off, rfl, hg, x0, x1⟩ := ht.two h2
  have hw := waiting_any p n cap (some ⟨g, off, none⟩) room ov w hp
  have HW := Lib.hid hw; clear hw
  have k0 := hp.cell 0
  have k1 := hp.cell 1
  have k2 := hp.cell 2
  simp only [List.getElem?_toArray, List.getElem?_cons_zero, List.getElem?_cons_succ] at k0 k1 k2
  have n0 : 0 < n := by omega
  have n1 : (1 : Int) < (n : Int) := by omega
  have n2 : ¬ ((n : Int) < 2) := by omega
  have zp := hp.lt
  have hl := hdr_lt l
  have hle : ((hdr l : Nat) : Int) ≤ 65535 := by omega
  have hlen : ∀ (g9 c9 : Nat) (t9 : TypeId) (w9 : World), Blk w9 g9 t9 #[.int .u8 ((l.getD 0 0).toNat : Int), .int .u8 ((l.getD 1 0).toNat : Int)] → Calls Try.prog 30 #[.slice (some ⟨g9, 0, none⟩) 2 c9] w9 fun e w' => e = .returned (.int .i64 ((hdr l : Nat) : Int)) ∧ w9 = w' := fun g9 c9 t9 w9 h9 => length_any g9 c9 t9 _ _ w9 h9
  have hN2 : ((hdr l : Nat) : Int) ≤ 600 := by omega
  have hs2 : 2 + ((hdr l : Nat) : Int) ≤ (n : Int) := by omega
  clear hN hs
  generalize (l.getD 0 0).toNat = a at x0 hlen
  generalize (l.getD 1 0).toNat = b at x1 hlen
  generalize hdr l = N at *
  have HL := Lib.hid hlen; clear hlen ht hl hp
  go_enter Try.func25, Try.ntmps25
  go_wp2_with ((go_at_call 16; refine (HW.out).mono ?_; rintro e w1 ⟨rfl, rfl⟩))
  go_region_held3 (fun w' => w'.cell? ⟨p, 0, none⟩ = some (.int .i64 room) ∧ w'.cell? ⟨p, 1, none⟩ = some (.slice (some ⟨g, off, none⟩) n cap) ∧ w'.cell? ⟨p, 2, none⟩ = some (.int .i64 ov) ∧ w'.cell? ⟨g, off, none⟩ = some (.int .u8 (a : Int)) ∧ w'.cell? ⟨g, off + 1, none⟩ = some (.int .u8 (b : Int))) (go_keep) ((go_at_call 30; refine (HL.out _ _ _ _ (by first | exact Blk.new _ _ _ | exact (Blk.new _ _ _).drew)).mono ?_; rintro e w9 ⟨rfl, rfl⟩))
  all_goals
    go_wp2
    go_ret2
    exact ⟨rfl, by first | (go_grown; done) | exact below_drawn (by go_grown) _⟩
end Go.Proofs.Ytmkehbmegimecaa
