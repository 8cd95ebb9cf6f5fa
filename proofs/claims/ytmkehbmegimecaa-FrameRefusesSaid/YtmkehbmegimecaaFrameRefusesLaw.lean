/- FrameRefuses: (P5.2) what is more than there is room for does not come in, and nothing changes. Conditions: none. -/
import Derived.Test.YtmkehbmegimecaaFrameKnown
import Derived.Test.YtmkehbmegimecaaFrame
import Derived.Lib.SmallJoins
namespace Go.Proofs.Ytmkehbmegimecaa.frameRefuses
set_option linter.unusedVariables false
set_option linter.unusedSimpArgs false
open Go.ChangeShapes Go.WideShapes Go.ChangeAt Go.RowKit
open Go.ChangeMaps (open_string shut_string)
theorem row_le {w : World} {k : IntKind} {a : Option Addr} {len cap : Nat} {zs : List Int} (h : IsRow k w a len cap zs) : len ≤ cap := by
  rcases h with ⟨_, rfl, rfl, _⟩ | ⟨_, _, h, _⟩
  · exact Nat.le_refl _
  · exact h
theorem far_new {w w' : World} {B : Option Addr} {m : Nat} {l : List UInt8} {p : Nat} (h : RB w B m l) (hp : w.heap.size ≤ p) : 0 < m → B.map (·.block) ≠ some p := fun h0 => by
  obtain ⟨ad, rfl, hlt, _⟩ := h.2 h0
  simp; omega
set_option maxHeartbeats 2000000 in
theorem w_yy (room : Int) (A : Option Addr) (m c : Nat) (zs : List Int) (B : Option Addr) (n d : Nat) (ys : List Int) (w : World) (h : IsRow .u8 w A m c zs) (g : IsRow .u8 w B n d ys) (h0 : 602 ≤ room) (h1 : room ≤ 4096) (a : (m : Int) ≤ room) (b : (n : Int) ≤ room - (m : Int)) : Calls Try.prog 6 #[.int .i64 room, .slice A m c, .slice B n d] w fun e w' => e = .returned (.bool true) ∧ Below w.heap.size w w' := by
  obtain ⟨hm, l, hr⟩ := h.rb
  obtain ⟨hn, l2, hr2⟩ := g.rb
  have hmc := row_le h
  have hnd := row_le g
  unfold maxLen at hm hn
  have hmi : (m : Int) ≤ 9223372036854775807 := by omega
  have hni : (n : Int) ≤ 9223372036854775807 := by omega
  have HR := Lib.hid hr; have HR2 := Lib.hid hr2; clear hr hr2 h g
  go_enter Try.func6, Try.ntmps6
  go_wp2_with fail
  refine (new_yes room h0 h1 w).mono ?_
  rintro e w1 ⟨rfl, hw1⟩
  have hp1 : Blk w1 w.heap.size 58 #[.int .i64 room, .slice none 0 0, .int .i64 0] := by rw [← hw1]; exact Blk.new _ _ _
  have hB1 : Below w.heap.size w w1 := by rw [← hw1]; go_grown
  clear hw1
  go_wp2_with fail
  refine (feed_yes w.heap.size 0 0 m c 0 0 none A room [] l w1 hp1 (Wt.nil_ _) (HR.out.later hB1) hmc hm (by omega) h1 (by omega) (by omega) (far_new (w' := w1) HR.out (Nat.le_refl _)) (by omega)).mono ?_
  rintro e w2 ⟨A2, c2, rfl, hp2, ht2, hf2, hl2⟩
  have hB2 : Below w.heap.size w w2 := fed_below hB1 hf2 (Nat.le_refl _) (fun g hg => by simp at hg)
  have hA2 : ∀ g, A2.map (·.block) = some g → w.heap.size ≤ g := fun g hg => by
    have h9 := hB1.size
    rcases hl2 with h | h <;> rw [hg] at h
    · simp at h
    · simp at h; omega
  rw [show 0 + (m - 0) = m by omega] at hp2 ht2
  rw [show ((0 - 0 : Nat) : Int) = 0 from rfl] at hp2
  rw [show ([] : List UInt8) ++ l.drop 0 = l by simp] at ht2
  have HT2 := Lib.hid ht2; have HA2 := Lib.hid hA2
  clear hf2 hl2 ht2 hA2 hp1 hB1
  go_wp2_with fail
  refine (waiting_any w.heap.size m c2 A2 room 0 w2 hp2).mono ?_
  rintro e w3 ⟨rfl, rfl⟩
  go_wp2_with fail
  refine (feed_yes w.heap.size m c2 n d 0 0 A2 B room l l2 _ hp2 HT2.out (HR2.out.later hB2) hnd hn (by omega) h1 (by omega) (by omega) (far_new (w' := w) HR2.out (Nat.le_refl _)) (by omega)).mono ?_
  rintro e w4 ⟨A4, c4, rfl, hp4, ht4, hf4, hl4⟩
  have hB4 : Below w.heap.size w w4 := fed_below hB2 hf4 (Nat.le_refl _) HA2.out
  rw [show m + (n - 0) = m + n by omega] at hp4
  rw [show ((0 - 0 : Nat) : Int) = 0 from rfl] at hp4
  clear hf4 hl4 ht4
  go_wp2_with fail
  refine (waiting_any w.heap.size (m + n) c4 A4 room 0 w4 hp4).mono ?_
  rintro e w5 ⟨rfl, rfl⟩
  go_wp2_with fail
  refine (known_any _).mono ?_
  rintro e w9 ⟨rfl, hb9⟩
  go_wp2
  go_ret
  exact ⟨rfl, below_trans hB4 hb9⟩
set_option maxHeartbeats 2000000 in
theorem w_yn (room : Int) (A : Option Addr) (m c : Nat) (zs : List Int) (B : Option Addr) (n d : Nat) (ys : List Int) (w : World) (h : IsRow .u8 w A m c zs) (g : IsRow .u8 w B n d ys) (h0 : 602 ≤ room) (h1 : room ≤ 4096) (a : (m : Int) ≤ room) (b : room - (m : Int) < (n : Int)) : Calls Try.prog 6 #[.int .i64 room, .slice A m c, .slice B n d] w fun e w' => e = .returned (.bool true) ∧ Below w.heap.size w w' := by
  obtain ⟨hm, l, hr⟩ := h.rb
  obtain ⟨hn, l2, hr2⟩ := g.rb
  have hmc := row_le h
  have hnd := row_le g
  unfold maxLen at hm hn
  have hmi : (m : Int) ≤ 9223372036854775807 := by omega
  have hni : (n : Int) ≤ 9223372036854775807 := by omega
  have HR := Lib.hid hr; have HR2 := Lib.hid hr2; clear hr hr2 h g
  go_enter Try.func6, Try.ntmps6
  go_wp2_with fail
  refine (new_yes room h0 h1 w).mono ?_
  rintro e w1 ⟨rfl, hw1⟩
  have hp1 : Blk w1 w.heap.size 58 #[.int .i64 room, .slice none 0 0, .int .i64 0] := by rw [← hw1]; exact Blk.new _ _ _
  have hB1 : Below w.heap.size w w1 := by rw [← hw1]; go_grown
  clear hw1
  go_wp2_with fail
  refine (feed_yes w.heap.size 0 0 m c 0 0 none A room [] l w1 hp1 (Wt.nil_ _) (HR.out.later hB1) hmc hm (by omega) h1 (by omega) (by omega) (far_new (w' := w1) HR.out (Nat.le_refl _)) (by omega)).mono ?_
  rintro e w2 ⟨A2, c2, rfl, hp2, ht2, hf2, hl2⟩
  have hB2 : Below w.heap.size w w2 := fed_below hB1 hf2 (Nat.le_refl _) (fun g hg => by simp at hg)
  have hA2 : ∀ g, A2.map (·.block) = some g → w.heap.size ≤ g := fun g hg => by
    have h9 := hB1.size
    rcases hl2 with h | h <;> rw [hg] at h
    · simp at h
    · simp at h; omega
  rw [show 0 + (m - 0) = m by omega] at hp2 ht2
  rw [show ((0 - 0 : Nat) : Int) = 0 from rfl] at hp2
  rw [show ([] : List UInt8) ++ l.drop 0 = l by simp] at ht2
  have HT2 := Lib.hid ht2; have HA2 := Lib.hid hA2
  clear hf2 hl2 ht2 hA2 hp1 hB1
  go_wp2_with fail
  refine (waiting_any w.heap.size m c2 A2 room 0 w2 hp2).mono ?_
  rintro e w3 ⟨rfl, rfl⟩
  go_wp2_with fail
  refine (feed_no w.heap.size m c2 n d 0 0 A2 B room l l2 _ hp2 HT2.out (HR2.out.later hB2) hnd hn (by omega) h1 (by omega) (by omega) (far_new (w' := w) HR2.out (Nat.le_refl _)) (by omega)).mono ?_
  rintro e w4 ⟨rfl, q4, hw4⟩
  have hp4 : Blk w4 w.heap.size 58 #[.int .i64 room, .slice A2 m c2, .int .i64 0] := by rw [hw4]; exact hp2.drewN q4
  have hB4 : Below w.heap.size w w4 := by rw [hw4]; exact below_drawn hB2 q4
  clear hw4
  go_wp2_with fail
  refine (waiting_any w.heap.size m c2 A2 room 0 w4 hp4).mono ?_
  rintro e w5 ⟨rfl, rfl⟩
  go_wp2_with fail
  refine (known_any _).mono ?_
  rintro e w9 ⟨rfl, hb9⟩
  go_wp2
  go_ret
  exact ⟨rfl, below_trans hB4 hb9⟩
set_option maxHeartbeats 2000000 in
theorem w_ny (room : Int) (A : Option Addr) (m c : Nat) (zs : List Int) (B : Option Addr) (n d : Nat) (ys : List Int) (w : World) (h : IsRow .u8 w A m c zs) (g : IsRow .u8 w B n d ys) (h0 : 602 ≤ room) (h1 : room ≤ 4096) (a : room < (m : Int)) (b : (n : Int) ≤ room) : Calls Try.prog 6 #[.int .i64 room, .slice A m c, .slice B n d] w fun e w' => e = .returned (.bool true) ∧ Below w.heap.size w w' := by
  obtain ⟨hm, l, hr⟩ := h.rb
  obtain ⟨hn, l2, hr2⟩ := g.rb
  have hmc := row_le h
  have hnd := row_le g
  unfold maxLen at hm hn
  have hmi : (m : Int) ≤ 9223372036854775807 := by omega
  have hni : (n : Int) ≤ 9223372036854775807 := by omega
  have HR := Lib.hid hr; have HR2 := Lib.hid hr2; clear hr hr2 h g
  go_enter Try.func6, Try.ntmps6
  go_wp2_with fail
  refine (new_yes room h0 h1 w).mono ?_
  rintro e w1 ⟨rfl, hw1⟩
  have hp1 : Blk w1 w.heap.size 58 #[.int .i64 room, .slice none 0 0, .int .i64 0] := by rw [← hw1]; exact Blk.new _ _ _
  have hB1 : Below w.heap.size w w1 := by rw [← hw1]; go_grown
  clear hw1
  go_wp2_with fail
  refine (feed_no w.heap.size 0 0 m c 0 0 none A room [] l w1 hp1 (Wt.nil_ _) (HR.out.later hB1) hmc hm (by omega) h1 (by omega) (by omega) (far_new (w' := w1) HR.out (Nat.le_refl _)) (by omega)).mono ?_
  rintro e w2 ⟨rfl, q, hw2⟩
  have hp2 : Blk w2 w.heap.size 58 #[.int .i64 room, .slice none 0 0, .int .i64 0] := by rw [hw2]; exact hp1.drewN q
  have hB2 : Below w.heap.size w w2 := by rw [hw2]; exact below_drawn hB1 q
  clear hw2 hp1 hB1
  go_wp2_with fail
  refine (waiting_any w.heap.size 0 0 none room 0 w2 hp2).mono ?_
  rintro e w3 ⟨rfl, rfl⟩
  go_wp2_with fail
  refine (feed_yes w.heap.size 0 0 n d 0 0 none B room [] l2 _ hp2 (Wt.nil_ _) (HR2.out.later hB2) hnd hn (by omega) h1 (by omega) (by omega) (far_new (w' := w) HR2.out (Nat.le_refl _)) (by omega)).mono ?_
  rintro e w4 ⟨A4, c4, rfl, hp4, ht4, hf4, hl4⟩
  have hB4 : Below w.heap.size w w4 := fed_below hB2 hf4 (Nat.le_refl _) (fun g hg => by simp at hg)
  rw [show 0 + (n - 0) = 0 + n by omega] at hp4
  rw [show ((0 - 0 : Nat) : Int) = 0 from rfl] at hp4
  clear hf4 hl4 ht4
  go_wp2_with fail
  refine (waiting_any w.heap.size (0 + n) c4 A4 room 0 w4 hp4).mono ?_
  rintro e w5 ⟨rfl, rfl⟩
  go_wp2_with fail
  refine (known_any _).mono ?_
  rintro e w9 ⟨rfl, hb9⟩
  go_wp2
  go_ret
  exact ⟨rfl, below_trans hB4 hb9⟩
set_option maxHeartbeats 2000000 in
theorem w_nn (room : Int) (A : Option Addr) (m c : Nat) (zs : List Int) (B : Option Addr) (n d : Nat) (ys : List Int) (w : World) (h : IsRow .u8 w A m c zs) (g : IsRow .u8 w B n d ys) (h0 : 602 ≤ room) (h1 : room ≤ 4096) (a : room < (m : Int)) (b : room < (n : Int)) : Calls Try.prog 6 #[.int .i64 room, .slice A m c, .slice B n d] w fun e w' => e = .returned (.bool true) ∧ Below w.heap.size w w' := by
  obtain ⟨hm, l, hr⟩ := h.rb
  obtain ⟨hn, l2, hr2⟩ := g.rb
  have hmc := row_le h
  have hnd := row_le g
  unfold maxLen at hm hn
  have hmi : (m : Int) ≤ 9223372036854775807 := by omega
  have hni : (n : Int) ≤ 9223372036854775807 := by omega
  have HR := Lib.hid hr; have HR2 := Lib.hid hr2; clear hr hr2 h g
  go_enter Try.func6, Try.ntmps6
  go_wp2_with fail
  refine (new_yes room h0 h1 w).mono ?_
  rintro e w1 ⟨rfl, hw1⟩
  have hp1 : Blk w1 w.heap.size 58 #[.int .i64 room, .slice none 0 0, .int .i64 0] := by rw [← hw1]; exact Blk.new _ _ _
  have hB1 : Below w.heap.size w w1 := by rw [← hw1]; go_grown
  clear hw1
  go_wp2_with fail
  refine (feed_no w.heap.size 0 0 m c 0 0 none A room [] l w1 hp1 (Wt.nil_ _) (HR.out.later hB1) hmc hm (by omega) h1 (by omega) (by omega) (far_new (w' := w1) HR.out (Nat.le_refl _)) (by omega)).mono ?_
  rintro e w2 ⟨rfl, q, hw2⟩
  have hp2 : Blk w2 w.heap.size 58 #[.int .i64 room, .slice none 0 0, .int .i64 0] := by rw [hw2]; exact hp1.drewN q
  have hB2 : Below w.heap.size w w2 := by rw [hw2]; exact below_drawn hB1 q
  clear hw2 hp1 hB1
  go_wp2_with fail
  refine (waiting_any w.heap.size 0 0 none room 0 w2 hp2).mono ?_
  rintro e w3 ⟨rfl, rfl⟩
  go_wp2_with fail
  refine (feed_no w.heap.size 0 0 n d 0 0 none B room [] l2 _ hp2 (Wt.nil_ _) (HR2.out.later hB2) hnd hn (by omega) h1 (by omega) (by omega) (far_new (w' := w) HR2.out (Nat.le_refl _)) (by omega)).mono ?_
  rintro e w4 ⟨rfl, q4, hw4⟩
  have hp4 : Blk w4 w.heap.size 58 #[.int .i64 room, .slice none 0 0, .int .i64 0] := by rw [hw4]; exact hp2.drewN q4
  have hB4 : Below w.heap.size w w4 := by rw [hw4]; exact below_drawn hB2 q4
  clear hw4
  go_wp2_with fail
  refine (waiting_any w.heap.size 0 0 none room 0 w4 hp4).mono ?_
  rintro e w5 ⟨rfl, rfl⟩
  go_wp2_with fail
  refine (known_any _).mono ?_
  rintro e w9 ⟨rfl, hb9⟩
  go_wp2
  go_ret
  exact ⟨rfl, below_trans hB4 hb9⟩
set_option maxHeartbeats 2000000 in
theorem w_no (room : Int) (A : Option Addr) (m c : Nat) (zs : List Int) (B : Option Addr) (n d : Nat) (ys : List Int) (w : World) (h : IsRow .u8 w A m c zs) (g : IsRow .u8 w B n d ys) (h0 : room < 602 ∨ 4096 < room) : Calls Try.prog 6 #[.int .i64 room, .slice A m c, .slice B n d] w fun e w' => e = .returned (.bool true) ∧ Below w.heap.size w w' := by
  obtain ⟨hm, l, hr⟩ := h.rb
  obtain ⟨hn, l2, hr2⟩ := g.rb
  have hmc := row_le h
  have hnd := row_le g
  unfold maxLen at hm hn
  have hmi : (m : Int) ≤ 9223372036854775807 := by omega
  have hni : (n : Int) ≤ 9223372036854775807 := by omega
  have HR := Lib.hid hr; have HR2 := Lib.hid hr2; clear hr hr2 h g
  go_enter Try.func6, Try.ntmps6
  go_wp2_with fail
  refine (new_no room h0 w).mono ?_
  rintro e w1 ⟨rfl, rfl⟩
  go_wp2_with fail
  refine (known_any _).mono ?_
  rintro e w9 ⟨rfl, hb9⟩
  go_wp2
  go_ret
  exact ⟨rfl, hb9⟩
theorem walk (room : Int) (A : Option Addr) (m c : Nat) (zs : List Int) (B : Option Addr) (n d : Nat) (ys : List Int) (w : World) (_hr : -9223372036854775808 ≤ room ∧ room ≤ 9223372036854775807) (h : IsRow .u8 w A m c zs) (g : IsRow .u8 w B n d ys) : Calls Try.prog 6 #[.int .i64 room, .slice A m c, .slice B n d] w fun e w' => e = .returned (.bool true) ∧ Below w.heap.size w w' := by
  by_cases h0 : room < 602 ∨ 4096 < room
  · exact w_no room A m c zs B n d ys w h g h0
  · by_cases a : (m : Int) ≤ room
    · by_cases b : (n : Int) ≤ room - (m : Int)
      · exact w_yy room A m c zs B n d ys w h g (by omega) (by omega) a b
      · exact w_yn room A m c zs B n d ys w h g (by omega) (by omega) a (by omega)
    · by_cases b : (n : Int) ≤ room
      · exact w_ny room A m c zs B n d ys w h g (by omega) (by omega) (by omega) b
      · exact w_nn room A m c zs B n d ys w h g (by omega) (by omega) (by omega) (by omega)

theorem own : ownKnob Try.prog.godebug = none := by kernel_rfl
theorem laidOut : laidOutB Try.prog = true := by kernel_rfl
set_option maxRecDepth 100000 in
theorem lifted (os : Os) (started : os.Started) (H : Type) (enc : TypeId × Value → H) :
    ReturnsInHanded {} Try.checked os 6 .any (Rows.frameRefusesSpec.pre6 enc Try.prog Try.f6 Rows.frameRefusesRow.domain false) (Rows.frameRefusesSpec.post enc Try.prog Try.f6 false true false false) := by
  refine returnsInHanded_of_change (C := Try.checked) own started (by kernel_rfl) Try.func6
    (ChangeSpec.witness6 (enc := enc) (C := Try.checked) false ⟨#[], #[.int .i64 0, .slice none 0 0, .slice none 0 0], []⟩ 8 (by kernel_rfl) (by kernel_rfl) (by kernel_rfl) (by kernel_rfl)) ?_
  intro W base args ds gs before hval0 hW hcnd _
  have hval : ∀ (j : Nat) t v, Try.f6.params[j]? = some t → args[j]? = some v → Value.okWide Try.prog W .any base t v := hval0
  have hW' := hW
  obtain ⟨p, q, hA0, hV, rfl, hfz, hnd⟩ := hW
  have hA : DataW.TrodAll enc Try.prog W 0 (fun _ => true) true Try.f6.params.toList args.toList ds p := hA0
  rw [Try.params6] at hA hval
  obtain ⟨v0, vs0, d0, ds0, p0, q0, hargs, rfl, rfl, h0, r0⟩ := trodAll_cons hA
  obtain ⟨v1, vs1, d1, ds1, p1, q1, rfl, rfl, rfl, h1, r1⟩ := trodAll_cons r0
  obtain ⟨v2, vs2, d2, ds2, p2, q2, rfl, rfl, rfl, h2, r2⟩ := trodAll_cons r1
  obtain ⟨rfl, rfl, rfl⟩ := trodAll_nil r2
  obtain rfl : args = #[v0, v1, v2] := by cases args; simp_all
  obtain ⟨rfl, rfl⟩ := trodVars_none hV
  have k0 := h0
  have lt0 : ∀ x ∈ p0, x.block < W.heap.size := by obtain ⟨m, hm⟩ := k0; exact DataW.trod_lt m _ _ _ hm
  obtain ⟨a0, rfl, rfl, rfl, w0⟩ := open_int Try.underlying3 (hval 0 3 v0 rfl rfl) h0
  have k1 := h1
  have lt1 : ∀ x ∈ p1, x.block < W.heap.size := by obtain ⟨m, hm⟩ := k1; exact DataW.trod_lt m _ _ _ hm
  obtain ⟨a1, len1, cap1, rfl⟩ := okWide_slice Try.underlying28 (hval 1 28 v1 rfl rfl)
  obtain ⟨z1, w1⟩ : ∃ zs, IsRow .u8 W a1 len1 cap1 zs := by
    obtain ⟨fuel, hf⟩ := h1
    rcases open_ints Try.underlying28 Try.underlying5 (by kernel_rfl) hf with ⟨hcs, _⟩ | ⟨x, l, c, zs, hcs, _, hl, hm, hz, _, hcell, hwz⟩
    · simp [Value.cells] at hcs
      obtain ⟨rfl, rfl, rfl⟩ := hcs
      exact ⟨[], .inl ⟨rfl, rfl, rfl, rfl⟩⟩
    · simp [Value.cells] at hcs
      obtain ⟨rfl, rfl, rfl⟩ := hcs
      exact ⟨zs, .inr ⟨_, rfl, hl, hm, by simpa using hz, hcell, hwz⟩⟩
  have k2 := h2
  have lt2 : ∀ x ∈ p2, x.block < W.heap.size := by obtain ⟨m, hm⟩ := k2; exact DataW.trod_lt m _ _ _ hm
  obtain ⟨a2, len2, cap2, rfl⟩ := okWide_slice Try.underlying28 (hval 2 28 v2 rfl rfl)
  obtain ⟨z2, w2⟩ : ∃ zs, IsRow .u8 W a2 len2 cap2 zs := by
    obtain ⟨fuel, hf⟩ := h2
    rcases open_ints Try.underlying28 Try.underlying5 (by kernel_rfl) hf with ⟨hcs, _⟩ | ⟨x, l, c, zs, hcs, _, hl, hm, hz, _, hcell, hwz⟩
    · simp [Value.cells] at hcs
      obtain ⟨rfl, rfl, rfl⟩ := hcs
      exact ⟨[], .inl ⟨rfl, rfl, rfl, rfl⟩⟩
    · simp [Value.cells] at hcs
      obtain ⟨rfl, rfl, rfl⟩ := hcs
      exact ⟨zs, .inr ⟨_, rfl, hl, hm, by simpa using hz, hcell, hwz⟩⟩
  clear hA0 hval0
  refine (walk a0 a1 len1 cap1 z1 a2 len2 cap2 z2 W (bounds_i64 w0) w1 w2).mono fun e W' ⟨he, bel⟩ => ?_
  subst he
  exact ⟨_, rfl, _, _, _, [], _, [], hW', trodAll_mk1 (shut_bool Try.underlying4 _), (trodAll_cons_mk (Below.trod laidOut (by kernel_rfl) (of_decide_eq_true (by kernel_rfl)) k0 bel lt0) (trodAll_cons_mk (Below.trod laidOut (by kernel_rfl) (of_decide_eq_true (by kernel_rfl)) k1 bel lt1) (trodAll_cons_mk (Below.trod laidOut (by kernel_rfl) (of_decide_eq_true (by kernel_rfl)) k2 bel lt2) trodAll_mk0))), rfl, bel.frame _, fun h => by cases h⟩
theorem over : Rows.frameRefusesRow.holds Try.pinned (OpenSpec.ofChange Rows.frameRefusesSpec) :=
  OpenClaim.holds_of_wide 6 Try.f6 rfl rfl rfl rfl rfl rfl rfl ⟨rfl, rfl, rfl, rfl, rfl⟩ rfl rfl rfl rfl rfl (by kernel_rfl) Try.func6 (by kernel_rfl)
    (of_decide_eq_true (by kernel_rfl)) (by unfold Func.isWrapper; first | (rw [if_pos (by decide +kernel)]; kernel_rfl) | (rw [if_neg (by decide +kernel)]; exact ⟨rfl, rfl⟩))
    (fun os started H enc _ => lifted os started H enc)
/-- The statement. -/
theorem proved : Rows.FrameRefusesSaid := over
#print axioms proved
end Go.Proofs.Ytmkehbmegimecaa.frameRefuses
