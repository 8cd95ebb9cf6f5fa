/- NumBack: (P1.5) for every number and every text: what is written, in digits or in hex, is read as it was, and what is read is written as it stood. Conditions: none. -/
import Derived.Test.YtdnjhaplofakbaaNumKnown
import Derived.Test.YtdnjhaplofakbaaNumMath
import Derived.Test.YtdnjhaplofakbaaRefParse
import Derived.Test.YtdnjhaplofakbaaFrame
namespace Go.Proofs.Ytdnjhaplofakbaa.numBack
set_option linter.unusedVariables false
set_option linter.unusedSimpArgs false
open Go.ChangeShapes Go.WideShapes Go.ChangeAt Go.RowKit
open Go.ChangeMaps (open_string shut_string)
open NumS
theorem parse_dec_c (n : Nat) (hn : n ≤ 18446744073709551615) (w : World) :
    Calls Try.prog 10 #[.string (decB n)] w fun e w' => e = .returned (.tuple #[.int .u64 n, .int .i64 0]) ∧ w = w' := by
  have hs : (decB n).size ≤ maxLen := by
    have h1 : (decB n).size = nd n := by simp [decB, ByteArray.size, dec_length]
    have h2 := nd_le n hn
    rw [h1]; unfold maxLen; omega
  have h := parse_any (decB n) w hs
  have e : (decB n).data.toList = dec n := by simp [decB]
  rw [e, pv_some _ _ (parse_dec n hn), pe_some _ _ (parse_dec n hn)] at h
  exact h
theorem read_hex_c (n : Nat) (hn : n ≤ 18446744073709551615) (w : World) :
    Calls Try.prog 15 #[.string (hexB n)] w fun e w' => e = .returned (.tuple #[.int .u64 n, .int .i64 0]) ∧ w = w' := by
  have h := readhex_any (hexB n) w
  have e : (hexB n).data.toList = hexD 16 n := by simp [hexB]
  rw [e, (read_hex n hn).1, (read_hex n hn).2] at h
  exact h
/-- What reading a text comes to: refused, or a number whose text it is. -/
theorem parse_cases (s : ByteArray) (w : World) (hs : s.size ≤ maxLen) :
    (∀ w, Calls Try.prog 10 #[.string s] w fun e w' => e = .returned (.tuple #[.int .u64 0, .int .i64 10]) ∧ w = w') ∨
    ∃ d : Nat, d ≤ 18446744073709551615 ∧ decB d = s ∧ ∀ w, Calls Try.prog 10 #[.string s] w fun e w' => e = .returned (.tuple #[.int .u64 d, .int .i64 0]) ∧ w = w' := by
  cases h : parseS s.data.toList with
  | none =>
    left; intro w
    have := parse_any s w hs
    rw [pv_none _ h, pe_none _ h] at this
    exact this
  | some d =>
    right
    have hd := dec_parse _ d h
    refine ⟨d, hd.2, by apply ByteArray.ext; simp [decB, hd.1], fun w => ?_⟩
    have := parse_any s w hs
    rw [pv_some _ _ h, pe_some _ _ h] at this
    exact this
theorem hex_cases (s : ByteArray) :
    (∀ w, Calls Try.prog 15 #[.string s] w fun e w' => e = .returned (.tuple #[.int .u64 0, .int .i64 11]) ∧ w = w') ∨
    ∃ d : Nat, d ≤ 18446744073709551615 ∧ hexB d = s ∧ ∀ w, Calls Try.prog 15 #[.string s] w fun e w' => e = .returned (.tuple #[.int .u64 d, .int .i64 0]) ∧ w = w' := by
  cases h : rS s.data.toList with
  | none =>
    left; intro w
    have := readhex_any s w
    have e1 : rv s.data.toList = 0 := by simp [rv, h]
    have e2 : re s.data.toList = 11 := by simp [re, h]
    rw [e1, e2] at this
    exact this
  | some d =>
    right
    have hd := hex_read _ d h
    refine ⟨d, hd.2, by apply ByteArray.ext; simp [hexB, hd.1], fun w => ?_⟩
    have := readhex_any s w
    have e1 : rv s.data.toList = d := by simp [rv, h]
    have e2 : re s.data.toList = 0 := by simp [re, h]
    rw [e1, e2] at this
    exact this
set_option maxHeartbeats 400000 in
theorem walk00 (n : Nat) (s : ByteArray) (w : World) (hn : n ≤ 18446744073709551615)
    (HP : Hid (∀ w, Calls Try.prog 10 #[.string s] w fun e w' => e = .returned (.tuple #[.int .u64 0, .int .i64 10]) ∧ w = w'))
    (HR : Hid (∀ w, Calls Try.prog 15 #[.string s] w fun e w' => e = .returned (.tuple #[.int .u64 0, .int .i64 11]) ∧ w = w')) :
    Calls Try.prog 4 #[.int .u64 n, .string s] w fun e w' => e = .returned (.bool true) ∧ Below w.heap.size w w' := by
  go_enter Try.func4, Try.ntmps4
  go_wp2_with fail
  refine (text_any n hn _).mono ?_
  rintro e w1 ⟨rfl, hb1⟩
  go_wp2_with fail
  refine (parse_dec_c n hn _).mono ?_
  rintro e w1 ⟨rfl, rfl⟩
  go_wp2_with fail
  refine (hex_any n hn _).mono ?_
  rintro e w2 ⟨rfl, hb2⟩
  go_wp2_with fail
  refine (read_hex_c n hn _).mono ?_
  rintro e w2 ⟨rfl, rfl⟩
  go_wp2_with fail
  refine (HP.out _).mono ?_
  rintro e w2 ⟨rfl, rfl⟩
  go_wp2_with fail
  refine (HR.out _).mono ?_
  rintro e w2 ⟨rfl, rfl⟩
  have hbb := below_trans hb1 hb2
  go_wp2_with fail
  refine (known_any _).mono ?_; rintro e w9 ⟨rfl, hk9⟩
  go_wp2
  go_ret
  exact ⟨rfl, below_trans hbb hk9⟩
set_option maxHeartbeats 400000 in
theorem walk01 (n : Nat) (s : ByteArray) (w : World) (hn : n ≤ 18446744073709551615)
    (x : Nat) (hx : x ≤ 18446744073709551615) (HX : Hid (hexB x = s))
    (HP : Hid (∀ w, Calls Try.prog 10 #[.string s] w fun e w' => e = .returned (.tuple #[.int .u64 0, .int .i64 10]) ∧ w = w'))
    (HR : Hid (∀ w, Calls Try.prog 15 #[.string s] w fun e w' => e = .returned (.tuple #[.int .u64 x, .int .i64 0]) ∧ w = w')) :
    Calls Try.prog 4 #[.int .u64 n, .string s] w fun e w' => e = .returned (.bool true) ∧ Below w.heap.size w w' := by
  go_enter Try.func4, Try.ntmps4
  go_wp2_with fail
  refine (text_any n hn _).mono ?_
  rintro e w1 ⟨rfl, hb1⟩
  go_wp2_with fail
  refine (parse_dec_c n hn _).mono ?_
  rintro e w1 ⟨rfl, rfl⟩
  go_wp2_with fail
  refine (hex_any n hn _).mono ?_
  rintro e w2 ⟨rfl, hb2⟩
  go_wp2_with fail
  refine (read_hex_c n hn _).mono ?_
  rintro e w2 ⟨rfl, rfl⟩
  go_wp2_with fail
  refine (HP.out _).mono ?_
  rintro e w2 ⟨rfl, rfl⟩
  go_wp2_with fail
  refine (HR.out _).mono ?_
  rintro e w2 ⟨rfl, rfl⟩
  have hbb := below_trans hb1 hb2
  go_wp2_with fail
  refine (hex_any x hx _).mono ?_
  rintro e w4 ⟨rfl, hb4⟩
  rw [HX.out]
  replace hbb := below_trans hbb hb4
  go_wp2_with fail
  refine (known_any _).mono ?_; rintro e w9 ⟨rfl, hk9⟩
  go_wp2
  go_ret
  exact ⟨rfl, below_trans hbb hk9⟩
set_option maxHeartbeats 400000 in
theorem walk10 (n : Nat) (s : ByteArray) (w : World) (hn : n ≤ 18446744073709551615)
    (d : Nat) (hd : d ≤ 18446744073709551615) (HD : Hid (decB d = s))
    (HP : Hid (∀ w, Calls Try.prog 10 #[.string s] w fun e w' => e = .returned (.tuple #[.int .u64 d, .int .i64 0]) ∧ w = w'))
    (HR : Hid (∀ w, Calls Try.prog 15 #[.string s] w fun e w' => e = .returned (.tuple #[.int .u64 0, .int .i64 11]) ∧ w = w')) :
    Calls Try.prog 4 #[.int .u64 n, .string s] w fun e w' => e = .returned (.bool true) ∧ Below w.heap.size w w' := by
  go_enter Try.func4, Try.ntmps4
  go_wp2_with fail
  refine (text_any n hn _).mono ?_
  rintro e w1 ⟨rfl, hb1⟩
  go_wp2_with fail
  refine (parse_dec_c n hn _).mono ?_
  rintro e w1 ⟨rfl, rfl⟩
  go_wp2_with fail
  refine (hex_any n hn _).mono ?_
  rintro e w2 ⟨rfl, hb2⟩
  go_wp2_with fail
  refine (read_hex_c n hn _).mono ?_
  rintro e w2 ⟨rfl, rfl⟩
  go_wp2_with fail
  refine (HP.out _).mono ?_
  rintro e w2 ⟨rfl, rfl⟩
  go_wp2_with fail
  refine (HR.out _).mono ?_
  rintro e w2 ⟨rfl, rfl⟩
  have hbb := below_trans hb1 hb2
  go_wp2_with fail
  refine (text_any d hd _).mono ?_
  rintro e w3 ⟨rfl, hb3⟩
  rw [HD.out]
  replace hbb := below_trans hbb hb3
  go_wp2_with fail
  refine (known_any _).mono ?_; rintro e w9 ⟨rfl, hk9⟩
  go_wp2
  go_ret
  exact ⟨rfl, below_trans hbb hk9⟩
set_option maxHeartbeats 400000 in
theorem walk11 (n : Nat) (s : ByteArray) (w : World) (hn : n ≤ 18446744073709551615)
    (d : Nat) (hd : d ≤ 18446744073709551615) (HD : Hid (decB d = s))
    (x : Nat) (hx : x ≤ 18446744073709551615) (HX : Hid (hexB x = s))
    (HP : Hid (∀ w, Calls Try.prog 10 #[.string s] w fun e w' => e = .returned (.tuple #[.int .u64 d, .int .i64 0]) ∧ w = w'))
    (HR : Hid (∀ w, Calls Try.prog 15 #[.string s] w fun e w' => e = .returned (.tuple #[.int .u64 x, .int .i64 0]) ∧ w = w')) :
    Calls Try.prog 4 #[.int .u64 n, .string s] w fun e w' => e = .returned (.bool true) ∧ Below w.heap.size w w' := by
  go_enter Try.func4, Try.ntmps4
  go_wp2_with fail
  refine (text_any n hn _).mono ?_
  rintro e w1 ⟨rfl, hb1⟩
  go_wp2_with fail
  refine (parse_dec_c n hn _).mono ?_
  rintro e w1 ⟨rfl, rfl⟩
  go_wp2_with fail
  refine (hex_any n hn _).mono ?_
  rintro e w2 ⟨rfl, hb2⟩
  go_wp2_with fail
  refine (read_hex_c n hn _).mono ?_
  rintro e w2 ⟨rfl, rfl⟩
  go_wp2_with fail
  refine (HP.out _).mono ?_
  rintro e w2 ⟨rfl, rfl⟩
  go_wp2_with fail
  refine (HR.out _).mono ?_
  rintro e w2 ⟨rfl, rfl⟩
  have hbb := below_trans hb1 hb2
  go_wp2_with fail
  refine (text_any d hd _).mono ?_
  rintro e w3 ⟨rfl, hb3⟩
  rw [HD.out]
  replace hbb := below_trans hbb hb3
  go_wp2_with fail
  refine (hex_any x hx _).mono ?_
  rintro e w4 ⟨rfl, hb4⟩
  rw [HX.out]
  replace hbb := below_trans hbb hb4
  go_wp2_with fail
  refine (known_any _).mono ?_; rintro e w9 ⟨rfl, hk9⟩
  go_wp2
  go_ret
  exact ⟨rfl, below_trans hbb hk9⟩
theorem walk (a : Int) (s : ByteArray) (w : World) (ha : 0 ≤ a ∧ a ≤ 18446744073709551615) (hs : s.size ≤ maxLen) :
    Calls Try.prog 4 #[.int .u64 a, .string s] w fun e w' => e = .returned (.bool true) ∧ Below w.heap.size w w' := by
  obtain ⟨n, rfl⟩ := Int.eq_ofNat_of_zero_le ha.1
  have hn : n ≤ 18446744073709551615 := by omega
  rcases parse_cases s w hs with h | ⟨d, hd, h1, h⟩ <;> rcases hex_cases s with k | ⟨x, hx, k1, k⟩
  · exact walk00 n s w hn (Lib.hid h) (Lib.hid k)
  · exact walk01 n s w hn x hx (Lib.hid k1) (Lib.hid h) (Lib.hid k)
  · exact walk10 n s w hn d hd (Lib.hid h1) (Lib.hid h) (Lib.hid k)
  · exact walk11 n s w hn d hd (Lib.hid h1) x hx (Lib.hid k1) (Lib.hid h) (Lib.hid k)
theorem own : ownKnob Try.prog.godebug = none := by kernel_rfl
theorem laidOut : laidOutB Try.prog = true := by kernel_rfl
set_option maxRecDepth 100000 in
theorem lifted (os : Os) (started : os.Started) (H : Type) (enc : TypeId × Value → H) :
    ReturnsInHanded {} Try.checked os 4 .any (Rows.numBackSpec.pre6 enc Try.prog Try.f4 Rows.numBackRow.domain false) (Rows.numBackSpec.post enc Try.prog Try.f4 false true false false) := by
  refine returnsInHanded_of_change (C := Try.checked) own started (by kernel_rfl) Try.func4
    (ChangeSpec.witness6 (enc := enc) (C := Try.checked) false ⟨#[], #[.int .u64 0, .string ByteArray.empty], []⟩ 8 (by kernel_rfl) (by kernel_rfl) (by kernel_rfl) (by kernel_rfl)) ?_
  intro W base args ds gs before hval0 hW hcnd _
  have hval : ∀ (j : Nat) t v, Try.f4.params[j]? = some t → args[j]? = some v → Value.okWide Try.prog W .any base t v := hval0
  have hW' := hW
  obtain ⟨p, q, hA0, hV, rfl, hfz, hnd⟩ := hW
  have hA : DataW.TrodAll enc Try.prog W 0 (fun _ => true) true Try.f4.params.toList args.toList ds p := hA0
  rw [Try.params4] at hA hval
  obtain ⟨v0, vs0, d0, ds0, p0, q0, hargs, rfl, rfl, h0, r0⟩ := trodAll_cons hA
  obtain ⟨v1, vs1, d1, ds1, p1, q1, rfl, rfl, rfl, h1, r1⟩ := trodAll_cons r0
  obtain ⟨rfl, rfl, rfl⟩ := trodAll_nil r1
  obtain rfl : args = #[v0, v1] := by cases args; simp_all
  obtain ⟨rfl, rfl⟩ := trodVars_none hV
  have k0 := h0
  have lt0 : ∀ x ∈ p0, x.block < W.heap.size := by obtain ⟨m, hm⟩ := k0; exact DataW.trod_lt m _ _ _ hm
  obtain ⟨a0, rfl, rfl, rfl, w0⟩ := open_int Try.underlying22 (hval 0 22 v0 rfl rfl) h0
  have k1 := h1
  have lt1 : ∀ x ∈ p1, x.block < W.heap.size := by obtain ⟨m, hm⟩ := k1; exact DataW.trod_lt m _ _ _ hm
  obtain ⟨a1, rfl, rfl, rfl, w1⟩ := open_string Try.underlying9 (hval 1 9 v1 rfl rfl) h1
  clear hA0 hval0
  refine (walk a0 a1 W (bounds_u64 w0) w1).mono fun e W' ⟨he, bel⟩ => ?_
  subst he
  exact ⟨_, rfl, _, _, _, [], _, [], hW', trodAll_mk1 (shut_bool Try.underlying4 _), (trodAll_cons_mk (Below.trod laidOut (by kernel_rfl) (of_decide_eq_true (by kernel_rfl)) k0 bel lt0) (trodAll_cons_mk (Below.trod laidOut (by kernel_rfl) (of_decide_eq_true (by kernel_rfl)) k1 bel lt1) trodAll_mk0)), rfl, bel.frame _, fun h => by cases h⟩
theorem over : Rows.numBackRow.holds Try.pinned (OpenSpec.ofChange Rows.numBackSpec) :=
  OpenClaim.holds_of_wide 4 Try.f4 rfl rfl rfl rfl rfl rfl rfl ⟨rfl, rfl, rfl, rfl, rfl⟩ rfl rfl rfl rfl rfl (by kernel_rfl) Try.func4 (by kernel_rfl)
    (of_decide_eq_true (by kernel_rfl)) (by unfold Func.isWrapper; first | (rw [if_pos (by decide +kernel)]; kernel_rfl) | (rw [if_neg (by decide +kernel)]; exact ⟨rfl, rfl⟩))
    (fun os started H enc _ => lifted os started H enc)
/-- The statement. -/
theorem proved : Rows.NumBackSaid := over
#print axioms proved
end Go.Proofs.Ytdnjhaplofakbaa.numBack
