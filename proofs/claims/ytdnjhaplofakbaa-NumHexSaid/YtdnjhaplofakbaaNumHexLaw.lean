/- NumHex: (P1.3) for every number and every text: the number's hex text is the document's, and just the texts of 16 digits 0 to 9 and a to f are read. Conditions: none. -/
import Derived.Test.YtdnjhaplofakbaaNumKnown
import Derived.Test.YtdnjhaplofakbaaNumMath
import Derived.Test.YtdnjhaplofakbaaRefParse
import Derived.Test.YtdnjhaplofakbaaFrame
namespace Go.Proofs.Ytdnjhaplofakbaa.numHex
set_option linter.unusedVariables false
set_option linter.unusedSimpArgs false
open Go.ChangeShapes Go.WideShapes Go.ChangeAt Go.RowKit
open Go.ChangeMaps (open_string shut_string)
open NumS
theorem hex_cases (s : ByteArray) :
    (s.data.toList.all isHex = true → s.size ≠ 16) ∧ (∀ w, Calls Try.prog 15 #[.string s] w fun e w' => e = .returned (.tuple #[.int .u64 0, .int .i64 11]) ∧ w = w') ∨
    ∃ d : Nat, d ≤ 18446744073709551615 ∧ hexB d = s ∧ ∀ w, Calls Try.prog 15 #[.string s] w fun e w' => e = .returned (.tuple #[.int .u64 d, .int .i64 0]) ∧ w = w' := by
  cases h : rS s.data.toList with
  | none =>
    left
    refine ⟨fun h1 h2 => ?_, fun w => ?_⟩
    · have : rS s.data.toList = some (hval s.data.toList) := by unfold rS; rw [if_pos ⟨h2, h1⟩]
      rw [h] at this; cases this
    · have := readhex_any s w
      have e1 : rv s.data.toList = 0 := by simp [rv, h]
      have e2 : re s.data.toList = 11 := by simp [re, h]
      rw [e1, e2] at this
      exact this
  | some d =>
    right
    have hd := hex_read _ d h
    refine ⟨d, hd.2, by apply ByteArray.ext; simp [hexB, hd.1], fun w => ?_⟩
    have := readhex_any s w
    have e1 : rv s.data.toList = d := by simp [rv, h]
    have e2 : re s.data.toList = 0 := by simp [re, h]
    rw [e1, e2] at this
    exact this
set_option maxHeartbeats 400000 in
theorem walk_ok (n : Nat) (s : ByteArray) (w : World) (hn : n ≤ 18446744073709551615) (d : Nat) (hd : d ≤ 18446744073709551615) (HD : Hid (hexB d = s))
    (HR : Hid (∀ w, Calls Try.prog 15 #[.string s] w fun e w' => e = .returned (.tuple #[.int .u64 d, .int .i64 0]) ∧ w = w')) :
    Calls Try.prog 7 #[.int .u64 n, .string s] w fun e w' => e = .returned (.bool true) ∧ Below w.heap.size w w' := by
  go_enter Try.func7, Try.ntmps7
  go_wp2_with fail
  refine (HR.out _).mono ?_
  rintro e w1 ⟨rfl, rfl⟩
  go_wp2_with fail
  refine (hex_any n hn _).mono ?_
  rintro e w1 ⟨rfl, hb1⟩
  go_wp2_with fail
  refine (refhex_any n hn _).mono ?_
  rintro e w2 ⟨rfl, rfl⟩
  go_wp2_with fail
  refine (refhex_any d hd _).mono ?_
  rintro e w2 ⟨rfl, rfl⟩
  rw [HD.out]
  go_wp2_with fail
  refine (known_any _).mono ?_; rintro e w9 ⟨rfl, hk9⟩
  go_wp2
  go_ret
  exact ⟨rfl, below_trans hb1 hk9⟩
theorem hex_next (s : ByteArray) (k : Nat) (h : k < s.size) (hl : (s.data.toList.take k).all isHex = true) : (s.data.toList.take (k + 1)).all isHex = isHex s[k] := by
  have e : s.data.toList.take (k + 1) = s.data.toList.take k ++ [s[k]] := take_s s k h
  rw [e, List.all_append, hl]; simp
set_option maxHeartbeats 1000000 in
theorem walk_no (n : Nat) (s : ByteArray) (b : Bool) (w : World) (hn : n ≤ 18446744073709551615) (hs : s.size ≤ 9223372036854775807) (hb : ((s.size : Int) == 16) = b) (HB : Hid (s.data.toList.all isHex = true → s.size ≠ 16))
    (HR : Hid (∀ w, Calls Try.prog 15 #[.string s] w fun e w' => e = .returned (.tuple #[.int .u64 0, .int .i64 11]) ∧ w = w')) :
    Calls Try.prog 7 #[.int .u64 n, .string s] w fun e w' => e = .returned (.bool true) ∧ Below w.heap.size w w' := by
  go_enter Try.func7, Try.ntmps7
  go_wp2_with fail
  refine (HR.out _).mono ?_
  rintro e w1 ⟨rfl, rfl⟩
  go_wp2_with fail
  have HBB := Lib.hid hb
  clear hb
  go_loop [7, 8] (fun r i => ∃ (k : Nat) (c : Bool), k ≤ s.size ∧ i = .int .i64 k ∧ r = .bool c ∧ Hid (c = true → (b = true ∧ (s.data.toList.take k).all isHex = true))) (fun _ i => s.size - (intOf i).toNat)
  case atStart => exact ⟨0, b, Nat.zero_le _, rfl, rfl, fun h => ⟨h, rfl⟩⟩
  case round =>
    obtain ⟨k, c, hk, rfl, rfl, HC⟩ := hrel
    cases c with
    | false =>
      by_cases hlt : k < s.size
      · skip
        go_wp2_with fail
        refine (hex_any n hn _).mono ?_
        rintro e w1 ⟨rfl, hb1⟩
        go_wp2_with fail
        refine (refhex_any n hn _).mono ?_
        rintro e w2 ⟨rfl, rfl⟩
        go_wp2_with fail
        refine (known_any _).mono ?_; rintro e w9 ⟨rfl, hk9⟩
        go_wp2
        go_ret
        exact ⟨rfl, below_trans hb1 hk9⟩
      · skip
        go_wp2_with fail
        refine (hex_any n hn _).mono ?_
        rintro e w1 ⟨rfl, hb1⟩
        go_wp2_with fail
        refine (refhex_any n hn _).mono ?_
        rintro e w2 ⟨rfl, rfl⟩
        go_wp2_with fail
        refine (known_any _).mono ?_; rintro e w9 ⟨rfl, hk9⟩
        go_wp2
        go_ret
        exact ⟨rfl, below_trans hb1 hk9⟩
    | true =>
      by_cases hlt : k < s.size
      · have HN := Lib.hid (hex_next s k hlt (HC.out rfl).2)
        have HB1 := Lib.hid (HC.out rfl).1
        have hx : isHex s[k] = decide ((48 ≤ s[k].toNat ∧ s[k].toNat ≤ 57) ∨ (97 ≤ s[k].toNat ∧ s[k].toNat ≤ 102)) := rfl
        by_cases h1 : (48 : Int) ≤ (s[k].toNat : Int)
        · by_cases h2 : (s[k].toNat : Int) ≤ 57
          · have HX : Hid (isHex s[k] = true) := by rw [hx]; exact decide_eq_true (by omega)
            clear hx
            go_wp2
            go_round
            case rel => exact ⟨k + 1, true, by omega, by go_num, rfl, fun _ => ⟨HB1.out, by rw [HN.out]; exact HX.out⟩⟩
            case measure => simp [intOf]; omega
          · by_cases h3 : (97 : Int) ≤ (s[k].toNat : Int)
            · by_cases h4 : (s[k].toNat : Int) ≤ 102
              · have HX : Hid (isHex s[k] = true) := by rw [hx]; exact decide_eq_true (by omega)
                clear hx
                go_wp2
                go_round
                case rel => exact ⟨k + 1, true, by omega, by go_num, rfl, fun _ => ⟨HB1.out, by rw [HN.out]; exact HX.out⟩⟩
                case measure => simp [intOf]; omega
              · clear hx
                go_wp2
                go_round
                case rel => exact ⟨k + 1, false, by omega, by go_num, rfl, fun h => by cases h⟩
                case measure => simp [intOf]; omega
            · clear hx
              go_wp2
              go_round
              case rel => exact ⟨k + 1, false, by omega, by go_num, rfl, fun h => by cases h⟩
              case measure => simp [intOf]; omega
        · have h3 : ¬ (97 : Int) ≤ (s[k].toNat : Int) := by omega
          clear hx
          go_wp2
          go_round
          case rel => exact ⟨k + 1, false, by omega, by go_num, rfl, fun h => by cases h⟩
          case measure => simp [intOf]; omega
      · exfalso
        have h1 := HC.out rfl
        have h2 := h1.1
        rw [← HBB.out] at h2
        have h3 : s.size = 16 := by have := beq_iff_eq.1 h2; omega
        have h4 := h1.2
        rw [List.take_of_length_le (show s.data.toList.length ≤ k from by simpa using (by omega : s.size ≤ k))] at h4
        exact HB.out h4 h3
theorem walk (a : Int) (s : ByteArray) (w : World) (ha : 0 ≤ a ∧ a ≤ 18446744073709551615) (hs : s.size ≤ maxLen) :
    Calls Try.prog 7 #[.int .u64 a, .string s] w fun e w' => e = .returned (.bool true) ∧ Below w.heap.size w w' := by
  obtain ⟨n, rfl⟩ := Int.eq_ofNat_of_zero_le ha.1
  have hn : n ≤ 18446744073709551615 := by omega
  rcases hex_cases s with ⟨h0, h⟩ | ⟨d, hd, h1, h⟩
  · exact walk_no n s _ w hn (by unfold maxLen at hs; omega) rfl (Lib.hid h0) (Lib.hid h)
  · exact walk_ok n s w hn d hd (Lib.hid h1) (Lib.hid h)
theorem own : ownKnob Try.prog.godebug = none := by kernel_rfl
theorem laidOut : laidOutB Try.prog = true := by kernel_rfl
set_option maxRecDepth 100000 in
theorem lifted (os : Os) (started : os.Started) (H : Type) (enc : TypeId × Value → H) :
    ReturnsInHanded {} Try.checked os 7 .any (Rows.numHexSpec.pre6 enc Try.prog Try.f7 Rows.numHexRow.domain false) (Rows.numHexSpec.post enc Try.prog Try.f7 false true false false) := by
  refine returnsInHanded_of_change (C := Try.checked) own started (by kernel_rfl) Try.func7
    (ChangeSpec.witness6 (enc := enc) (C := Try.checked) false ⟨#[], #[.int .u64 0, .string ByteArray.empty], []⟩ 8 (by kernel_rfl) (by kernel_rfl) (by kernel_rfl) (by kernel_rfl)) ?_
  intro W base args ds gs before hval0 hW hcnd _
  have hval : ∀ (j : Nat) t v, Try.f7.params[j]? = some t → args[j]? = some v → Value.okWide Try.prog W .any base t v := hval0
  have hW' := hW
  obtain ⟨p, q, hA0, hV, rfl, hfz, hnd⟩ := hW
  have hA : DataW.TrodAll enc Try.prog W 0 (fun _ => true) true Try.f7.params.toList args.toList ds p := hA0
  rw [Try.params7] at hA hval
  obtain ⟨v0, vs0, d0, ds0, p0, q0, hargs, rfl, rfl, h0, r0⟩ := trodAll_cons hA
  obtain ⟨v1, vs1, d1, ds1, p1, q1, rfl, rfl, rfl, h1, r1⟩ := trodAll_cons r0
  obtain ⟨rfl, rfl, rfl⟩ := trodAll_nil r1
  obtain rfl : args = #[v0, v1] := by cases args; simp_all
  obtain ⟨rfl, rfl⟩ := trodVars_none hV
  have k0 := h0
  have lt0 : ∀ x ∈ p0, x.block < W.heap.size := by obtain ⟨m, hm⟩ := k0; exact DataW.trod_lt m _ _ _ hm
  obtain ⟨a0, rfl, rfl, rfl, w0⟩ := open_int Try.underlying22 (hval 0 22 v0 rfl rfl) h0
  have k1 := h1
  have lt1 : ∀ x ∈ p1, x.block < W.heap.size := by obtain ⟨m, hm⟩ := k1; exact DataW.trod_lt m _ _ _ hm
  obtain ⟨a1, rfl, rfl, rfl, w1⟩ := open_string Try.underlying9 (hval 1 9 v1 rfl rfl) h1
  clear hA0 hval0
  refine (walk a0 a1 W (bounds_u64 w0) w1).mono fun e W' ⟨he, bel⟩ => ?_
  subst he
  exact ⟨_, rfl, _, _, _, [], _, [], hW', trodAll_mk1 (shut_bool Try.underlying4 _), (trodAll_cons_mk (Below.trod laidOut (by kernel_rfl) (of_decide_eq_true (by kernel_rfl)) k0 bel lt0) (trodAll_cons_mk (Below.trod laidOut (by kernel_rfl) (of_decide_eq_true (by kernel_rfl)) k1 bel lt1) trodAll_mk0)), rfl, bel.frame _, fun h => by cases h⟩
theorem over : Rows.numHexRow.holds Try.pinned (OpenSpec.ofChange Rows.numHexSpec) :=
  OpenClaim.holds_of_wide 7 Try.f7 rfl rfl rfl rfl rfl rfl rfl ⟨rfl, rfl, rfl, rfl, rfl⟩ rfl rfl rfl rfl rfl (by kernel_rfl) Try.func7 (by kernel_rfl)
    (of_decide_eq_true (by kernel_rfl)) (by unfold Func.isWrapper; first | (rw [if_pos (by decide +kernel)]; kernel_rfl) | (rw [if_neg (by decide +kernel)]; exact ⟨rfl, rfl⟩))
    (fun os started H enc _ => lifted os started H enc)
/-- The statement. -/
theorem proved : Rows.NumHexSaid := over
#print axioms proved
end Go.Proofs.Ytdnjhaplofakbaa.numHex
