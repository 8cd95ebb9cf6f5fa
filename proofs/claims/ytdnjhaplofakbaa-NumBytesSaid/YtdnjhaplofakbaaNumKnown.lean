/- What must come of fixed calls (law.go's known). -/
import Derived.Test.YtdnjhaplofakbaaPlus
import Derived.Test.YtdnjhaplofakbaaParse
import Derived.Test.YtdnjhaplofakbaaPut
import Derived.Test.YtdnjhaplofakbaaSame
import Derived.Test.YtdnjhaplofakbaaText
import Derived.Test.YtdnjhaplofakbaaHex
namespace Go.Proofs.Ytdnjhaplofakbaa
set_option linter.unusedVariables false
set_option linter.unusedSimpArgs false
open Go.RowKit
open NumS
theorem k_parse (w : World) : Calls Try.prog 10 #[.string ⟨#[48, 48, 55]⟩] w fun e w' => e = .returned (.tuple #[.int .u64 0, .int .i64 10]) ∧ w = w' := by
  have h := parse_any ⟨#[48, 48, 55]⟩ w (by decide)
  have e1 : pv ((⟨#[48, 48, 55]⟩ : ByteArray).data.toList) = 0 := by decide +kernel
  have e2 : pe ((⟨#[48, 48, 55]⟩ : ByteArray).data.toList) = 10 := by decide +kernel
  rw [e1, e2] at h
  exact h
theorem k_put (w : World) : Calls Try.prog 17 #[.int .u64 258, .int .i64 2] w fun e w' => ∃ A c, e = .returned (.tuple #[.slice A 2 c, .int .i64 0]) ∧ RB w' A 2 [1, 2] ∧ Below w.heap.size w w' := by
  refine (put_any 258 (by omega) 2 (by omega) (by omega) w).mono fun e w' h => ?_
  rcases h with ⟨_, h⟩ | ⟨h, _⟩
  · have e1 : be 2 258 = [1, 2] := by decide +kernel
    rw [e1] at h
    exact h
  · exact absurd h (by decide)
theorem k_text (w : World) : Calls Try.prog 12 #[.int .u64 0] w fun e w' => e = .returned (.string ⟨#[48]⟩) ∧ Below w.heap.size w w' := by
  have h := text_any 0 (by omega) w
  have e1 : decB 0 = ⟨#[48]⟩ := by rw [decB, dec_small 0 (by omega)]; rfl
  rw [e1] at h
  exact h
theorem k_hex (w : World) : Calls Try.prog 16 #[.int .u64 255] w fun e w' => e = .returned (.string ⟨#[48, 48, 48, 48, 48, 48, 48, 48, 48, 48, 48, 48, 48, 48, 102, 102]⟩) ∧ Below w.heap.size w w' := by
  have h := hex_any 255 (by omega) w
  have e1 : hexB 255 = ⟨#[48, 48, 48, 48, 48, 48, 48, 48, 48, 48, 48, 48, 48, 48, 102, 102]⟩ := by decide +kernel
  rw [e1] at h
  exact h
theorem k_plus (w : World) : Calls Try.prog 24 #[.int .u64 18446744073709551615, .int .u64 1, .int .u64 9] w fun e w' => e = .returned (.int .u64 9) ∧ w = w' :=
  plus_any 18446744073709551615 1 9 (by omega) (by omega) (by omega) (by omega) (by omega) (by omega) w
theorem k_same (A B : Option Addr) (c d : Nat) (w : World) (ha : RB w A 2 [1, 2]) (hb : RB w B 2 [1, 2]) :
    Calls Try.prog 20 #[.slice A 2 c, .slice B 2 d] w fun e w' => e = .returned (.bool true) ∧ ∃ q, w' = w.drewN q := by
  have h := same_any A B 2 2 c d [1, 2] [1, 2] w ha hb (by decide) (by decide)
  simpa using h
set_option maxHeartbeats 400000 in
theorem known_any (w : World) : Calls Try.prog 14 #[] w fun e w' => e = .returned (.bool true) ∧ Below w.heap.size w w' := by
  go_enter Try.func14, Try.ntmps14
  go_wp2_with fail
  refine (k_parse _).mono ?_
  rintro e w' ⟨rfl, rfl⟩
  go_wp2_with fail
  refine (k_put _).mono ?_
  rintro e w1 ⟨A, c, rfl, hr, hb⟩
  go_wp2_with fail
  refine (k_text _).mono ?_
  rintro e w2 ⟨rfl, hb2⟩
  go_wp2_with fail
  have hr2 : RB (w2.alloc (Obj.cells #[Value.int .u8 1, Value.int .u8 2] 5)) A 2 [1, 2] := (hr.below hb2).alloc _
  have hr3 : RB (w2.alloc (Obj.cells #[Value.int .u8 1, Value.int .u8 2] 5)) (some ⟨w2.heap.size, 0, none⟩) 2 [1, 2] := RB_of_row (off := 0) (l := [1, 2]) (Blk.new _ _ _) rfl
  refine (k_same A _ c 2 _ hr2 hr3).mono ?_
  rintro e w3 ⟨rfl, q, rfl⟩
  have hbb := below_drawn (below_trans (below_trans hb hb2) ((Below.refl w2.heap.size w2).alloc (Nat.le_refl _) (Obj.cells #[Value.int .u8 1, Value.int .u8 2] 5))) q
  clear hr hr2 hr3
  go_wp2_with fail
  refine (k_hex _).mono ?_
  rintro e w4 ⟨rfl, hb4⟩
  go_wp2_with fail
  refine (k_plus _).mono ?_
  rintro e w5 ⟨rfl, rfl⟩
  go_wp2
  go_ret
  exact ⟨rfl, below_trans hbb hb4⟩
end Go.Proofs.Ytdnjhaplofakbaa
