/- The document's Put by contract. -/
import Derived.Test.YthlmldbgohnpnaaPut
import Derived.WalkSmall
namespace Go.Proofs.Ythlmldbgohnpnaa
set_option linter.unusedVariables false
set_option linter.unusedSimpArgs false
open Go.RowKit
theorem be_last (k n : Nat) : be (k + 1) n = be k (n / 256) ++ [UInt8.ofNat (n % 256)] := by
  induction k with
  | zero => simp [be, bN]
  | succ k ih => rw [be, ih, be, bN_s]; rfl
set_option maxRecDepth 100000 in
set_option maxHeartbeats 400000 in
theorem refput_wide (n : Nat) (wide : Int) (h : wide < 1 ∨ 8 < wide) (hw : -9223372036854775808 ≤ wide) (hw' : wide ≤ 9223372036854775807) (w : World) :
    Calls Try.prog 28 #[.int .u64 n, .int .i64 wide] w fun e w' => e = .returned (.tuple #[.slice none 0 0, .bool false]) ∧ w = w' := by
  rcases h with h | h
  · go_enter Try.func28, Try.ntmps28
    go_wp2
    go_ret2
    exact ⟨rfl, rfl⟩
  · go_enter Try.func28, Try.ntmps28
    have h1 : ¬ wide < 1 := by omega
    go_wp2
    go_ret2
    exact ⟨rfl, rfl⟩
theorem ret2v {v v' : Value} {b b' : Bool} (h : v = v') (h' : b = b') : Ending.returned (.tuple #[v, .bool b]) = .returned (.tuple #[v', .bool b']) := by rw [h, h']
theorem dec_cast (n m : Nat) : decide ((n : Int) < (m : Int)) = decide (n < m) := by simp
set_option maxRecDepth 100000 in
set_option maxHeartbeats 400000 in
theorem refput1 (n : Nat) (hn : n ≤ 18446744073709551615) (w : World) :
    Calls Try.prog 28 #[.int .u64 n, .int .i64 1] w fun e w' => ∃ v, e = .returned (.tuple #[v, .bool (decide (n < 256 ^ 1))]) ∧ w'.ownsRow w.heap.size 5 1 v 1 (bv (be 1 n)) ∧ Below w.heap.size w w' := by
  go_enter Try.func28, Try.ntmps28
  go_wp2
  go_ret2
  refine ⟨_, ret2v rfl (by rw [Nat.pow_one]; exact dec_cast n 256), ?_, ?_⟩
  · have h := World.ownsRow_lit (base := w.heap.size) (e := 5) (size := 1) w #[Value.int .u8 ((n : Int) % 256)] 1 (Nat.le_refl _) (by decide) rfl
    have e1 : bv (be 1 n) = [Value.int .u8 ((n : Int) % 256)] := by simp [be_val, be_val0, bN]
    rw [e1]
    exact h
  · go_grown
theorem one_new (w1 : World) (u : Value) (t : TypeId) : Reads (w1.alloc (.cells #[u] t)) (w1.heap.size + 1) 1 (some ⟨w1.heap.size, 0, none⟩) 1 [u] := by
  refine ⟨rfl, fun _ => ⟨_, rfl, by simp, fun j x hx => ?_⟩⟩
  have hk : Blk (w1.alloc (.cells #[u] t)) w1.heap.size t #[u] := Blk.new _ _ _
  have ha : (⟨w1.heap.size, 0, none⟩ : Addr).add j = ⟨w1.heap.size, j, none⟩ := by unfold Addr.add; split <;> simp_all
  rw [ha, hk.cell, ← hx]
  simp
theorem u8_info : (Try.prog.info? 5).map (fun i => (i.zero, i.size, i.bytes)) = some (some (.int .u8 0), 1, 1) := by kernel_rfl
theorem be_put (k n : Nat) : bv (be k (n / 256)) ++ [Value.int .u8 ((n : Int) % 256)] = bv (be (k + 1) n) := by
  rw [be_last, bv_append]
  simp [bv]
theorem lt_put (k n : Nat) : decide (n / 256 < 256 ^ k) = decide (n < 256 ^ (k + 1)) := by
  rw [Nat.pow_succ, decide_eq_decide]
  exact Nat.div_lt_iff_lt_mul (by omega)
def RPost (k n : Nat) (w : World) (e : Ending) (w' : World) : Prop := ∃ v, e = .returned (.tuple #[v, .bool (decide (n < 256 ^ k))]) ∧ w'.ownsRow w.heap.size 5 1 v k (bv (be k n)) ∧ Below w.heap.size w w'
set_option maxRecDepth 100000 in
set_option maxHeartbeats 400000 in
theorem refput_step (k n : Nat) (hk : 1 ≤ k) (hk' : k < 8) (hn : n ≤ 18446744073709551615) (w : World)
    (ih : Hid (∀ w, Calls Try.prog 28 #[.int .u64 (n / 256 : Nat), .int .i64 k] w fun e w' => RPost k (n / 256) w e w')) :
    Calls Try.prog 28 #[.int .u64 n, .int .i64 ((k : Int) + 1)] w fun e w' => RPost (k + 1) n w e w' := by
  obtain ⟨i0, hi0, hz0, hz1, hz2⟩ := info_parts u8_info
  have hb1 : ((k : Int) + 1 == 1) = false := beq_eq_false_iff_ne.2 (by omega)
  have HN := Lib.hid (show (n : Int) / 256 = ((n / 256 : Nat) : Int) by omega)
  have HP := Lib.hid (be_put k n)
  have HL := Lib.hid (lt_put k n)
  go_enter Try.func28, Try.ntmps28
  go_wp2_with fail
  rw [HN.out]
  refine (ih.out _).mono ?_
  rintro e w1 ⟨v, rfl, hown, hb⟩
  have hr : Reads (w1.alloc (.cells #[Value.int .u8 ((n : Int) % 256)] 5)) (w1.heap.size + 1) 1 (some ⟨w1.heap.size, 0, none⟩) 1 [Value.int .u8 ((n : Int) % 256)] := one_new _ _ _
  have hsz := hb.size
  have h1c : ∀ u ∈ [Value.int .u8 ((n : Int) % 256)], u.oneCell' = true := fun u hu => by
    rw [List.mem_singleton] at hu; subst hu; rfl
  have h63 : k + 1 ≤ maxLen := by simp only [maxLen]; omega
  have hby : (k + 1) * 1 ≤ 140737488355328 := by omega
  have hba : w.heap.size ≤ (w1.alloc (.cells #[Value.int .u8 ((n : Int) % 256)] 5)).heap.size := by simp; omega
  go_wp2_with (at_builtin; go_loud (refine wpList_append_any _ rfl (.tmp 30) (.tmp 34) _ rfl w.heap.size 5 i0 _ 1 1 Try.underlying22 hi0 hz0 hz1 hz2 rfl (by omega) v k _ rfl (hown.alloc _) (w1.heap.size + 1) _ 1 1 _ rfl hr h1c h63 hby hba ?_); intro v2 w2 hown2 hg2 hat2)
  go_ret2
  refine ⟨_, ret2v rfl HL.out, ?_, ?_⟩
  · rw [← HP.out]; exact hown2
  · exact (hb.alloc hsz _).grown hg2 hba (fun j hj => (hown.lt j hj).1)
theorem refput_any (k n : Nat) (h1 : 1 ≤ k) (h8 : k ≤ 8) (hn : n ≤ 18446744073709551615) (w : World) :
    Calls Try.prog 28 #[.int .u64 n, .int .i64 k] w fun e w' => RPost k n w e w' := by
  induction k generalizing n w with
  | zero => omega
  | succ k ih =>
    by_cases hk : k = 0
    · subst hk
      exact refput1 n hn w
    · exact refput_step k n (by omega) (by omega) hn w (Lib.hid fun w => ih (n / 256) (by omega) (by omega) (by omega) w)
/-- What the document's Put leaves, as a slice of bytes. -/
theorem RPost.rb {k n : Nat} {w w' : World} {e : Ending} (hk : 1 ≤ k) (h : RPost k n w e w') : ∃ A c, e = .returned (.tuple #[.slice A k c, .bool (decide (n < 256 ^ k))]) ∧ RB w' A k (be k n) ∧ Below w.heap.size w w' := by
  obtain ⟨v, he, hown, hb⟩ := h
  obtain ⟨g, cap, hv, _, hlt⟩ := hown.form (by omega)
  subst hv
  exact ⟨_, _, he, Reads.of_own hown, hb⟩
end Go.Proofs.Ythlmldbgohnpnaa
