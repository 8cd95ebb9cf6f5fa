/- The document's cells by contract (4): codes, snapped, homes. -/
import Derived.Test.YtdbiaijpbkmfhaaCellRef3
import Derived.Test.YtdbiaijpbkmfhaaCellCode
import Derived.Test.YtdbiaijpbkmfhaaCellHome
namespace Go.Proofs.Ytdbiaijpbkmfhaa
set_option linter.unusedVariables false
set_option linter.unusedSimpArgs false
open Go.RowKit
set_option maxHeartbeats 1000000 in
theorem rcode_yes (l : Nat) : ∀ (X Y : Nat) (w : World), okC (l : Int) (X : Int) (Y : Int) = true → Calls Try.prog 45 #[.agg #[.int .i64 (l : Int), .int .i64 (X : Int), .int .i64 (Y : Int)]] w fun e w' => e = .returned (.tuple #[.int .u64 (cod l X Y : Nat), .bool true]) ∧ Below w.heap.size w w' := by
  induction l with
  | zero =>
    intro X Y w h
    obtain ⟨_, hX2, hY2, _, _⟩ := okC_nat 0 X Y h
    simp only [Nat.pow_zero] at hX2 hY2
    obtain rfl : X = 0 := by omega
    obtain rfl : Y = 0 := by omega
    clear hX2 hY2
    go_enter Try.func45, Try.ntmps45
    have hok : okC 0 0 0 = true := h
    clear h
    go_wp2_with fail
    refine (rright_any _ _ _ _).mono ?_
    rintro e w1 ⟨rfl, hb⟩
    have P : Blk w1 (w.heap.size) 24 #[.int .i64 0, .int .i64 0, .int .i64 0] := Blk.thru0 (Blk.newAt (by simp)) hb
    have hB : Below w.heap.size w w1 := below_trans (by go_grown) hb
    have hsz := hb.size
    (try simp at hsz)
    clear hb
    have kP0 := P.cell 0
    have kP1 := P.cell 1
    have kP2 := P.cell 2
    simp only [List.getElem?_toArray, List.getElem?_cons_zero, List.getElem?_cons_succ] at kP0 kP1 kP2
    have zP := P.lt
    go_wp2
    go_ret2
    exact ⟨rfl, hB⟩
  | succ l ih =>
    intro X Y w h
    obtain ⟨hl, hX2, hY2, hX, hY⟩ := okC_nat (l + 1) X Y h
    rw [Nat.pow_succ] at hX2 hY2
    have hok2 : okC (l : Int) ((X / 2 : Nat) : Int) ((Y / 2 : Nat) : Int) = true := by
      refine (okC_iff _ _ _).2 ⟨by omega, by omega, by omega, ?_, by omega, ?_⟩
      · rw [Int.toNat_natCast, show (2 : Int) ^ l = ((2 ^ l : Nat) : Int) by push_cast; rfl]; omega
      · rw [Int.toNat_natCast, show (2 : Int) ^ l = ((2 ^ l : Nat) : Int) by push_cast; rfl]; omega
    have hrec : ∀ w : World, Calls Try.prog 45 #[.agg #[.int .i64 (l : Int), .int .i64 ((X : Int) / 2), .int .i64 ((Y : Int) / 2)]] w fun e w' => e = .returned (.tuple #[.int .u64 (cod l (X / 2) (Y / 2) : Nat), .bool true]) ∧ Below w.heap.size w w' := by
      intro w; have := ih (X / 2) (Y / 2) w hok2; simpa using this
    have HR := Lib.hid hrec
    have hcl := cod_lt l (X / 2) (Y / 2)
    have h4 := pow4_le l (by omega)
    have hfin : Hid ((4 : Int) * (cod l (X / 2) (Y / 2) : Nat) + (2 * ((Y : Int) % 2) + (X : Int) % 2) = ((cod (l + 1) X Y : Nat) : Int)) := by rw [cod]; unfold Hid; omega
    generalize cod l (X / 2) (Y / 2) = C at *
    have hC : (C : Int) ≤ 4294967295 := by omega
    have e1 : ((l + 1 : Nat) : Int) = (l : Int) + 1 := by push_cast; rfl
    rw [e1] at h ⊢
    have hne : ((l : Int) + 1 == 0) = false := by simp; omega
    have hxi : (X : Int) < 65536 := by omega
    have hyi : (Y : Int) < 65536 := by omega
    have hli : (l : Int) ≤ 15 := by omega
    clear ih hrec hcl h4 e1 hok2 hX2 hY2 hX hY hl
    go_enter Try.func45, Try.ntmps45
    go_wp2_with fail
    refine (rright_any _ _ _ _).mono ?_
    rintro e w1 ⟨rfl, hb⟩
    have P : Blk w1 (w.heap.size) 24 #[.int .i64 ((l : Int) + 1), .int .i64 (X : Int), .int .i64 (Y : Int)] := Blk.thru0 (Blk.newAt (by simp)) hb
    have hB : Below w.heap.size w w1 := below_trans (by go_grown) hb
    have hsz := hb.size
    (try simp at hsz)
    clear hb
    have kP0 := P.cell 0
    have kP1 := P.cell 1
    have kP2 := P.cell 2
    simp only [List.getElem?_toArray, List.getElem?_cons_zero, List.getElem?_cons_succ] at kP0 kP1 kP2
    have zP := P.lt
    go_wp2_with fail
    refine (HR.out _).mono ?_
    rintro e w2 ⟨rfl, hb⟩
    replace P : Blk w2 (w.heap.size) 24 #[.int .i64 ((l : Int) + 1), .int .i64 (X : Int), .int .i64 (Y : Int)] := Blk.thru0 (P) hb
    have hs := hB.size
    replace hB : Below w.heap.size w w2 := below_trans (by go_grown) hb
    clear hs
    clear hsz kP0 kP1 kP2 zP
    have hsz := hb.size
    (try simp at hsz)
    clear hb
    have kP0 := P.cell 0
    have kP1 := P.cell 1
    have kP2 := P.cell 2
    simp only [List.getElem?_toArray, List.getElem?_cons_zero, List.getElem?_cons_succ] at kP0 kP1 kP2
    have zP := P.lt
    go_wp2
    first | (go_quiet (fail); go_wp2) | skip
    go_ret2
    exact ⟨by rw [hfin.out]; first | done | rfl, by first | exact hB | exact below_drawn hB _⟩
set_option maxHeartbeats 1000000 in
theorem rcode_no (L x y : Int) (h : okC L x y = false) (w : World) :
    Calls Try.prog 45 #[.agg #[.int .i64 L, .int .i64 x, .int .i64 y]] w fun e w' => e = .returned (.tuple #[.int .u64 0, .bool false]) ∧ Below w.heap.size w w' := by
  go_enter Try.func45, Try.ntmps45
  go_wp2_with ((go_at_call 26; refine (rright_any _ _ _ _).mono ?_; rintro e w1 ⟨rfl, hb⟩; have hB : Below w.heap.size w w1 := below_trans (by go_grown) hb; have hz := hb.size; (try simp at hz); obtain ⟨hc, hf⟩ := bcell hb; have hz0 : w.heap.size < w1.heap.size := (by omega); have hz1 : w.heap.size + 1 ≤ w1.heap.size := (by omega)))
  go_ret2
  exact ⟨rfl, by go_grown⟩
theorem rcode_u (L x y : Int) (w : World) : Calls Try.prog 45 #[.agg #[.int .i64 L, .int .i64 x, .int .i64 y]] w fun e w' => e = .returned (.tuple #[.int .u64 (codU L x y), .bool (okC L x y)]) ∧ Below w.heap.size w w' := by
  rcases Bool.eq_false_or_eq_true (okC L x y) with h | h
  · have h6 := okC_16 _ _ _ h
    obtain ⟨l, rfl⟩ := Int.eq_ofNat_of_zero_le h6.1
    obtain ⟨X, rfl⟩ := Int.eq_ofNat_of_zero_le h6.2.2.1
    obtain ⟨Y, rfl⟩ := Int.eq_ofNat_of_zero_le h6.2.2.2.2.1
    have := rcode_yes l X Y w h
    simpa [codU, h] using this
  · have := rcode_no L x y h w
    simpa [codU, h] using this
end Go.Proofs.Ytdbiaijpbkmfhaa
