/- wire: upTo, by contract. -/
import Derived.Test.YthlmldbgohnpnaaWr3
namespace Go.Proofs.Ythlmldbgohnpnaa
set_option linter.unusedVariables false
set_option linter.unusedSimpArgs false
open Go.RowKit
def Wk.tops (most : Int) : List Nat → Wk → Array Value → Wk
  | [], s, _ => s
  | o :: r, s, c => Wk.tops most r { s with bad := s.bad || decide (most < intOf (c.getD o undef)) } c
def Wk.ups (most : Int) (l : List Nat) (s : Wk) (c : Array Value) : Wk × Array Value := (Wk.tops most l (Wk.nums 1 l s c).1 (Wk.nums 1 l s c).2, (Wk.nums 1 l s c).2)
theorem tops_split (most : Int) : ∀ (a b : List Nat) (s : Wk) (c : Array Value), Wk.tops most (a ++ b) s c = Wk.tops most b (Wk.tops most a s c) c
  | [], _, _, _ => rfl
  | o :: a, b, s, c => by rw [List.cons_append, Wk.tops, tops_split most a b]; rfl
theorem tops_room (most : Int) : ∀ (a : List Nat) (s : Wk) (c : Array Value) (m : Nat), Room s m → Room (Wk.tops most a s c) m
  | [], _, _, m, h => h
  | o :: a, s, c, m, h => tops_room most a _ c m h
theorem ups_room (most : Int) (a : List Nat) (s : Wk) (c : Array Value) (m : Nat) (h : Room s (a.length + m)) : Room (Wk.ups most a s c).1 m := tops_room most a _ _ m (nums_room 1 a s c m (by rw [Nat.mul_one]; exact h))
theorem ups_ints (most : Int) (a : List Nat) (s : Wk) (c : Array Value) (l : List Nat) (h : Ints c l) : Ints (Wk.ups most a s c).2 l := nums_ints 1 (by decide) a s c l h
theorem WDone.flag {B : Nat} {w0 w a : World} {y q : Nat} {s : Wk} {tq : TypeId} {cq : Array Value} (h : WDone B w0 y q tq s cq a w) (ht : tq ≠ 48) (b : Bool) : WDone B w0 y q tq { s with bad := b } cq a (w.setCell ⟨y, 3, none⟩ (.bool b)) :=
  ⟨h.ws.flag b, h.bq.far (p := ⟨y, 3, none⟩) (h.ws.ne h.bq ht) _, h.fr.trans (WF.setY _ _ _)⟩
theorem WDone.more {B : Nat} {w0 w a b : World} {y q : Nat} {s s' : Wk} {tq : TypeId} {cq cq' : Array Value} (h : WDone B w0 y q tq s cq a b) (k : WDone B w0 y q tq s' cq' b w) : WDone B w0 y q tq s' cq' a w := ⟨k.ws, k.bq, h.fr.trans k.fr⟩
set_option maxHeartbeats 4000000 in
theorem upTo_any {B : Nat} {w0 : World} {y q g c : Nat} {s : Wk} {tq : TypeId} {cq : Array Value} (w : World) (most : Int) (l : List Nat) (hm : 0 ≤ most) (hm2 : most ≤ 1000) (h : WS B w0 y s w) (hq : Blk w q tq cq) (hqB : B ≤ q) (ht : tq ≠ 48) (ht2 : tq ≠ 5) (ht3 : tq ≠ 65) (hp : Ptrs w g q l) (hi : Ints cq l) (hr : Room s l.length) (hl : l.length ≤ 100) :
    Calls Try.prog 32 #[ptrW y, .int .i64 most, .slice (some ⟨g, 0, none⟩) l.length c] w fun e w' => WEnd B w0 y q tq (Wk.ups most l s cq).1 (Wk.ups most l s cq).2 w e w' := by
  have HN := Lib.hid (numbers_any (c := c) w 1 l h hq hqB ht ht2 ht3 hp hi (by rw [Nat.mul_one]; exact hr) (by decide) (by decide) hl)
  have HPT := Lib.hid hp
  have HT := Lib.hid ht
  have HII := Lib.hid (nums_ints 1 (by decide) l s cq l hi)
  have HGQ : Hid (g ≠ q) := Lib.hid (Blk.ne_ hp hq (Ne.symm ht3))
  have HGY : Hid (g ≠ y) := Lib.hid (by obtain ⟨v, h1, _⟩ := h.st; exact Blk.ne_ hp h1 (by decide))
  clear h hq hqB ht ht2 ht3 hp hi hr
  unfold Wk.ups
  generalize Wk.nums 1 l s cq = S at *
  obtain ⟨s1, c1⟩ := S
  simp only at HN HII ⊢
  go_enter Try.func32, Try.ntmps32
  go_wp2_with fail
  refine HN.out.mono ?_
  rintro e w1 ⟨rfl, hdn⟩
  have HD0 : Hid (WDone B w0 y q tq (Wk.tops most (l.take 0) s1 c1) c1 w w1) := Lib.hid hdn
  clear hdn
  go_wp2_with fail
  go_loopw [13] (fun i wr => ∃ j : Nat, j ≤ l.length ∧ i = .int .i64 j ∧ Hid (WDone B w0 y q tq (Wk.tops most (l.take j) s1 c1) c1 w wr)) (fun i _ => l.length - (intOf i).toNat)
  case atStart => exact ⟨0, Nat.zero_le _, rfl, HD0⟩
  case round =>
    rename_i wr
    obtain ⟨j, hj, rfl, HD⟩ := hrel
    by_cases hlt : j < l.length
    · have HT1 : Hid (l.take (j + 1) = l.take j ++ [l[j]]) := Lib.hid (List.take_succ_eq_append_getElem hlt)
      have HN := Lib.hid (tops_split most (l.take j) [l[j]] s1 c1)
      have kp := (HD.out.fr.blk g _ _ HPT.out (by decide) HGY.out HGQ.out).cell j
      simp only [List.getElem?_toArray, List.getElem?_map, List.getElem?_eq_getElem hlt, Option.map_some] at kp
      generalize Wk.tops most (l.take j) s1 c1 = s2 at *
      have HM : l[j] ∈ l := List.getElem_mem hlt
      generalize l[j] = o at *
      obtain ⟨x, hx, hxo⟩ := HII.out o HM
      have HS2 : Hid (Wk.tops most (l.take (j + 1)) s1 c1 = { s2 with bad := s2.bad || decide (most < x) }) := Lib.hid (by
        rw [HT1.out, HN.out]
        simp only [Wk.tops, Array.getD_eq_getD_getElem?, hx, Option.getD_some, intOf])
      have kx := HD.out.bq.cell o
      rw [hx] at kx
      obtain ⟨v, hy, _⟩ := HD.out.ws.st
      have ky := hy.cell 3
      have fy := hy.frozen 3
      simp only [List.getElem?_toArray, List.getElem?_cons_zero, List.getElem?_cons_succ] at ky
      have HFL := Lib.hid (fun b => HD.out.flag HT.out b)
      clear hx hxo HM HN HT1 hy
      cases hb : s2.bad with
      | true =>
        have HS3 : Hid (Wk.tops most (l.take (j + 1)) s1 c1 = { s2 with bad := true }) := Lib.hid (by rw [HS2.out, hb]; rfl)
        rw [hb] at ky
        clear hb
        go_wp2_with fail
        go_roundw
        case rel => exact ⟨j + 1, by omega, by go_num, Lib.hid (by rw [HS3.out]; exact HFL.out true)⟩
        case measure => simp [intOf]; omega
      | false =>
        have HS3 : Hid (Wk.tops most (l.take (j + 1)) s1 c1 = { s2 with bad := decide (most < x) }) := Lib.hid (by rw [HS2.out, hb]; simp)
        rw [hb] at ky
        clear hb
        go_wp2_with fail
        go_roundw
        case rel => exact ⟨j + 1, by omega, by go_num, Lib.hid (by rw [HS3.out]; exact HFL.out _)⟩
        case measure => simp [intOf]; omega
    · obtain rfl : j = l.length := by omega
      have HE := Lib.hid HD.out
      rw [List.take_length] at HE
      go_wp2_with fail
      go_end0
      exact ⟨rfl, HE.out⟩
end Go.Proofs.Ythlmldbgohnpnaa
