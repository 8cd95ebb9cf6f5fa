/- lex: the document's Word and Name. -/
import Derived.Test.YtileecbccmfpdaaGreatDoorLr1
namespace Go.Proofs.YtileecbccmfpdaaGreatDoor
set_option linter.unusedVariables false
set_option linter.unusedSimpArgs false
open Go.RowKit
def wordsR : List Bs := [[114, 111, 108, 101], [108, 97, 98, 101, 108], [114, 101, 103, 105, 111, 110], [97, 108, 108, 111, 119], [99, 97, 112], [99, 108, 111, 97, 107], [97, 110, 121], [97, 108, 108], [116, 105, 101, 114], [105, 110], [122, 111, 111, 109]]
def rS (i : Nat) : ByteArray := bs (wordsR.getD i [])
theorem rS_wS : ∀ i, i < 11 → ∃ j, j < 11 ∧ rS i = wS j := by
  have : ∀ i : Fin 11, ∃ j : Fin 11, wordsR.getD i.1 [] = wordsL.getD j.1 [] := by decide +kernel
  intro i hi
  obtain ⟨j, h⟩ := this ⟨i, hi⟩
  exact ⟨j.1, j.2, congrArg bs h⟩
theorem wS_rS : ∀ i, i < 11 → ∃ j, j < 11 ∧ wS i = rS j := by
  have : ∀ i : Fin 11, ∃ j : Fin 11, wordsL.getD i.1 [] = wordsR.getD j.1 [] := by decide +kernel
  intro i hi
  obtain ⟨j, h⟩ := this ⟨i, hi⟩
  exact ⟨j.1, j.2, congrArg bs h⟩
def rvals : Array Value := #[.string ⟨#[114, 111, 108, 101]⟩, .string ⟨#[108, 97, 98, 101, 108]⟩, .string ⟨#[114, 101, 103, 105, 111, 110]⟩, .string ⟨#[97, 108, 108, 111, 119]⟩, .string ⟨#[99, 97, 112]⟩, .string ⟨#[99, 108, 111, 97, 107]⟩, .string ⟨#[97, 110, 121]⟩, .string ⟨#[97, 108, 108]⟩, .string ⟨#[116, 105, 101, 114]⟩, .string ⟨#[105, 110]⟩, .string ⟨#[122, 111, 111, 109]⟩]
theorem rvals_at : ∀ k, k < 11 → rvals[k]? = some (.string (rS k))
  | 0, _ => rfl
  | 1, _ => rfl
  | 2, _ => rfl
  | 3, _ => rfl
  | 4, _ => rfl
  | 5, _ => rfl
  | 6, _ => rfl
  | 7, _ => rfl
  | 8, _ => rfl
  | 9, _ => rfl
  | 10, _ => rfl
  | k + 11, h => absurd h (by omega)
set_option maxRecDepth 100000 in
set_option maxHeartbeats 2000000 in
theorem rword_any (s : ByteArray) (w : World) : Calls Tryz.prog 95 #[.string s] w fun e w' => e = .returned (.bool (wordB s)) ∧ Below w.heap.size w w' := by
  have HA := Lib.hid (show Below w.heap.size w (w.alloc (.cells #[.string ⟨#[114, 111, 108, 101]⟩, .string ⟨#[108, 97, 98, 101, 108]⟩, .string ⟨#[114, 101, 103, 105, 111, 110]⟩, .string ⟨#[97, 108, 108, 111, 119]⟩, .string ⟨#[99, 97, 112]⟩, .string ⟨#[99, 108, 111, 97, 107]⟩, .string ⟨#[97, 110, 121]⟩, .string ⟨#[97, 108, 108]⟩, .string ⟨#[116, 105, 101, 114]⟩, .string ⟨#[105, 110]⟩, .string ⟨#[122, 111, 111, 109]⟩] 9)) from (Below.refl _ _).alloc (Nat.le_refl _) _)
  have HK := Lib.hid (fun k (hk : k < 11) => show (w.alloc (.cells #[.string ⟨#[114, 111, 108, 101]⟩, .string ⟨#[108, 97, 98, 101, 108]⟩, .string ⟨#[114, 101, 103, 105, 111, 110]⟩, .string ⟨#[97, 108, 108, 111, 119]⟩, .string ⟨#[99, 97, 112]⟩, .string ⟨#[99, 108, 111, 97, 107]⟩, .string ⟨#[97, 110, 121]⟩, .string ⟨#[97, 108, 108]⟩, .string ⟨#[116, 105, 101, 114]⟩, .string ⟨#[105, 110]⟩, .string ⟨#[122, 111, 111, 109]⟩] 9)).cell? ⟨w.heap.size, k, none⟩ = some (.string (rS k)) by
    have := (Blk.new w 9 rvals).cell k
    rw [rvals_at k hk] at this
    exact this)
  have HY : Hid (∀ k, k < 11 → s = rS k → wordB s = true) := Lib.hid (fun k hk e => by
    obtain ⟨j, hj, h⟩ := rS_wS k hk
    exact wordB_yes hj (e.trans h))
  have HN : Hid ((∀ j, j < 11 → s ≠ rS j) → wordB s = false) := Lib.hid (fun h => wordB_no fun j hj e => by
    obtain ⟨i, hi, h2⟩ := wS_rS j hj
    exact h i hi (e.trans h2))
  generalize wordB s = B at *
  go_enter Tryz.func95, Tryz.ntmps95
  go_wp2_with fail
  generalize (w.alloc (.cells #[.string ⟨#[114, 111, 108, 101]⟩, .string ⟨#[108, 97, 98, 101, 108]⟩, .string ⟨#[114, 101, 103, 105, 111, 110]⟩, .string ⟨#[97, 108, 108, 111, 119]⟩, .string ⟨#[99, 97, 112]⟩, .string ⟨#[99, 108, 111, 97, 107]⟩, .string ⟨#[97, 110, 121]⟩, .string ⟨#[97, 108, 108]⟩, .string ⟨#[116, 105, 101, 114]⟩, .string ⟨#[105, 110]⟩, .string ⟨#[122, 111, 111, 109]⟩] 9)) = W at *
  go_loopw [4] (fun i wr => ∃ k : Nat, k ≤ 11 ∧ i = .int .i64 k ∧ Hid (W = wr ∧ ∀ j, j < k → s ≠ rS j)) (fun i _ => 11 - (intOf i).toNat)
  case atStart => exact ⟨0, by omega, rfl, Lib.hid ⟨rfl, fun j hj => absurd hj (by omega)⟩⟩
  case round =>
    obtain ⟨k, hk, rfl, HR⟩ := hrel
    obtain rfl := HR.out.1
    by_cases hlt : k < 11
    · have hki : (k : Int) < 11 := by omega
      have hcell := HK.out k hlt
      by_cases he : s = rS k
      · have HB := Lib.hid (HY.out k hlt he)
        have heq : ((rS k).toList == s.toList) = true := by rw [he]; simp
        clear he HY HN HR HK
        go_wp2
        go_ret
        exact ⟨by rw [HB.out]; rfl, HA.out⟩
      · have HH := Lib.hid he
        have heq : ((rS k).toList == s.toList) = false := beq_eq_false_iff_ne.2 (fun e => HH.out (toList_inj e).symm)
        have HR2 := Lib.hid HR.out.2
        clear he HY HN HR HK
        go_wp2_with fail
        go_roundw
        case rel => exact ⟨k + 1, by omega, by go_num, Lib.hid ⟨(by first | rfl | trivial), fun j hj => by
          rcases Nat.lt_or_eq_of_le (Nat.le_of_lt_succ hj) with h1 | rfl
          · exact HR2.out j h1
          · exact HH.out⟩⟩
        case measure => simp [intOf]; omega
    · obtain rfl : k = 11 := by omega
      have HB := Lib.hid (HN.out HR.out.2)
      clear HY HN HR HK
      go_wp2
      go_ret
      exact ⟨by rw [HB.out]; rfl, HA.out⟩
/-- Is a text a name? -/
def rnm (l : Bs) : Bool := decide (0 < l.length) && (decide (l.length ≤ 16) && (on isLet l && (decide ((l.takeWhile rnf).length = l.length) && !wordB (bs l))))
set_option maxRecDepth 100000 in
set_option maxHeartbeats 2000000 in
theorem rname_any (l : Bs) (w : World) (hl : l.length ≤ 9223372036854775807) : Calls Tryz.prog 55 #[.string (bs l)] w fun e w' => e = .returned (.bool (rnm l)) ∧ Below w.heap.size w w' := by
  have hsz : ((bs l).size : Int) = (l.length : Int) := by rw [bs_size]
  have HW := Lib.hid (rword_any (bs l) w)
  have HR := Lib.hid (run0_any (bs l) w (by rw [bs_size]; exact hl))
  rw [bs_data] at HR
  have HE := Lib.hid (show rnm l = (decide (0 < l.length) && (decide (l.length ≤ 16) && (on isLet l && (decide ((l.takeWhile rnf).length = l.length) && !wordB (bs l))))) from rfl)
  have HB0 := Lib.hid (Below.refl w.heap.size w)
  generalize hwb : wordB (bs l) = wb at *
  generalize hrn : (l.takeWhile rnf).length = rn at *
  generalize rnm l = R at *
  clear hwb hrn
  cases l with
  | nil =>
    have e1 : R = false := by rw [HE.out]; rfl
    subst e1
    have h0 : ((bs []).size : Int) = 0 := rfl
    go_enter Tryz.func55, Tryz.ntmps55
    go_wp2
    go_ret
    exact ⟨rfl, HB0.out⟩
  | cons c t =>
    have hlen : (((c :: t).length : Nat) : Int) = (t.length : Int) + 1 := by simp
    rw [hlen] at hsz
    have HX := Lib.hid (show ∃ x : ByteArray, x = bs (c :: t) ∧ ∃ h0 : 0 < x.size, x[0] = c from ⟨_, rfl, by rw [bs0]; omega, rfl⟩)
    obtain ⟨x, hx, h0, hx0⟩ := HX.out
    rw [← hx] at hsz HW HR ⊢
    have HLT := Lib.hid (rletter_any c w)
    have HEL := Lib.hid (show on isLet (c :: t) = isLet c from rfl)
    clear HX hx
    have hc0 : ((x.size : Int) == 0) = false := beq_eq_false_iff_ne.2 (by omega)
    have hpos : (0 : Int) < (x.size : Int) := by omega
    have ht : (t.length : Int) ≤ 9223372036854775807 := by simp at hl; omega
    by_cases h16 : t.length + 1 ≤ 16
    · have hle : (x.size : Int) ≤ 16 := by omega
      cases hlc : isLet c with
      | false =>
        rw [hlc] at HLT
        have HRV := Lib.hid (show R = false by rw [HE.out, HEL.out, hlc]; simp)
        clear hlc HE HEL
        go_enter Tryz.func55, Tryz.ntmps55
        go_wp2_with (first
          | (go_at_call 93; refine HLT.out.mono ?_; rintro e w9 ⟨rfl, hw9⟩; subst hw9)
          | (go_at_call 94; refine HR.out.mono ?_; rintro e w9 ⟨rfl, hw9⟩; subst hw9)
          | (go_at_call 95; refine HW.out.mono ?_; rintro e w8 ⟨rfl, hb8⟩; have HB8 := Lib.hid hb8; clear hb8))
        go_ret
        exact ⟨by rw [HRV.out]; simp, HB0.out⟩
      | true =>
        rw [hlc] at HLT
        by_cases hr : rn = t.length + 1
        · have hrb : ((rn : Int) == (t.length : Int) + 1) = true := beq_iff_eq.2 (by omega)
          cases wb with
          | true =>
            have HRV := Lib.hid (show R = false by rw [HE.out]; simp)
            clear hlc HE HEL hr
            go_enter Tryz.func55, Tryz.ntmps55
            go_wp2_with (first
              | (go_at_call 93; refine HLT.out.mono ?_; rintro e w9 ⟨rfl, hw9⟩; subst hw9)
              | (go_at_call 94; refine HR.out.mono ?_; rintro e w9 ⟨rfl, hw9⟩; subst hw9)
              | (go_at_call 95; refine HW.out.mono ?_; rintro e w8 ⟨rfl, hb8⟩; have HB8 := Lib.hid hb8; clear hb8))
            go_ret
            exact ⟨by rw [HRV.out]; simp, HB8.out⟩
          | false =>
            have HRV := Lib.hid (show R = true by rw [HE.out, HEL.out, hlc]; simp [hr]; omega)
            clear hlc HE HEL hr
            go_enter Tryz.func55, Tryz.ntmps55
            go_wp2_with (first
              | (go_at_call 93; refine HLT.out.mono ?_; rintro e w9 ⟨rfl, hw9⟩; subst hw9)
              | (go_at_call 94; refine HR.out.mono ?_; rintro e w9 ⟨rfl, hw9⟩; subst hw9)
              | (go_at_call 95; refine HW.out.mono ?_; rintro e w8 ⟨rfl, hb8⟩; have HB8 := Lib.hid hb8; clear hb8))
            go_ret
            exact ⟨by rw [HRV.out]; simp, HB8.out⟩
        · have hrb : ((rn : Int) == (t.length : Int) + 1) = false := beq_eq_false_iff_ne.2 (by omega)
          have HRV := Lib.hid (show R = false by rw [HE.out]; simp [hr])
          clear hlc HE HEL hr
          go_enter Tryz.func55, Tryz.ntmps55
          go_wp2_with (first
            | (go_at_call 93; refine HLT.out.mono ?_; rintro e w9 ⟨rfl, hw9⟩; subst hw9)
            | (go_at_call 94; refine HR.out.mono ?_; rintro e w9 ⟨rfl, hw9⟩; subst hw9)
            | (go_at_call 95; refine HW.out.mono ?_; rintro e w8 ⟨rfl, hb8⟩; have HB8 := Lib.hid hb8; clear hb8))
          go_ret
          exact ⟨by rw [HRV.out]; simp, HB0.out⟩
    · have hle : (16 : Int) < (x.size : Int) := by omega
      have HRV := Lib.hid (show R = false by rw [HE.out]; simp; omega)
      clear HE HEL h16
      go_enter Tryz.func55, Tryz.ntmps55
      go_wp2_with (first
        | (go_at_call 93; refine HLT.out.mono ?_; rintro e w9 ⟨rfl, hw9⟩; subst hw9)
        | (go_at_call 94; refine HR.out.mono ?_; rintro e w9 ⟨rfl, hw9⟩; subst hw9)
        | (go_at_call 95; refine HW.out.mono ?_; rintro e w8 ⟨rfl, hb8⟩; have HB8 := Lib.hid hb8; clear hb8))
      go_ret
      exact ⟨by rw [HRV.out]; simp, HB0.out⟩
end Go.Proofs.YtileecbccmfpdaaGreatDoor
