/- Texts: Lr1, Lr2, Lr3, Lr6, Lr7, LrEnd, LrSame. -/
import Derived.Test.YtkpmeelbjldcoaaGreatDoorZbLx11
import Derived.Deep.DeepCutAuto
import Derived.Lib.LastIndexByte
import Derived.BigQuiet
import Derived.Deep.QuietTactic
namespace Go.Proofs.YtkpmeelbjldcoaaGreatDoor
section
set_option linter.unusedVariables false
set_option linter.unusedSimpArgs false
open Go.RowKit
theorem rletter_any (c : UInt8) (w : World) : Calls Tryz.prog 103 #[.int .u8 (c.toNat : Int)] w fun e w' => e = .returned (.bool (isLet c)) ∧ w = w' := by
  have hc : (c.toNat : Int) < 256 := by have := c.toNat_lt; omega
  have HS := Lib.hid (show isLet c = (decide ((97 : Int) ≤ (c.toNat : Int)) && decide ((c.toNat : Int) ≤ 122)) by
    unfold isLet; congr 1 <;> exact decide_eq_decide.2 (by omega))
  by_cases h1 : (97 : Int) ≤ (c.toNat : Int)
  · have d1 : decide ((97 : Int) ≤ (c.toNat : Int)) = true := decide_eq_true h1
    by_cases h2 : (c.toNat : Int) ≤ 122
    · have d2 : decide ((c.toNat : Int) ≤ 122) = true := decide_eq_true h2
      go_enter Tryz.func103, Tryz.ntmps103
      go_wp2
      go_ret
      exact ⟨by rw [HS.out, d1, d2]; simp [d1, d2], rfl⟩
    · have d2 : decide ((c.toNat : Int) ≤ 122) = false := decide_eq_false h2
      go_enter Tryz.func103, Tryz.ntmps103
      go_wp2
      go_ret
      exact ⟨by rw [HS.out, d1, d2]; simp [d1, d2], rfl⟩
  · have d1 : decide ((97 : Int) ≤ (c.toNat : Int)) = false := decide_eq_false h1
    go_enter Tryz.func103, Tryz.ntmps103
    go_wp2
    go_ret
    exact ⟨by rw [HS.out, d1]; simp [d1], rfl⟩
theorem rdigit_any (c : UInt8) (w : World) : Calls Tryz.prog 106 #[.int .u8 (c.toNat : Int)] w fun e w' => e = .returned (.bool (isDg c)) ∧ w = w' := by
  have hc : (c.toNat : Int) < 256 := by have := c.toNat_lt; omega
  have HS := Lib.hid (show isDg c = (decide ((48 : Int) ≤ (c.toNat : Int)) && decide ((c.toNat : Int) ≤ 57)) by
    unfold isDg; congr 1 <;> exact decide_eq_decide.2 (by omega))
  by_cases h1 : (48 : Int) ≤ (c.toNat : Int)
  · have d1 : decide ((48 : Int) ≤ (c.toNat : Int)) = true := decide_eq_true h1
    by_cases h2 : (c.toNat : Int) ≤ 57
    · have d2 : decide ((c.toNat : Int) ≤ 57) = true := decide_eq_true h2
      go_enter Tryz.func106, Tryz.ntmps106
      go_wp2
      go_ret
      exact ⟨by rw [HS.out, d1, d2]; simp [d1, d2], rfl⟩
    · have d2 : decide ((c.toNat : Int) ≤ 57) = false := decide_eq_false h2
      go_enter Tryz.func106, Tryz.ntmps106
      go_wp2
      go_ret
      exact ⟨by rw [HS.out, d1, d2]; simp [d1, d2], rfl⟩
  · have d1 : decide ((48 : Int) ≤ (c.toNat : Int)) = false := decide_eq_false h1
    go_enter Tryz.func106, Tryz.ntmps106
    go_wp2
    go_ret
    exact ⟨by rw [HS.out, d1]; simp [d1], rfl⟩
/-- run from the beginning on, of a name. -/
def rnf (c : UInt8) : Bool := isDg c || (isLet c || c.toNat == 45)
set_option maxRecDepth 100000 in
set_option maxHeartbeats 2000000 in
theorem run0_any (s : ByteArray) (w : World) (hl : s.size ≤ 9223372036854775807) : Calls Tryz.prog 104 #[.string s, .int .i64 0, .bool false] w fun e w' => e = .returned (.int .i64 ((s.data.toList.takeWhile rnf).length : Int)) ∧ w = w' := by
  have HL := Lib.hid (fun c => rletter_any c w)
  have HD := Lib.hid (fun c => rdigit_any c w)
  have HSZ : Hid (s.data.toList.length = s.size) := Lib.hid rfl
  go_enter Tryz.func104, Tryz.ntmps104
  go_wp2_with fail
  go_loopw [7] (fun i wr => ∃ j : Nat, j ≤ s.size ∧ i = .int .i64 j ∧ Hid (w = wr ∧ (s.data.toList.takeWhile rnf).length = j + ((s.data.toList.drop j).takeWhile rnf).length)) (fun i _ => s.size - (intOf i).toNat)
  case atStart => exact ⟨0, by omega, rfl, Lib.hid ⟨rfl, by simp⟩⟩
  case round =>
    obtain ⟨j, hj, rfl, HR⟩ := hrel
    obtain rfl := HR.out.1
    by_cases hlt : j < s.size
    · have hji : (j : Int) < (s.size : Int) := by omega
      have hdr : s.data.toList.drop j = s[j] :: s.data.toList.drop (j + 1) := List.drop_eq_getElem_cons (by rw [HSZ.out]; exact hlt)
      have hcb : (s[j].toNat : Int) < 256 := by have := s[j].toNat_lt; omega
      have HT := Lib.hid (show rnf s[j] = true → (s.data.toList.takeWhile rnf).length = (j + 1) + ((s.data.toList.drop (j + 1)).takeWhile rnf).length from fun h => by
        have := HR.out.2
        rw [hdr, List.takeWhile_cons_of_pos h] at this
        simp only [List.length_cons] at this
        omega)
      have HF := Lib.hid (show rnf s[j] = false → (s.data.toList.takeWhile rnf).length = j from fun h => by
        have := HR.out.2
        rw [hdr, List.takeWhile_cons_of_neg (by simp [h])] at this
        simpa using this)
      have HLc := Lib.hid (HL.out s[j])
      have HDc := Lib.hid (HD.out s[j])
      have HRN := Lib.hid (show rnf s[j] = (isDg s[j] || (isLet s[j] || s[j].toNat == 45)) from rfl)
      have HM := Lib.hid (show (s[j].toNat == 45) = ((s[j].toNat : Int) == 45) by rw [Bool.eq_iff_iff, beq_iff_eq, beq_iff_eq]; omega)
      clear hdr HL HD HR
      generalize isDg s[j] = a at *
      generalize isLet s[j] = b at *
      generalize rnf s[j] = cc at *
      generalize (s[j].toNat == 45) = d at *
      cases a with
      | true =>
        have HN := Lib.hid (HT.out (by rw [HRN.out]; rfl))
        go_wp2_with (first
          | (go_at_call 106; refine HDc.out.mono ?_; rintro e w9 ⟨rfl, hw9⟩; subst hw9)
          | (go_at_call 103; refine HLc.out.mono ?_; rintro e w9 ⟨rfl, hw9⟩; subst hw9))
        go_roundw
        case rel => exact ⟨j + 1, by omega, by go_num, Lib.hid ⟨(by first | rfl | trivial), HN.out⟩⟩
        case measure => simp [intOf]; omega
      | false =>
        cases b with
        | true =>
          have HN := Lib.hid (HT.out (by rw [HRN.out]; rfl))
          go_wp2_with (first
            | (go_at_call 106; refine HDc.out.mono ?_; rintro e w9 ⟨rfl, hw9⟩; subst hw9)
            | (go_at_call 103; refine HLc.out.mono ?_; rintro e w9 ⟨rfl, hw9⟩; subst hw9))
          go_roundw
          case rel => exact ⟨j + 1, by omega, by go_num, Lib.hid ⟨(by first | rfl | trivial), HN.out⟩⟩
          case measure => simp [intOf]; omega
        | false =>
          cases d with
          | true =>
            have hd45 : ((s[j].toNat : Int) == 45) = true := HM.out.symm
            have HN := Lib.hid (HT.out (by rw [HRN.out]; rfl))
            go_wp2_with (first
              | (go_at_call 106; refine HDc.out.mono ?_; rintro e w9 ⟨rfl, hw9⟩; subst hw9)
              | (go_at_call 103; refine HLc.out.mono ?_; rintro e w9 ⟨rfl, hw9⟩; subst hw9))
            go_roundw
            case rel => exact ⟨j + 1, by omega, by go_num, Lib.hid ⟨(by first | rfl | trivial), HN.out⟩⟩
            case measure => simp [intOf]; omega
          | false =>
            have hd45 : ((s[j].toNat : Int) == 45) = false := HM.out.symm
            have HN := Lib.hid (HF.out (by rw [HRN.out]; rfl))
            go_wp2_with (first
              | (go_at_call 106; refine HDc.out.mono ?_; rintro e w9 ⟨rfl, hw9⟩; subst hw9)
              | (go_at_call 103; refine HLc.out.mono ?_; rintro e w9 ⟨rfl, hw9⟩; subst hw9))
            go_ret
            exact ⟨by rw [HN.out]; rfl, rfl⟩
    · obtain rfl : j = s.size := by omega
      have HN := Lib.hid (show (s.data.toList.takeWhile rnf).length = s.size by
        have := HR.out.2
        rw [List.drop_of_length_le (by rw [HSZ.out]; exact Nat.le_refl _)] at this
        simpa using this)
      clear HR HL HD
      go_wp2
      go_ret
      exact ⟨by rw [HN.out]; rfl, rfl⟩
end
section
set_option linter.unusedVariables false
set_option linter.unusedSimpArgs false
open Go.RowKit
def wordsR : List Bs := [[114, 111, 108, 101], [108, 97, 98, 101, 108], [114, 101, 103, 105, 111, 110], [97, 108, 108, 111, 119], [99, 97, 112], [99, 108, 111, 97, 107], [97, 110, 121], [97, 108, 108], [116, 105, 101, 114], [105, 110], [122, 111, 111, 109]]
def rS (i : Nat) : ByteArray := bs (wordsR.getD i [])
theorem rS_wS : ∀ i, i < 11 → ∃ j, j < 11 ∧ rS i = wS j := by
  have : ∀ i : Fin 11, ∃ j : Fin 11, wordsR.getD i.1 [] = wordsL.getD j.1 [] := by decide +kernel
  intro i hi
  obtain ⟨j, h⟩ := this ⟨i, hi⟩
  exact ⟨j.1, j.2, congrArg bs h⟩
theorem wS_rS : ∀ i, i < 11 → ∃ j, j < 11 ∧ wS i = rS j := by
  have : ∀ i : Fin 11, ∃ j : Fin 11, wordsL.getD i.1 [] = wordsR.getD j.1 [] := by decide +kernel
  intro i hi
  obtain ⟨j, h⟩ := this ⟨i, hi⟩
  exact ⟨j.1, j.2, congrArg bs h⟩
def rvals : Array Value := #[.string ⟨#[114, 111, 108, 101]⟩, .string ⟨#[108, 97, 98, 101, 108]⟩, .string ⟨#[114, 101, 103, 105, 111, 110]⟩, .string ⟨#[97, 108, 108, 111, 119]⟩, .string ⟨#[99, 97, 112]⟩, .string ⟨#[99, 108, 111, 97, 107]⟩, .string ⟨#[97, 110, 121]⟩, .string ⟨#[97, 108, 108]⟩, .string ⟨#[116, 105, 101, 114]⟩, .string ⟨#[105, 110]⟩, .string ⟨#[122, 111, 111, 109]⟩]
theorem rvals_at : ∀ k, k < 11 → rvals[k]? = some (.string (rS k))
  | 0, _ => rfl
  | 1, _ => rfl
  | 2, _ => rfl
  | 3, _ => rfl
  | 4, _ => rfl
  | 5, _ => rfl
  | 6, _ => rfl
  | 7, _ => rfl
  | 8, _ => rfl
  | 9, _ => rfl
  | 10, _ => rfl
  | k + 11, h => absurd h (by omega)
set_option maxRecDepth 100000 in
set_option maxHeartbeats 2000000 in
theorem rword_any (s : ByteArray) (w : World) : Calls Tryz.prog 105 #[.string s] w fun e w' => e = .returned (.bool (wordB s)) ∧ Below w.heap.size w w' := by
  have HA := Lib.hid (show Below w.heap.size w (w.alloc (.cells #[.string ⟨#[114, 111, 108, 101]⟩, .string ⟨#[108, 97, 98, 101, 108]⟩, .string ⟨#[114, 101, 103, 105, 111, 110]⟩, .string ⟨#[97, 108, 108, 111, 119]⟩, .string ⟨#[99, 97, 112]⟩, .string ⟨#[99, 108, 111, 97, 107]⟩, .string ⟨#[97, 110, 121]⟩, .string ⟨#[97, 108, 108]⟩, .string ⟨#[116, 105, 101, 114]⟩, .string ⟨#[105, 110]⟩, .string ⟨#[122, 111, 111, 109]⟩] 9)) from (Below.refl _ _).alloc (Nat.le_refl _) _)
  have HK := Lib.hid (fun k (hk : k < 11) => show (w.alloc (.cells #[.string ⟨#[114, 111, 108, 101]⟩, .string ⟨#[108, 97, 98, 101, 108]⟩, .string ⟨#[114, 101, 103, 105, 111, 110]⟩, .string ⟨#[97, 108, 108, 111, 119]⟩, .string ⟨#[99, 97, 112]⟩, .string ⟨#[99, 108, 111, 97, 107]⟩, .string ⟨#[97, 110, 121]⟩, .string ⟨#[97, 108, 108]⟩, .string ⟨#[116, 105, 101, 114]⟩, .string ⟨#[105, 110]⟩, .string ⟨#[122, 111, 111, 109]⟩] 9)).cell? ⟨w.heap.size, k, none⟩ = some (.string (rS k)) by
    have := (Blk.new w 9 rvals).cell k
    rw [rvals_at k hk] at this
    exact this)
  have HY : Hid (∀ k, k < 11 → s = rS k → wordB s = true) := Lib.hid (fun k hk e => by
    obtain ⟨j, hj, h⟩ := rS_wS k hk
    exact wordB_yes hj (e.trans h))
  have HN : Hid ((∀ j, j < 11 → s ≠ rS j) → wordB s = false) := Lib.hid (fun h => wordB_no fun j hj e => by
    obtain ⟨i, hi, h2⟩ := wS_rS j hj
    exact h i hi (e.trans h2))
  generalize wordB s = B at *
  go_enter Tryz.func105, Tryz.ntmps105
  go_wp2_with fail
  generalize (w.alloc (.cells #[.string ⟨#[114, 111, 108, 101]⟩, .string ⟨#[108, 97, 98, 101, 108]⟩, .string ⟨#[114, 101, 103, 105, 111, 110]⟩, .string ⟨#[97, 108, 108, 111, 119]⟩, .string ⟨#[99, 97, 112]⟩, .string ⟨#[99, 108, 111, 97, 107]⟩, .string ⟨#[97, 110, 121]⟩, .string ⟨#[97, 108, 108]⟩, .string ⟨#[116, 105, 101, 114]⟩, .string ⟨#[105, 110]⟩, .string ⟨#[122, 111, 111, 109]⟩] 9)) = W at *
  go_loopw [4] (fun i wr => ∃ k : Nat, k ≤ 11 ∧ i = .int .i64 k ∧ Hid (W = wr ∧ ∀ j, j < k → s ≠ rS j)) (fun i _ => 11 - (intOf i).toNat)
  case atStart => exact ⟨0, by omega, rfl, Lib.hid ⟨rfl, fun j hj => absurd hj (by omega)⟩⟩
  case round =>
    obtain ⟨k, hk, rfl, HR⟩ := hrel
    obtain rfl := HR.out.1
    by_cases hlt : k < 11
    · have hki : (k : Int) < 11 := by omega
      have hcell := HK.out k hlt
      by_cases he : s = rS k
      · have HB := Lib.hid (HY.out k hlt he)
        have heq : ((rS k).toList == s.toList) = true := by rw [he]; simp
        clear he HY HN HR HK
        go_wp2
        go_ret
        exact ⟨by rw [HB.out]; rfl, HA.out⟩
      · have HH := Lib.hid he
        have heq : ((rS k).toList == s.toList) = false := beq_eq_false_iff_ne.2 (fun e => HH.out (toList_inj e).symm)
        have HR2 := Lib.hid HR.out.2
        clear he HY HN HR HK
        go_wp2_with fail
        go_roundw
        case rel => exact ⟨k + 1, by omega, by go_num, Lib.hid ⟨(by first | rfl | trivial), fun j hj => by
          rcases Nat.lt_or_eq_of_le (Nat.le_of_lt_succ hj) with h1 | rfl
          · exact HR2.out j h1
          · exact HH.out⟩⟩
        case measure => simp [intOf]; omega
    · obtain rfl : k = 11 := by omega
      have HB := Lib.hid (HN.out HR.out.2)
      clear HY HN HR HK
      go_wp2
      go_ret
      exact ⟨by rw [HB.out]; rfl, HA.out⟩
/-- Is a text a name? -/
def rnm (l : Bs) : Bool := decide (0 < l.length) && (decide (l.length ≤ 16) && (on isLet l && (decide ((l.takeWhile rnf).length = l.length) && !wordB (bs l))))
set_option maxRecDepth 100000 in
set_option maxHeartbeats 2000000 in
theorem rname_any (l : Bs) (w : World) (hl : l.length ≤ 9223372036854775807) : Calls Tryz.prog 57 #[.string (bs l)] w fun e w' => e = .returned (.bool (rnm l)) ∧ Below w.heap.size w w' := by
  have hsz : ((bs l).size : Int) = (l.length : Int) := by rw [bs_size]
  have HW := Lib.hid (rword_any (bs l) w)
  have HR := Lib.hid (run0_any (bs l) w (by rw [bs_size]; exact hl))
  rw [bs_data] at HR
  have HE := Lib.hid (show rnm l = (decide (0 < l.length) && (decide (l.length ≤ 16) && (on isLet l && (decide ((l.takeWhile rnf).length = l.length) && !wordB (bs l))))) from rfl)
  have HB0 := Lib.hid (Below.refl w.heap.size w)
  generalize hwb : wordB (bs l) = wb at *
  generalize hrn : (l.takeWhile rnf).length = rn at *
  generalize rnm l = R at *
  clear hwb hrn
  cases l with
  | nil =>
    have e1 : R = false := by rw [HE.out]; rfl
    subst e1
    have h0 : ((bs []).size : Int) = 0 := rfl
    go_enter Tryz.func57, Tryz.ntmps57
    go_wp2
    go_ret
    exact ⟨rfl, HB0.out⟩
  | cons c t =>
    have hlen : (((c :: t).length : Nat) : Int) = (t.length : Int) + 1 := by simp
    rw [hlen] at hsz
    have HX := Lib.hid (show ∃ x : ByteArray, x = bs (c :: t) ∧ ∃ h0 : 0 < x.size, x[0] = c from ⟨_, rfl, by rw [bs0]; omega, rfl⟩)
    obtain ⟨x, hx, h0, hx0⟩ := HX.out
    rw [← hx] at hsz HW HR ⊢
    have HLT := Lib.hid (rletter_any c w)
    have HEL := Lib.hid (show on isLet (c :: t) = isLet c from rfl)
    clear HX hx
    have hc0 : ((x.size : Int) == 0) = false := beq_eq_false_iff_ne.2 (by omega)
    have hpos : (0 : Int) < (x.size : Int) := by omega
    have ht : (t.length : Int) ≤ 9223372036854775807 := by simp at hl; omega
    by_cases h16 : t.length + 1 ≤ 16
    · have hle : (x.size : Int) ≤ 16 := by omega
      cases hlc : isLet c with
      | false =>
        rw [hlc] at HLT
        have HRV := Lib.hid (show R = false by rw [HE.out, HEL.out, hlc]; simp)
        clear hlc HE HEL
        go_enter Tryz.func57, Tryz.ntmps57
        go_wp2_with (first
          | (go_at_call 103; refine HLT.out.mono ?_; rintro e w9 ⟨rfl, hw9⟩; subst hw9)
          | (go_at_call 104; refine HR.out.mono ?_; rintro e w9 ⟨rfl, hw9⟩; subst hw9)
          | (go_at_call 105; refine HW.out.mono ?_; rintro e w8 ⟨rfl, hb8⟩; have HB8 := Lib.hid hb8; clear hb8))
        go_ret
        exact ⟨by rw [HRV.out]; simp, HB0.out⟩
      | true =>
        rw [hlc] at HLT
        by_cases hr : rn = t.length + 1
        · have hrb : ((rn : Int) == (t.length : Int) + 1) = true := beq_iff_eq.2 (by omega)
          cases wb with
          | true =>
            have HRV := Lib.hid (show R = false by rw [HE.out]; simp)
            clear hlc HE HEL hr
            go_enter Tryz.func57, Tryz.ntmps57
            go_wp2_with (first
              | (go_at_call 103; refine HLT.out.mono ?_; rintro e w9 ⟨rfl, hw9⟩; subst hw9)
              | (go_at_call 104; refine HR.out.mono ?_; rintro e w9 ⟨rfl, hw9⟩; subst hw9)
              | (go_at_call 105; refine HW.out.mono ?_; rintro e w8 ⟨rfl, hb8⟩; have HB8 := Lib.hid hb8; clear hb8))
            go_ret
            exact ⟨by rw [HRV.out]; simp, HB8.out⟩
          | false =>
            have HRV := Lib.hid (show R = true by rw [HE.out, HEL.out, hlc]; simp [hr]; omega)
            clear hlc HE HEL hr
            go_enter Tryz.func57, Tryz.ntmps57
            go_wp2_with (first
              | (go_at_call 103; refine HLT.out.mono ?_; rintro e w9 ⟨rfl, hw9⟩; subst hw9)
              | (go_at_call 104; refine HR.out.mono ?_; rintro e w9 ⟨rfl, hw9⟩; subst hw9)
              | (go_at_call 105; refine HW.out.mono ?_; rintro e w8 ⟨rfl, hb8⟩; have HB8 := Lib.hid hb8; clear hb8))
            go_ret
            exact ⟨by rw [HRV.out]; simp, HB8.out⟩
        · have hrb : ((rn : Int) == (t.length : Int) + 1) = false := beq_eq_false_iff_ne.2 (by omega)
          have HRV := Lib.hid (show R = false by rw [HE.out]; simp [hr])
          clear hlc HE HEL hr
          go_enter Tryz.func57, Tryz.ntmps57
          go_wp2_with (first
            | (go_at_call 103; refine HLT.out.mono ?_; rintro e w9 ⟨rfl, hw9⟩; subst hw9)
            | (go_at_call 104; refine HR.out.mono ?_; rintro e w9 ⟨rfl, hw9⟩; subst hw9)
            | (go_at_call 105; refine HW.out.mono ?_; rintro e w8 ⟨rfl, hb8⟩; have HB8 := Lib.hid hb8; clear hb8))
          go_ret
          exact ⟨by rw [HRV.out]; simp, HB0.out⟩
    · have hle : (16 : Int) < (x.size : Int) := by omega
      have HRV := Lib.hid (show R = false by rw [HE.out]; simp; omega)
      clear HE HEL h16
      go_enter Tryz.func57, Tryz.ntmps57
      go_wp2_with (first
        | (go_at_call 103; refine HLT.out.mono ?_; rintro e w9 ⟨rfl, hw9⟩; subst hw9)
        | (go_at_call 104; refine HR.out.mono ?_; rintro e w9 ⟨rfl, hw9⟩; subst hw9)
        | (go_at_call 105; refine HW.out.mono ?_; rintro e w8 ⟨rfl, hb8⟩; have HB8 := Lib.hid hb8; clear hb8))
      go_ret
      exact ⟨by rw [HRV.out]; simp, HB0.out⟩
end
section
set_option linter.unusedVariables false
set_option linter.unusedSimpArgs false
open Go.RowKit
theorem skp_suffix (b : Bool) (l : Bs) : ∀ p, ∃ a, l = a ++ (skp b l p).1 := by
  induction l generalizing b with
  | nil => intro p; exact ⟨[], rfl⟩
  | cons c l ih =>
    intro p
    rw [skp]
    split
    · obtain ⟨a, h⟩ := ih ((b || c.toNat == 35) && !(c.toNat == 10)) (adv p c)
      exact ⟨c :: a, by rw [List.cons_append, ← h]⟩
    · exact ⟨[], rfl⟩
theorem tkT_A {l : Bs} (h : tkE l = 0) : tkT l = tkA l := by
  unfold tkE at h
  unfold tkT
  split at h
  · rename_i h1
    rw [if_pos h1]
    unfold nameE at h
    unfold nameTx
    split at h
    · rename_i h2; rw [if_pos h2]
    · rename_i h2
      split at h
      · cases h
      · rename_i h3; rw [if_neg h2, if_neg h3]
  · rename_i h1
    rw [if_neg h1]
    split at h
    · rename_i h2
      rw [if_pos h2]
      unfold numE at h
      unfold numTx
      split at h
      · cases h
      · rename_i h3; rw [if_neg h3]
    · rename_i h2
      rw [if_neg h2, tkA, if_neg h1, if_neg h2]
theorem one_to {l : Bs} {x : Tk} (h : toks l = ([x], none)) (ht : x.t = l) : l ≠ [] ∧ tkE l = 0 ∧ tkA l = l ∧ x.k = tkK l := by
  unfold toks at h
  split at h
  · simp at h
  · rename_i hlen
    obtain ⟨a, ha⟩ := skp_suffix false l (1, 1)
    generalize hs : skp false l (1, 1) = s at *
    have hne : s.1 ≠ [] := by
      intro e
      rw [e, tz_nil] at h
      simp at h
    by_cases he : tkE s.1 = 0
    · rw [tz_ok hne he] at h
      have hx : x = ⟨tkK s.1, tkT s.1, tkN s.1, s.2⟩ := by
        unfold app at h
        split at h
        · simp at h
        · simp at h; exact h.1.symm
      have hT := tkT_A he
      have h1 := (tkA_pos he hne).2
      have h2 : tkA s.1 = l := by rw [← hT]; rw [hx] at ht; exact ht
      have h3 : a = [] := by
        have e1 := congrArg List.length ha
        rw [List.length_append] at e1
        rw [h2] at h1
        exact List.length_eq_zero_iff.1 (by omega)
      have h4 : s.1 = l := by rw [ha, h3]; rfl
      rw [h4] at hne he h2 hx
      exact ⟨hne, he, h2, by rw [hx]⟩
    · rw [tz_err hne (by omega) he] at h
      simp at h
theorem one_of {l : Bs} (hl : l.length ≤ 512) (hne : l ≠ []) (he : tkE l = 0) (hA : tkA l = l) (hs : on isBl l = false) (h35 : nx l ≠ 35) : toks l = ([⟨tkK l, tkT l, tkN l, (1, 1)⟩], none) := by
  unfold toks
  rw [if_neg (by omega), skp_stop _ hs h35, tz_ok hne he, hA, List.drop_length]
  have e : skp false ([] : Bs) (advs (1, 1) l) = ([], advs (1, 1) l) := rfl
  rw [e, tz_nil]
  simp [app]
theorem rnf_ofNm : rnf = ofNm := by
  funext c
  unfold rnf ofNm
  cases isDg c <;> cases isLet c <;> simp
def nmc (l : Bs) : Bool := match (toks l).1 with
  | [x] => x.k == 1 && decide (x.t = l)
  | _ => false
theorem toks_shape (l : Bs) : (toks l).2 = none ∨ (toks l).1 = [] := by
  unfold toks
  split
  · exact .inr rfl
  · exact tz_shape _ _ _
theorem takeW_all {f : UInt8 → Bool} {l : Bs} (h : (l.takeWhile f).length = l.length) : l.takeWhile f = l := by
  have h1 := (List.prefix_iff_eq_take.1 (List.takeWhile_prefix f (l := l)))
  rw [h, List.take_length] at h1
  exact h1
theorem nmc_rnm (l : Bs) : nmc l = rnm l := by
  rw [Bool.eq_iff_iff]
  constructor
  · intro h
    unfold nmc at h
    split at h
    · rename_i x hx
      have h2 : (toks l).2 = none := by
        rcases toks_shape l with h2 | h2
        · exact h2
        · rw [hx] at h2; cases h2
      simp only [Bool.and_eq_true, beq_iff_eq, decide_eq_true_eq] at h
      obtain ⟨a1, a2, a3, a4⟩ := one_to (x := x) (Prod.ext hx h2) h.2
      rw [h.1] at a4
      have hlet : on isLet l = true := by
        by_cases h1 : on isLet l = true
        · exact h1
        · exfalso
          unfold tkK at a4
          rw [if_neg h1] at a4
          split at a4
          · unfold numKd at a4; split at a4 <;> omega
          · unfold mkKd at a4; split at a4 <;> omega
      unfold tkK at a4
      rw [if_pos hlet, a3] at a4
      have htw : l.takeWhile ofNm = l := by
        have := a3
        rw [tkA, if_pos hlet] at this
        exact this
      unfold nameKd at a4
      split at a4
      · omega
      · rename_i hw
        split at a4
        · omega
        · rename_i h16
          have hpos : 0 < l.length := List.length_pos_iff.2 a1
          have hwf : wordB (bs l) = false := by simpa using hw
          have hle : l.length ≤ 16 := by omega
          unfold rnm
          rw [rnf_ofNm, htw, hlet, hwf, decide_eq_true hpos, decide_eq_true hle, decide_eq_true rfl]
          rfl
    · cases h
  · intro h
    unfold rnm at h
    simp only [Bool.and_eq_true, decide_eq_true_eq, Bool.not_eq_true'] at h
    obtain ⟨h1, h2, h3, h4, h5⟩ := h
    rw [rnf_ofNm] at h4
    have htw := takeW_all h4
    have hA : tkA l = l := by rw [tkA, if_pos h3, htw]
    have hE : tkE l = 0 := by
      rw [tkE, if_pos h3, hA, nameE, h5]
      simp; omega
    have hK : tkK l = 1 := by
      rw [tkK, if_pos h3, hA, nameKd, h5]
      simp; omega
    obtain ⟨c, t, rfl, hc⟩ := span_on h3
    have hcb : 97 ≤ c.toNat ∧ c.toNat ≤ 122 := by simpa [isLet] using hc
    have := one_of (by omega) (by simp) hE hA (by simp [on, isBl]; omega) (by simp [nx]; omega)
    unfold nmc
    rw [this]
    simp only
    rw [hK, tkT_A hE, hA]
    simp
/-- A word is one token. -/
theorem word_one : ∀ i, i < 11 → (toks (wordsL.getD i [])).1.map (fun x => (x.k, x.t)) = [(2, wordsL.getD i [])] ∧ (toks (wordsL.getD i [])).2 = none
  | 0, _ => by constructor <;> kernel_rfl
  | 1, _ => by constructor <;> kernel_rfl
  | 2, _ => by constructor <;> kernel_rfl
  | 3, _ => by constructor <;> kernel_rfl
  | 4, _ => by constructor <;> kernel_rfl
  | 5, _ => by constructor <;> kernel_rfl
  | 6, _ => by constructor <;> kernel_rfl
  | 7, _ => by constructor <;> kernel_rfl
  | 8, _ => by constructor <;> kernel_rfl
  | 9, _ => by constructor <;> kernel_rfl
  | 10, _ => by constructor <;> kernel_rfl
  | k + 11, h => absurd h (by omega)
theorem word_tok (l : Bs) : wordB (bs l) = (match toks l with
    | ([x], none) => decide (x.t = l) && (x.k == 2)
    | _ => false) := by
  rw [Bool.eq_iff_iff]
  constructor
  · intro h
    unfold wordB at h
    rw [List.any_eq_true] at h
    obtain ⟨i, hi, he⟩ := h
    have hi' := List.mem_range.1 hi
    have hl : l = wordsL.getD i [] := bs_inj (by simpa [wS] using he)
    obtain ⟨w1, w2⟩ := word_one i hi'
    rw [← hl] at w1 w2
    cases htk : toks l with
    | mk L f =>
    rw [htk] at w1 w2
    simp only at w1 w2
    subst w2
    match L, w1 with
    | [x], w1 =>
      simp at w1
      simp [w1]
    | [], w1 => simp at w1
    | x :: y :: r, w1 => simp at w1
  · intro h
    split at h
    · rename_i x hx
      simp only [Bool.and_eq_true, beq_iff_eq, decide_eq_true_eq] at h
      obtain ⟨a1, a2, a3, a4⟩ := one_to hx h.1
      rw [h.2] at a4
      by_cases h1 : on isLet l = true
      · unfold tkK at a4
        rw [if_pos h1, a3] at a4
        unfold nameKd at a4
        split at a4
        · assumption
        · split at a4 <;> omega
      · exfalso
        unfold tkK at a4
        rw [if_neg h1] at a4
        split at a4
        · unfold numKd at a4; split at a4 <;> omega
        · unfold mkKd at a4; split at a4 <;> omega
    · cases h
theorem fl_ne (l : Bs) {f : Int × Pl} (h : (toks l).2 = some f) : flE (toks l).2 ≠ 0 := by
  have hz : ∀ (n : Nat) (k : Bs) (p : Pl) (f : Int × Pl), (tz n k p).2 = some f → f.1 ≠ 0 := by
    intro n
    induction n with
    | zero => intro k p f h; simp [tz] at h
    | succ n ih =>
      intro k p f h
      by_cases hk : k = []
      · subst hk; simp [tz_nil] at h
      · by_cases he : tkE k = 0
        · rw [tz_ok hk he] at h
          unfold app at h
          split at h
          · rename_i f' hf
            simp at h
            subst h
            exact ih _ _ _ hf
          · simp at h
        · rw [tz_err hk (by omega) he] at h
          simp at h
          rw [← h]
          exact he
  rw [h]
  show f.1 ≠ 0
  unfold toks at h
  split at h
  · simp at h; rw [← h]; decide
  · exact hz _ _ _ _ h
end
section
set_option linter.unusedVariables false
set_option linter.unusedSimpArgs false
open Go.RowKit
/-- What run counts. -/
def rnd (dg : Bool) (c : UInt8) : Bool := isDg c || (!dg && (isLet c || c.toNat == 45))
theorem rnd_false : rnd false = ofNm := by
  funext c
  unfold rnd ofNm
  cases isDg c <;> cases isLet c <;> simp
theorem rnd_true : rnd true = isDg := by
  funext c
  unfold rnd
  simp
set_option maxRecDepth 100000 in
set_option maxHeartbeats 2000000 in
theorem run_any (s : ByteArray) (at0 : Nat) (dg : Bool) (w : World) (hl : s.size ≤ 512) (ha : at0 ≤ s.size) : Calls Tryz.prog 104 #[.string s, .int .i64 at0, .bool dg] w fun e w' => e = .returned (.int .i64 (((s.data.toList.drop at0).takeWhile (rnd dg)).length : Int)) ∧ w = w' := by
  have HL := Lib.hid (fun c => rletter_any c w)
  have HD := Lib.hid (fun c => rdigit_any c w)
  have HSZ : Hid (s.data.toList.length = s.size) := Lib.hid rfl
  go_enter Tryz.func104, Tryz.ntmps104
  go_wp2_with fail
  go_loopw [7] (fun i wr => ∃ j : Nat, at0 + j ≤ s.size ∧ i = .int .i64 j ∧ Hid (w = wr ∧ ((s.data.toList.drop at0).takeWhile (rnd dg)).length = j + ((s.data.toList.drop (at0 + j)).takeWhile (rnd dg)).length)) (fun i _ => s.size - (intOf i).toNat)
  case atStart => exact ⟨0, by omega, rfl, Lib.hid ⟨rfl, by simp⟩⟩
  case round =>
    obtain ⟨j, hj, rfl, HR⟩ := hrel
    obtain rfl := HR.out.1
    by_cases hlt : at0 + j < s.size
    · have hji : (at0 : Int) + (j : Int) < (s.size : Int) := by omega
      have hnn : (0 : Int) ≤ (at0 : Int) + (j : Int) := by omega
      have htn : ((at0 : Int) + (j : Int)).toNat = at0 + j := by omega
      have hdr : s.data.toList.drop (at0 + j) = s[at0 + j] :: s.data.toList.drop (at0 + j + 1) := List.drop_eq_getElem_cons (by rw [HSZ.out]; exact hlt)
      have hcb : (s[at0 + j].toNat : Int) < 256 := by have := s[at0 + j].toNat_lt; omega
      have HT := Lib.hid (show rnd dg s[at0 + j] = true → ((s.data.toList.drop at0).takeWhile (rnd dg)).length = (j + 1) + ((s.data.toList.drop (at0 + (j + 1))).takeWhile (rnd dg)).length from fun h => by
        have := HR.out.2
        rw [hdr, List.takeWhile_cons_of_pos h] at this
        simp only [List.length_cons] at this
        rw [show at0 + (j + 1) = at0 + j + 1 by omega]
        omega)
      have HF := Lib.hid (show rnd dg s[at0 + j] = false → ((s.data.toList.drop at0).takeWhile (rnd dg)).length = j from fun h => by
        have := HR.out.2
        rw [hdr, List.takeWhile_cons_of_neg (by simp [h])] at this
        simpa using this)
      have HLc := Lib.hid (HL.out s[at0 + j])
      have HDc := Lib.hid (HD.out s[at0 + j])
      have HRN := Lib.hid (show rnd dg s[at0 + j] = (isDg s[at0 + j] || (!dg && (isLet s[at0 + j] || s[at0 + j].toNat == 45))) from rfl)
      have HM := Lib.hid (show (s[at0 + j].toNat == 45) = ((s[at0 + j].toNat : Int) == 45) by rw [Bool.eq_iff_iff, beq_iff_eq, beq_iff_eq]; omega)
      clear hdr HL HD HR
      generalize isDg s[at0 + j] = a at *
      generalize isLet s[at0 + j] = b at *
      generalize rnd dg s[at0 + j] = cc at *
      generalize (s[at0 + j].toNat == 45) = d at *
      cases a with
      | true =>
        have HN := Lib.hid (HT.out (by rw [HRN.out]; rfl))
        go_wp2_with (first
          | (go_at_call 106; refine HDc.out.mono ?_; rintro e w9 ⟨rfl, hw9⟩; subst hw9)
          | (go_at_call 103; refine HLc.out.mono ?_; rintro e w9 ⟨rfl, hw9⟩; subst hw9))
        go_roundw
        case rel => exact ⟨j + 1, by omega, by go_num, Lib.hid ⟨(by first | rfl | trivial), HN.out⟩⟩
        case measure => simp [intOf]; omega
      | false =>
        cases dg with
        | true =>
          have HN := Lib.hid (HF.out (by rw [HRN.out]; rfl))
          go_wp2_with (first
            | (go_at_call 106; refine HDc.out.mono ?_; rintro e w9 ⟨rfl, hw9⟩; subst hw9)
            | (go_at_call 103; refine HLc.out.mono ?_; rintro e w9 ⟨rfl, hw9⟩; subst hw9))
          go_ret
          exact ⟨by rw [HN.out]; rfl, rfl⟩
        | false =>
          cases b with
          | true =>
            have HN := Lib.hid (HT.out (by rw [HRN.out]; rfl))
            go_wp2_with (first
              | (go_at_call 106; refine HDc.out.mono ?_; rintro e w9 ⟨rfl, hw9⟩; subst hw9)
              | (go_at_call 103; refine HLc.out.mono ?_; rintro e w9 ⟨rfl, hw9⟩; subst hw9))
            go_roundw
            case rel => exact ⟨j + 1, by omega, by go_num, Lib.hid ⟨(by first | rfl | trivial), HN.out⟩⟩
            case measure => simp [intOf]; omega
          | false =>
            cases d with
            | true =>
              have hd45 : ((s[at0 + j].toNat : Int) == 45) = true := HM.out.symm
              have HN := Lib.hid (HT.out (by rw [HRN.out]; rfl))
              go_wp2_with (first
                | (go_at_call 106; refine HDc.out.mono ?_; rintro e w9 ⟨rfl, hw9⟩; subst hw9)
                | (go_at_call 103; refine HLc.out.mono ?_; rintro e w9 ⟨rfl, hw9⟩; subst hw9))
              go_roundw
              case rel => exact ⟨j + 1, by omega, by go_num, Lib.hid ⟨(by first | rfl | trivial), HN.out⟩⟩
              case measure => simp [intOf]; omega
            | false =>
              have hd45 : ((s[at0 + j].toNat : Int) == 45) = false := HM.out.symm
              have HN := Lib.hid (HF.out (by rw [HRN.out]; rfl))
              go_wp2_with (first
                | (go_at_call 106; refine HDc.out.mono ?_; rintro e w9 ⟨rfl, hw9⟩; subst hw9)
                | (go_at_call 103; refine HLc.out.mono ?_; rintro e w9 ⟨rfl, hw9⟩; subst hw9))
              go_ret
              exact ⟨by rw [HN.out]; rfl, rfl⟩
    · obtain hje : at0 + j = s.size := by omega
      have hji : (at0 : Int) + (j : Int) = (s.size : Int) := by omega
      have HN := Lib.hid (show ((s.data.toList.drop at0).takeWhile (rnd dg)).length = j by
        have e : s.data.toList.drop (at0 + j) = [] := List.drop_of_length_le (by rw [HSZ.out]; omega)
        have := HR.out.2
        rw [e] at this
        simpa using this)
      have hge : (s.size : Int) ≤ (at0 : Int) + (j : Int) := by omega
      clear HR HL HD
      go_wp2
      go_ret
      exact ⟨by rw [HN.out]; rfl, rfl⟩
/-- Where skip ends: how many bytes it passes. -/
def skn (b : Bool) (l : Bs) : Nat := l.length - (skp b l (1, 1)).1.length
theorem skp_place (b : Bool) (l : Bs) : ∀ p q, (skp b l p).1 = (skp b l q).1 := by
  induction l generalizing b with
  | nil => intro p q; rfl
  | cons c l ih =>
    intro p q
    rw [skp, skp]
    split
    · exact ih _ _ _
    · rfl
theorem skp_advs (b : Bool) (l : Bs) : ∀ p, (skp b l p).2 = advs p (l.take (l.length - (skp b l p).1.length)) := by
  induction l generalizing b with
  | nil => intro p; rfl
  | cons c l ih =>
    intro p
    rw [skp]
    split
    · have hle := skp_len ((b || c.toNat == 35) && !(c.toNat == 10)) l (adv p c)
      rw [ih]
      rw [show (c :: l).length - (skp ((b || c.toNat == 35) && !(c.toNat == 10)) l (adv p c)).1.length = (l.length - (skp ((b || c.toNat == 35) && !(c.toNat == 10)) l (adv p c)).1.length) + 1 by simp only [List.length_cons]; omega]
      rfl
    · simp [advs]
set_option maxRecDepth 100000 in
set_option maxHeartbeats 2000000 in
theorem rskip_any (s : ByteArray) (at0 : Nat) (w : World) (hl : s.size ≤ 512) (ha : at0 ≤ s.size) : Calls Tryz.prog 63 #[.string s, .int .i64 at0] w fun e w' => e = .returned (.int .i64 ((s.size - (skp false (s.data.toList.drop at0) (1, 1)).1.length : Nat) : Int)) ∧ w = w' := by
  have HSZ : Hid (s.data.toList.length = s.size) := Lib.hid rfl
  go_enter Tryz.func63, Tryz.ntmps63
  go_wp2_with fail
  go_loopw [5, 6] (fun i f wr => ∃ (j : Nat) (b : Bool), j ≤ s.size ∧ i = .int .i64 j ∧ f = .bool b ∧ Hid (w = wr ∧ (skp false (s.data.toList.drop at0) (1, 1)).1 = (skp b (s.data.toList.drop j) (1, 1)).1)) (fun i _ _ => s.size - (intOf i).toNat)
  case atStart => exact ⟨at0, false, ha, rfl, rfl, Lib.hid ⟨rfl, rfl⟩⟩
  case round =>
    obtain ⟨j, b, hj, rfl, rfl, HR⟩ := hrel
    obtain rfl := HR.out.1
    by_cases hlt : j < s.size
    · have hji : (j : Int) < (s.size : Int) := by omega
      have hdr : s.data.toList.drop j = s[j] :: s.data.toList.drop (j + 1) := List.drop_eq_getElem_cons (by rw [HSZ.out]; exact hlt)
      have hcb : (s[j].toNat : Int) < 256 := by have := s[j].toNat_lt; omega
      have HT := Lib.hid (show (b || isBl s[j] || s[j].toNat == 35) = true → (skp false (s.data.toList.drop at0) (1, 1)).1 = (skp ((b || s[j].toNat == 35) && !(s[j].toNat == 10)) (s.data.toList.drop (j + 1)) (1, 1)).1 from fun h => by
        rw [HR.out.2, hdr, skp, if_pos h]; exact skp_place _ _ _ _)
      have HF := Lib.hid (show (b || isBl s[j] || s[j].toNat == 35) = false → (skp false (s.data.toList.drop at0) (1, 1)).1.length = s.size - j from fun h => by
        rw [HR.out.2, hdr, skp, if_neg (by simp [h]), ← hdr, List.length_drop, HSZ.out])
      have e32 : (s[j].toNat == 32) = ((s[j].toNat : Int) == 32) := by rw [Bool.eq_iff_iff, beq_iff_eq, beq_iff_eq]; omega
      have e10 : (s[j].toNat == 10) = ((s[j].toNat : Int) == 10) := by rw [Bool.eq_iff_iff, beq_iff_eq, beq_iff_eq]; omega
      have e35 : (s[j].toNat == 35) = ((s[j].toNat : Int) == 35) := by rw [Bool.eq_iff_iff, beq_iff_eq, beq_iff_eq]; omega
      unfold isBl at HT HF
      rw [e32, e10, e35] at HT HF
      have hx : (((s[j].toNat : Int) == 32) = true → ((s[j].toNat : Int) == 10) = false ∧ ((s[j].toNat : Int) == 35) = false) ∧ (((s[j].toNat : Int) == 10) = true → ((s[j].toNat : Int) == 35) = false) := by
        simp only [beq_iff_eq, beq_eq_false_iff_ne]; omega
      have HX := Lib.hid hx
      clear hdr HR e32 e10 e35 hx
      cases h32 : ((s[j].toNat : Int) == 32) <;> cases h10 : ((s[j].toNat : Int) == 10) <;> cases h35 : ((s[j].toNat : Int) == 35) <;> cases b <;> rw [h32, h10, h35] at HT HF HX
      all_goals first
        | (exfalso; have := HX.out; simp at this; done)
        | (have HN := Lib.hid (HT.out rfl)
           go_wp2_with fail
           go_roundw
           case rel => exact ⟨j + 1, _, by omega, by go_num, rfl, Lib.hid ⟨(by first | rfl | trivial), HN.out⟩⟩
           case measure => simp [intOf]; omega)
        | (have HN := Lib.hid (HF.out rfl)
           go_wp2
           go_ret
           refine ⟨?_, rfl⟩
           rw [HN.out, show s.size - (s.size - j) = j by omega]; rfl)
    · obtain rfl : j = s.size := by omega
      have HN := Lib.hid (show (skp false (s.data.toList.drop at0) (1, 1)).1.length = 0 by
        rw [HR.out.2, List.drop_of_length_le (by rw [HSZ.out]; exact Nat.le_refl _)]; cases b <;> rfl)
      clear HR
      go_wp2
      go_ret
      refine ⟨?_, rfl⟩
      rw [HN.out]; rfl
end
section
set_option linter.unusedVariables false
set_option linter.unusedSimpArgs false
open Go.RowKit
def rnum (t : Bs) : Nat := if lead t || decide (5 < t.length) then 65536 else vl t
theorem vl_lt (t : Bs) : digL t → vl t < 10 ^ t.length := by
  refine snoc_ind (P := fun t => digL t → vl t < 10 ^ t.length) (fun _ => by simp [vl]) (fun a c ih hd => ?_) t
  obtain ⟨ha, hc⟩ := digL_snoc hd
  have := ih ha
  have hc2 := (dg_iff c).1 hc
  rw [vl_snoc, List.length_append, List.length_singleton, Nat.pow_succ]
  omega
set_option maxRecDepth 100000 in
set_option maxHeartbeats 2000000 in
theorem rnumber_any (t : Bs) (w : World) (hd : digL t) (hn : t ≠ []) (hl : t.length ≤ 512) : Calls Tryz.prog 107 #[.string (bs t)] w fun e w' => e = .returned (.int .i64 (rnum t : Int)) ∧ w = w' := by
  have HSZ : Hid ((bs t).size = t.length) := Lib.hid (bs_size t)
  have hsz : ((bs t).size : Int) = (t.length : Int) := by rw [bs_size]
  have HDT : Hid ((bs t).data.toList = t) := Lib.hid (bs_data t)
  have HHD := Lib.hid (show lead t = (decide (1 < t.length) && (t.head?.map (·.toNat) == some 48)) from rfl)
  have HRN := Lib.hid (show rnum t = if lead t || decide (5 < t.length) then 65536 else vl t from rfl)
  have hpos : 0 < t.length := List.length_pos_iff.2 hn
  have h0 : 0 < (bs t).size := by rw [bs_size]; exact hpos
  have hh : t.head?.map (·.toNat) = some (bs t)[0].toNat := by
    cases t with
    | nil => exact absurd rfl hn
    | cons c r => rfl
  have HD := Lib.hid hd
  have HHH := Lib.hid hh
  clear hh hd hn
  have hcb : ((bs t)[0].toNat : Int) < 256 := by have := (bs t)[0].toNat_lt; omega
  generalize lead t = ld at *
  by_cases h5 : 5 < t.length
  · have e1 : rnum t = 65536 := by rw [HRN.out, decide_eq_true h5]; simp
    rw [e1]
    have hg5 : (5 : Int) < (t.length : Int) := by omega
    have hg1 : (1 : Int) < (t.length : Int) := by omega
    cases h48 : (((bs t)[0].toNat : Int) == 48) <;>
    · clear HHD HRN e1 HD HHH HDT HSZ
      go_enter Tryz.func107, Tryz.ntmps107
      go_wp2
      go_ret
      exact ⟨rfl, rfl⟩
  · have hg5 : (t.length : Int) ≤ 5 := by omega
    cases ld with
    | true =>
      have e1 : rnum t = 65536 := by rw [HRN.out]; simp
      rw [e1]
      have hld := HHD.out.symm
      simp only [Bool.and_eq_true, decide_eq_true_eq, beq_iff_eq] at hld
      have hg1 : (1 : Int) < (t.length : Int) := by omega
      have h48 : (((bs t)[0].toNat : Int) == 48) = true := by
        have := HHH.out
        rw [hld.2] at this
        simp at this
        exact beq_iff_eq.2 (by omega)
      clear HHD HRN e1 HD HHH HDT HSZ hld
      go_enter Tryz.func107, Tryz.ntmps107
      go_wp2
      go_ret
      exact ⟨rfl, rfl⟩
    | false =>
      have e1 : rnum t = vl t := by rw [HRN.out, decide_eq_false h5]; simp
      rw [e1]
      have hor : (t.length : Int) ≤ 1 ∨ (((1 : Int) < (t.length : Int)) ∧ (((bs t)[0].toNat : Int) == 48) = false) := by
        by_cases h1 : 1 < t.length
        · refine .inr ⟨by omega, beq_eq_false_iff_ne.2 fun e => ?_⟩
          have := HHD.out
          rw [HHH.out, decide_eq_true h1] at this
          simp at this
          omega
        · exact .inl (by omega)
      clear HHD HRN e1 HHH
      rcases hor with hg1 | ⟨hg1, h48⟩
      all_goals
        go_enter Tryz.func107, Tryz.ntmps107
        go_wp2_with fail
        go_loopw [3, 4] (fun n i wr => ∃ j : Nat, j ≤ t.length ∧ i = .int .i64 j ∧ n = .int .i64 (vl (t.take j) : Int) ∧ w = wr) (fun _ i _ => t.length - (intOf i).toNat)
        case atStart => exact ⟨0, by omega, rfl, rfl, rfl⟩
        case round =>
          obtain ⟨j, hj, rfl, rfl, hw9⟩ := hrel
          subst hw9
          by_cases hlt : j < t.length
          · have hji : (j : Int) < (t.length : Int) := by omega
            have hjs : j < (bs t).size := by rw [bs_size]; exact hlt
            have hgt : (bs t)[j] = t[j] := rfl
            have htk : t.take (j + 1) = t.take j ++ [t[j]] := List.take_succ_eq_append_getElem hlt
            have hdg := (dg_iff t[j]).1 (HD.out _ (List.getElem_mem hlt))
            have hbd := vl_lt (t.take j) (fun c hc => HD.out c (List.mem_of_mem_take hc))
            have hpw : 10 ^ (t.take j).length ≤ 10 ^ 5 := Nat.pow_le_pow_right (by decide) (by rw [List.length_take]; omega)
            have HN := Lib.hid (show (vl (t.take (j + 1)) : Int) = 10 * (vl (t.take j) : Int) + (t[j].toNat : Int) - 48 by rw [htk, vl_snoc]; omega)
            have hb1 : (0 : Int) ≤ (vl (t.take j) : Int) ∧ (vl (t.take j) : Int) ≤ 100000 := by omega
            obtain ⟨hb10, hb11⟩ := hb1
            have hc1 : (48 : Int) ≤ (t[j].toNat : Int) ∧ (t[j].toNat : Int) ≤ 57 := by omega
            obtain ⟨hc10, hc11⟩ := hc1
            rw [← hgt] at hc10 hc11 HN
            clear hgt htk hdg hbd hpw
            generalize vl (t.take j) = V at *
            have hq1 : IntKind.i64.wrap (10 * (V : Int)) = 10 * (V : Int) := by rw [IntKind.wrap_i64]; omega
            have hq0 : wrap64 ((bs t)[j].toNat : Int) = ((bs t)[j].toNat : Int) := w64b _
            have hq2 : IntKind.i64.wrap (10 * (V : Int) + ((bs t)[j].toNat : Int)) = 10 * (V : Int) + ((bs t)[j].toNat : Int) := by rw [IntKind.wrap_i64]; omega
            have hq3 : IntKind.i64.wrap (10 * (V : Int) + ((bs t)[j].toNat : Int) - 48) = 10 * (V : Int) + ((bs t)[j].toNat : Int) - 48 := by rw [IntKind.wrap_i64]; omega
            go_wp2_with fail
            go_roundw
            case rel => exact ⟨j + 1, by omega, by go_num, (by first | (rw [HN.out]; done) | (rw [HN.out]; go_num)), (by first | rfl | trivial)⟩
            case measure => simp [intOf]; omega
          · obtain rfl : j = t.length := by omega
            go_wp2
            go_ret
            exact ⟨by rw [List.take_length]; rfl, rfl⟩
theorem advs_bound (l : Bs) : ∀ p : Pl, 1 ≤ p.1 → 1 ≤ p.2 → 1 ≤ (advs p l).1 ∧ (advs p l).1 ≤ p.1 + l.length ∧ 1 ≤ (advs p l).2 ∧ ((advs p l).2 ≤ p.2 + l.length ∨ (advs p l).2 ≤ 1 + l.length) := by
  induction l with
  | nil => intro p h1 h2; simp [advs]; omega
  | cons c l ih =>
    intro p h1 h2
    have e : advs p (c :: l) = advs (adv p c) l := rfl
    rw [e]
    unfold adv
    split
    · have := ih (p.1 + 1, 1) (by simp only; omega) (by simp only; omega)
      simp only [List.length_cons] at this ⊢
      omega
    · have := ih (p.1, p.2 + 1) (by simp only; omega) (by simp only; omega)
      simp only [List.length_cons] at this ⊢
      omega
structure PcSt (w0 : World) (p : Pl) (W : World) : Prop where
  res : Blk W w0.heap.size 27 #[.int .i64 0, .int .i64 0]
  pos : Blk W (w0.heap.size + 1) 27 #[.int .i64 p.1, .int .i64 p.2]
  below : Below w0.heap.size w0 W
set_option maxRecDepth 100000 in
set_option maxHeartbeats 2000000 in
theorem place_any (s : ByteArray) (at0 : Nat) (w : World) (hl : s.size ≤ 140737488355328) (ha : at0 ≤ s.size) : Calls Tryz.prog 35 #[.string s, .int .i64 at0] w fun e w' => e = .returned (.agg #[.int .i64 (advs (1, 1) (s.data.toList.take at0)).1, .int .i64 (advs (1, 1) (s.data.toList.take at0)).2]) ∧ Below w.heap.size w w' := by
  have HSZ : Hid (s.data.toList.length = s.size) := Lib.hid rfl
  have hb2 := blk_two w 27 27 #[.int .i64 0, .int .i64 0] #[.int .i64 1, .int .i64 1]
  have hA : Below w.heap.size w ((w.alloc (.cells #[.int .i64 0, .int .i64 0] 27)).alloc (.cells #[.int .i64 1, .int .i64 1] 27)) := ((Below.refl _ _).alloc (Nat.le_refl _) _).alloc (by simp) _
  have HS0 := Lib.hid (show PcSt w (1, 1) _ from ⟨hb2.1, hb2.2, hA⟩)
  clear hb2 hA
  go_enter Tryz.func35, Tryz.ntmps35
  go_wp2_with fail
  generalize ((w.alloc (.cells #[.int .i64 0, .int .i64 0] 27)).alloc (.cells #[.int .i64 1, .int .i64 1] 27)) = W0 at *
  go_loopw [6] (fun i wr => ∃ j : Nat, j ≤ at0 ∧ i = .int .i64 j ∧ Hid (PcSt w (advs (1, 1) (s.data.toList.take j)) wr)) (fun i _ => at0 - (intOf i).toNat)
  case atStart => exact ⟨0, by omega, rfl, HS0⟩
  case round =>
    obtain ⟨j, hj, rfl, HS⟩ := hrel
    have hbd := advs_bound (s.data.toList.take j) (1, 1) (by decide) (by decide)
    have hln : (s.data.toList.take j).length ≤ 140737488355328 := by rw [List.length_take, HSZ.out]; omega
    have HNX := Lib.hid (fun (h : j < s.size) => show advs (1, 1) (s.data.toList.take (j + 1)) = adv (advs (1, 1) (s.data.toList.take j)) s[j] by
      rw [List.take_succ_eq_append_getElem (show j < s.data.toList.length by rw [HSZ.out]; exact h), advs_app]; rfl)
    generalize hpp : advs (1, 1) (s.data.toList.take j) = p at *
    have HPP := Lib.hid hpp
    clear hpp
    have hp1 : (1 : Int) ≤ p.1 ∧ p.1 ≤ 140737488355330 ∧ (1 : Int) ≤ p.2 ∧ p.2 ≤ 140737488355330 := by simp only at hbd; omega
    obtain ⟨hp10, hp11, hp20, hp21⟩ := hp1
    clear hbd hln
    have k1 : _ = some (Value.int .i64 p.1) := HS.out.pos.cell 0
    have k2 : _ = some (Value.int .i64 p.2) := HS.out.pos.cell 1
    have f1 := HS.out.pos.frozen 0
    have f2 := HS.out.pos.frozen 1
    by_cases hlt : j < at0
    · have hji : (j : Int) < (at0 : Int) := by omega
      have hjs : j < s.size := by omega
      have hjsi : (j : Int) < (s.size : Int) := by omega
      have HN1 := Lib.hid (HNX.out hjs)
      have hcb : (s[j].toNat : Int) < 256 := by have := s[j].toNat_lt; omega
      clear HNX
      by_cases hc : s[j].toNat = 10
      · have hcb2 : ((s[j].toNat : Int) == 10) = true := beq_iff_eq.2 (by omega)
        have HAd := Lib.hid (show adv p s[j] = (p.1 + 1, 1) by rw [adv, if_pos hc])
        clear hc
        go_wp2_with fail
        go_roundw
        case rel =>
          refine ⟨j + 1, by omega, by go_num, Lib.hid ?_⟩
          rw [HN1.out, HAd.out]
          have h1 := (((HS.out.pos.set_ 1 (.int .i64 (p.2 + 1))).set_ 0 (.int .i64 (p.1 + 1))).set_ 1 (.int .i64 1))
          have h2 := ((((HS.out.res.far (p := ⟨w.heap.size + 1, 1, none⟩) (by simp) (.int .i64 (p.2 + 1))).far (p := ⟨w.heap.size + 1, 0, none⟩) (by simp) (.int .i64 (p.1 + 1)))).far (p := ⟨w.heap.size + 1, 1, none⟩) (by simp) (.int .i64 1))
          have h3 := (((HS.out.below.setCell (p := ⟨w.heap.size + 1, 1, none⟩) (by simp) (.int .i64 (p.2 + 1))).setCell (p := ⟨w.heap.size + 1, 0, none⟩) (by simp) (.int .i64 (p.1 + 1))).setCell (p := ⟨w.heap.size + 1, 1, none⟩) (by simp) (.int .i64 1))
          exact ⟨h2, by simpa using h1, h3⟩
        case measure => simp [intOf]; omega
      · have hcb2 : ((s[j].toNat : Int) == 10) = false := beq_eq_false_iff_ne.2 (by omega)
        have HAd := Lib.hid (show adv p s[j] = (p.1, p.2 + 1) by rw [adv, if_neg hc])
        clear hc
        go_wp2_with fail
        go_roundw
        case rel =>
          refine ⟨j + 1, by omega, by go_num, Lib.hid ?_⟩
          rw [HN1.out, HAd.out]
          have h1 := (HS.out.pos.set_ 1 (.int .i64 (p.2 + 1)))
          have h2 := (HS.out.res.far (p := ⟨w.heap.size + 1, 1, none⟩) (by simp) (.int .i64 (p.2 + 1)))
          have h3 := (HS.out.below.setCell (p := ⟨w.heap.size + 1, 1, none⟩) (by simp) (.int .i64 (p.2 + 1)))
          exact ⟨h2, by simpa using h1, h3⟩
        case measure => simp [intOf]; omega
    · obtain rfl : j = at0 := by omega
      have r0 : _ = some (Value.int .i64 0) := HS.out.res.cell 0
      have r1 : _ = some (Value.int .i64 0) := HS.out.res.cell 1
      have g0 := HS.out.res.frozen 0
      have g1 := HS.out.res.frozen 1
      have HBF := Lib.hid ((HS.out.below.setCell (p := ⟨w.heap.size, 0, none⟩) (Nat.le_refl _) (.int .i64 p.1)).setCell (p := ⟨w.heap.size, 1, none⟩) (Nat.le_refl _) (.int .i64 p.2))
      go_wp2_with fail
      refine bodyPost_ret (v := .agg #[.int .i64 p.1, .int .i64 p.2]) ?_ rfl ⟨by rw [HPP.out], HBF.out⟩
      simp [results, Tryz.results35, go_sem, *]
end
section
set_option linter.unusedVariables false
set_option linter.unusedSimpArgs false
open Go.RowKit
theorem advs_line (l : Bs) : (advs (1, 1) l).1 = 1 + (l.count 10 : Int) := by
  refine snoc_ind (P := fun l => (advs (1, 1) l).1 = 1 + (l.count 10 : Int)) rfl (fun a c ih => ?_) l
  rw [advs_app]
  show (adv (advs (1, 1) a) c).1 = _
  unfold adv
  by_cases h : c = 10
  · subst h
    rw [if_pos (by rfl)]
    simp [List.count_append, ih]; omega
  · have : ¬ c.toNat = 10 := fun e => h (UInt8.toNat_inj.1 e)
    rw [if_neg this]
    simp [List.count_append, ih, h]
/-- The last line's end. -/
theorem advs_col (l : Bs) : (∃ a b, l = a ++ b ∧ (∀ c ∈ b, c.toNat ≠ 10) ∧ ((a = [] ∧ (advs (1, 1) l).2 = 1 + b.length) ∨ (∃ a', a = a' ++ [10] ∧ (advs (1, 1) l).2 = 1 + b.length))) := by
  refine snoc_ind (P := fun l => (∃ a b, l = a ++ b ∧ (∀ c ∈ b, c.toNat ≠ 10) ∧ ((a = [] ∧ (advs (1, 1) l).2 = 1 + b.length) ∨ (∃ a', a = a' ++ [10] ∧ (advs (1, 1) l).2 = 1 + b.length)))) ⟨[], [], rfl, by simp, .inl ⟨rfl, rfl⟩⟩ (fun l c ih => ?_) l
  obtain ⟨a, b, rfl, hb, hc⟩ := ih
  have e : advs (1, 1) (a ++ b ++ [c]) = adv (advs (1, 1) (a ++ b)) c := by rw [advs_app]; rfl
  by_cases h : c.toNat = 10
  · refine ⟨a ++ b ++ [c], [], by simp, by simp, .inr ⟨a ++ b, ?_, ?_⟩⟩
    · rw [show c = 10 from UInt8.toNat_inj.1 h]
    · rw [e, adv, if_pos h]; rfl
  · refine ⟨a, b ++ [c], by simp, ?_, ?_⟩
    · intro x hx
      rcases List.mem_append.1 hx with h1 | h1
      · exact hb x h1
      · simp at h1; rw [h1]; exact h
    · rw [e, adv, if_neg h]
      rcases hc with ⟨h1, h2⟩ | ⟨a', h1, h2⟩
      · exact .inl ⟨h1, by simp only [h2, List.length_append, List.length_singleton]; push_cast; omega⟩
      · exact .inr ⟨a', h1, by simp only [h2, List.length_append, List.length_singleton]; push_cast; omega⟩
theorem last_col (s : ByteArray) : (s.size : Int) - Lib.lastIndexByte s 10 = (advs (1, 1) s.data.toList).2 := by
  obtain ⟨a, b, hab, hb, hc⟩ := advs_col s.data.toList
  have hl : s.size = a.length + b.length := by
    have := congrArg List.length hab
    rw [List.length_append] at this
    exact this
  have hget : ∀ j, s.data[j]! = s.data.toList.getD j default := fun j => by
    rw [getElem!_def, List.getD, Array.getElem?_toList]
    cases s.data[j]? <;> rfl
  have hbn : ∀ j, a.length ≤ j → j < s.size → ((s.data[j]!).toNat : Int) ≠ 10 := fun j h1 h2 e => by
    rw [hget, hab, List.getD, List.getElem?_append_right h1, List.getElem?_eq_getElem (by omega)] at e
    simp only [Option.getD_some] at e
    exact hb (b[j - a.length]'(by omega)) (List.getElem_mem _) (by omega)
  have hsp := Lib.lastIndexByte_spec s 10
  rcases hc with ⟨rfl, h2⟩ | ⟨a', rfl, h2⟩
  · have : Lib.lastIndexByte s 10 = -1 := by
      rcases hsp with ⟨h, _⟩ | ⟨i, hi, h, h3, _⟩
      · exact h
      · exact absurd h3 (hbn i (by simp) hi)
    rw [this, h2, hl]; simp; omega
  · have h10 : ((s.data[a'.length]!).toNat : Int) = 10 := by
      rw [hget, hab, List.getD, List.getElem?_append_left (by simp), List.getElem?_append_right (Nat.le_refl _)]
      simp
    have : Lib.lastIndexByte s 10 = (a'.length : Int) := by
      rcases hsp with ⟨_, h⟩ | ⟨i, hi, h, h3, h4⟩
      · exact absurd h10 (h _ (by rw [hl]; simp; omega))
      · rw [h]
        rcases Nat.lt_trichotomy i a'.length with h5 | h5 | h5
        · exact absurd h10 (h4 _ h5 (by rw [hl]; simp; omega))
        · rw [h5]
        · exact absurd h3 (hbn i (by simp; omega) hi)
    rw [this, h2, hl]; simp; omega
set_option maxRecDepth 100000 in
theorem end_any (s : ByteArray) (w : World) (hl : s.size ≤ 140737488355328) : Calls Tryz.prog 48 #[.string s] w fun e w' => e = .returned (.agg #[.int .i64 (advs (1, 1) s.data.toList).1, .int .i64 (advs (1, 1) s.data.toList).2]) ∧ Below w.heap.size w w' := by
  have HC := Lib.hid (Tryz.strings_Count_one s 10)
  have HI := Lib.hid (Tryz.strings_LastIndexByte s 10 (by omega))
  have h1 : (advs (1, 1) s.data.toList).1 = 1 + (Lib.countByte s.data.toList 10 : Int) := advs_line _
  have h2 := (last_col s).symm
  have hb := advs_bound s.data.toList (1, 1) (by decide) (by decide)
  have hln : s.data.toList.length = s.size := rfl
  rw [hln] at hb
  have hA : Below w.heap.size w (w.alloc (.cells #[.int .i64 0, .int .i64 0] 27)) := (Below.refl _ _).alloc (Nat.le_refl _) _
  have HA := Lib.hid hA
  have HK := Lib.hid (Blk.new w 27 #[.int .i64 0, .int .i64 0])
  generalize hC : (Lib.countByte s.data.toList 10 : Int) = C at *
  generalize Lib.lastIndexByte s 10 = I at *
  generalize hP : advs (1, 1) s.data.toList = P at *
  have hc1 : (0 : Int) ≤ 1 + C ∧ 1 + C ≤ 140737488355330 := by rw [← h1]; simp only at hb; omega
  have hi1 : (0 : Int) ≤ (s.size : Int) - I ∧ (s.size : Int) - I ≤ 140737488355330 := by rw [← h2]; simp only at hb; omega
  obtain ⟨hc10, hc11⟩ := hc1
  obtain ⟨hi10, hi11⟩ := hi1
  rw [h1, h2]
  clear hA h1 h2 hb hP hC
  go_enter Tryz.func48, Tryz.ntmps48
  go_wp2_with fail
  generalize (w.alloc (.cells #[.int .i64 0, .int .i64 0] 27)) = W at *
  refine (HC.out _).mono ?_
  rintro e w9 ⟨rfl, hw9⟩
  subst hw9
  go_wp2_with fail
  refine (HI.out _).mono ?_
  rintro e w8 ⟨rfl, hw8⟩
  subst hw8
  have r0 : _ = some (Value.int .i64 0) := HK.out.cell 0
  have r1 : _ = some (Value.int .i64 0) := HK.out.cell 1
  have g0 := HK.out.frozen 0
  have g1 := HK.out.frozen 1
  go_wp2_with fail
  have HBF := Lib.hid ((HA.out.setCell (p := ⟨w.heap.size, 0, none⟩) (Nat.le_refl _) (.int .i64 (1 + C))).setCell (p := ⟨w.heap.size, 1, none⟩) (Nat.le_refl _) (.int .i64 ((s.size : Int) - I)))
  refine bodyPost_ret (v := .agg #[.int .i64 (1 + C), .int .i64 ((s.size : Int) - I)]) ?_ rfl ⟨rfl, HBF.out⟩
  simp [results, Tryz.results48, go_sem, *]
end
section
set_option linter.unusedVariables false
set_option linter.unusedSimpArgs false
open Go.RowKit
theorem tz_few (n : Nat) : ∀ (l : Bs) (p : Pl), (tz n l p).1.length ≤ n := by
  induction n with
  | zero => intro l p; simp [tz]
  | succ n ih =>
    intro l p
    by_cases hl : l = []
    · subst hl; simp [tz_nil]
    · by_cases he : tkE l = 0
      · rw [tz_ok hl he]
        unfold app
        split
        · simp
        · simp only [List.length_append, List.length_singleton]
          have := ih (skp false (l.drop (tkA l).length) (advs p (tkA l))).1 (skp false (l.drop (tkA l).length) (advs p (tkA l))).2
          omega
      · rw [tz_err hl (by omega) he]; simp
theorem toks_few (l : Bs) : (toks l).1.length ≤ 1000000 := by
  unfold toks
  split
  · simp
  · have := tz_few (l.length + 1) (skp false l (1, 1)).1 (skp false l (1, 1)).2
    omega
theorem ne_posV (a b : Int) (w : World) : (Op.equalIn 10000 27 (.agg #[.int .i64 a, .int .i64 b]) (.agg #[.int .i64 a, .int .i64 b])).run Tryz.prog w = .ok true w := by
  have u3 := Tryz.underlying3
  have a3 := Tryz.isAgg3
  have z3 := Tryz.sizeOf3
  have hS : Tryz.prog.underlying 27 = some (.struct (Tryz.prog.fieldsOf 27)) := by kernel_rfl
  have hp : Tryz.prog.stoodInHeld 27 = false := by kernel_rfl
  rw [show (10000 : Nat) = 9999 + 1 from rfl, run_equalIn_agg w 9999 27 _ _ hS hp]
  simp only [Program.fieldsOf, Tryz.underlying27]
  go_simp
attribute [local go_sem] ne_posV
end
end Go.Proofs.YtkpmeelbjldcoaaGreatDoor
