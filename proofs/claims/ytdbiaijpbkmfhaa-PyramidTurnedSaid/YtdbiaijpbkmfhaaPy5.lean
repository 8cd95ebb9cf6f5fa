/- pyramid: eachLevel with the two closures, by contract. -/
import Derived.Test.YtdbiaijpbkmfhaaPy4
namespace Go.Proofs.Ytdbiaijpbkmfhaa
set_option linter.unusedVariables false
set_option linter.unusedSimpArgs false
open Go.RowKit
theorem PyR.congr {w : World} {y : Nat} {cs : Array Value} {P Q : Nat → List Pn} {B : Nat} (h : PyR w y cs P B) (hp : ∀ l, l < 17 → P l = Q l) : PyR w y cs Q B :=
  { h with
    hl := fun l hl => by
      obtain ⟨v, hv, hL⟩ := h.hl l hl
      exact ⟨v, hv, by rw [← hp l hl]; exact hL⟩ }
/-- The first j levels have T, the others S. -/
def PS (S T : List Pn) (j : Nat) : Nat → List Pn := fun k => if k < j then T else S
theorem PS_zero (S T : List Pn) : PS S T 0 = fun _ => S := by funext k; simp [PS]
theorem PS_at (S T : List Pn) (j : Nat) : PS S T j j = S := by simp [PS]
theorem PS_upd (S T : List Pn) (j : Nat) : updP (PS S T j) j T = PS S T (j + 1) := by
  funext k
  unfold updP PS
  by_cases h : k = j
  · subst h; simp
  · by_cases h2 : k < j
    · simp [h, h2, Nat.lt_succ_of_lt h2]
    · have : ¬ k < j + 1 := by omega
      simp [h, h2, this]
/-- eachLevel's rounds: k levels are done. -/
def EachSt (y : Nat) (cs : Array Value) (S T : List Pn) (B : Nat) (w : World) (k : Nat) (wr : World) : Prop :=
  ∃ cs', PyR wr y cs' (PS S T k) (B + k) ∧ Kp y cs w cs' wr
def EachP (y : Nat) (cs : Array Value) (T : List Pn) (B : Nat) (w : World) (e : Ending) (w' : World) : Prop :=
  e = .returned (.tuple #[]) ∧ ∃ cs', PyR w' y cs' (fun _ => T) (B + 17) ∧ Kp y cs w cs' w'
theorem EachSt.start {y : Nat} {cs : Array Value} {S T : List Pn} {B : Nat} {w : World} (h : PyR w y cs (fun _ => S) B) : EachSt y cs S T B w 0 w := ⟨cs, by rw [PS_zero]; exact h, Kp.refl _ _ _⟩
theorem EachSt.below {y : Nat} {cs : Array Value} {S T : List Pn} {B k : Nat} {w a b : World} (h : EachSt y cs S T B w k a) (hb : Below a.heap.size a b) : EachSt y cs S T B w k b := by
  obtain ⟨c, h1, h2⟩ := h
  exact ⟨c, h1.below hb, h2.below hb⟩
theorem EachSt.blk {y : Nat} {cs : Array Value} {S T : List Pn} {B k : Nat} {w a : World} (h : EachSt y cs S T B w k a) {g : Nat} {t : TypeId} {xs : Array Value} (hb : Blk w g t xs) (ho : Out y cs g) : Blk a g t xs := by
  obtain ⟨c, h1, h2⟩ := h
  exact h2.blk hb ho
theorem EachSt.step {y : Nat} {cs cs1 : Array Value} {S T : List Pn} {B k : Nat} {w a b : World} {e : Ending} (h2 : Kp y cs w cs1 a) (h : Add1P y cs1 (PS S T k) (B + k) k T a e b) : EachSt y cs S T B w (k + 1) b := by
  obtain ⟨_, c, h3, h4⟩ := h
  rw [PS_upd] at h3
  exact ⟨c, h3, h2.trans h4⟩
theorem EachSt.done {y : Nat} {cs : Array Value} {S T : List Pn} {B : Nat} {w a : World} (h : EachSt y cs S T B w 17 a) : ∃ cs', PyR a y cs' (fun _ => T) (B + 17) ∧ Kp y cs w cs' a := by
  obtain ⟨c, h1, h2⟩ := h
  exact ⟨c, h1.congr fun l hl => by simp [PS, hl], h2⟩
theorem lev_ok (p : Pn) (k : Nat) (hk : k < 17) (hp : fitsB p.1 p.2 = true) : okA 16 p.1 p.2 (k : Int) = true ∧ a0 16 p.1 p.2 (k : Int) = (k : Int) ∧ okC (k : Int) (a1 16 p.1 p.2 (k : Int)) (a2 16 p.1 p.2 (k : Int)) = true := by
  have h1 : okC 16 p.1 p.2 = true := by
    simp only [fitsB, decide_eq_true_eq] at hp
    rw [okC_iff]
    simp
    omega
  have h2 : okA 16 p.1 p.2 (k : Int) = true := by
    rw [okA, h1]
    simp
    omega
  refine ⟨h2, by rw [a0, if_pos h2], ?_⟩
  simp only [fitsB, decide_eq_true_eq] at hp
  rw [a1, a2, if_pos h2, if_pos h2, okC_iff, show ((16 : Int) - (k : Int)).toNat = 16 - k by omega, Int.toNat_natCast]
  have e : (2 : Int) ^ k * 2 ^ (16 - k) = 65536 := by
    rw [← Int.pow_add, show k + (16 - k) = 16 by omega]; rfl
  have hpos : (0 : Int) < 2 ^ (16 - k) := Int.pow_pos (by decide)
  exact ⟨by omega, by omega, Int.ediv_nonneg (by omega) (Int.le_of_lt hpos), Int.ediv_lt_of_lt_mul hpos (by rw [e]; omega), Int.ediv_nonneg (by omega) (Int.le_of_lt hpos), Int.ediv_lt_of_lt_mul hpos (by rw [e]; omega)⟩
set_option maxRecDepth 100000 in
set_option maxHeartbeats 4000000 in
theorem each_add (y bx : Nat) (cs : Array Value) (S : List Pn) (B : Nat) (p : Pn) (w : World) (h : PyR w y cs (fun _ => S) B) (hB : B ≤ 900000) (hbx : Blk w bx 25 #[.pointer (some ⟨y, 0, none⟩)]) (hox : Out y cs bx) (hS : S.length ≤ 1000000) (hp : fitsB p.1 p.2 = true) :
    Calls Try.prog 29 #[.agg #[.int .i64 p.1, .int .i64 p.2], .func (.func 30) #[] #[.pointer (some ⟨bx, 0, none⟩)]] w fun e w' => EachP y cs (p :: S) B w e w' := by
  have HPY := Lib.hid h; have HBX := Lib.hid hbx; have HOX := Lib.hid hox; have HP := Lib.hid hp
  clear h hbx hox hp
  go_enter Try.func29, Try.ntmps29
  go_wp2
  have hW : Below w.heap.size w (w.alloc (.cells #[.int .i64 p.1, .int .i64 p.2] 29)) := (Below.refl _ _).alloc (Nat.le_refl _) _
  have HPY2 := Lib.hid (HPY.out.below hW)
  have HB1 := Lib.hid (Blk.new w 29 #[.int .i64 p.1, .int .i64 p.2])
  have HO1 := Lib.hid (HPY.out.out (Nat.le_refl _))
  have HBX2 := Lib.hid (HBX.out.below hW HBX.out.lt)
  have HKP := Lib.hid (Kp.of_below (y := y) (cs := cs) hW)
  clear hW
  generalize w.alloc (.cells #[.int .i64 p.1, .int .i64 p.2] 29) = W at *
  generalize w.heap.size = b1 at *
  go_loopw [9] (fun i wr => ∃ (k : Nat), k ≤ 17 ∧ i = .int .i64 k ∧ Hid (EachSt y cs S (p :: S) B W k wr)) (fun i _ => 17 - (intOf i).toNat)
  case atStart => exact ⟨0, by omega, rfl, Lib.hid (EachSt.start HPY2.out)⟩
  case round =>
    obtain ⟨k, hk, rfl, hrel⟩ := hrel
    by_cases hlt : k < 17
    · have hki : (k : Int) < 17 := by omega
      have HBK := Lib.hid (hrel.out.blk HB1.out HO1.out)
      have x0 := HBK.out.cell 0
      have x1 := HBK.out.cell 1
      simp only [List.getElem?_toArray, List.getElem?_cons_zero, List.getElem?_cons_succ] at x0 x1
      have HLV := Lib.hid (lev_ok p k hlt HP.out)
      have HOF := Lib.hid (cof_u p.1 p.2 (k : Int))
      rw [HLV.out.1, HLV.out.2.1] at HOF
      generalize hcx : a1 16 p.1 p.2 (k : Int) = cx at *
      generalize hcy : a2 16 p.1 p.2 (k : Int) = cy at *
      have HCD := Lib.hid (code_u (k : Int) cx cy)
      rw [HLV.out.2.2, show codU (k : Int) cx cy = codeAt k p by rw [codeAt, hcx, hcy]] at HCD
      clear hcx hcy
      go_wp2_with fail
      go_at_call 44
      refine (HOF.out _).mono ?_
      rintro e w2 ⟨rfl, hb2⟩
      have HR2 := Lib.hid (hrel.out.below hb2)
      clear hb2 HBK x0 x1
      have ha2 : Below w2.heap.size w2 (w2.alloc (.cells #[.int .i64 (k : Int), .int .i64 cx, .int .i64 cy] 24)) := (Below.refl _ _).alloc (Nat.le_refl _) _
      have HR3 := Lib.hid (HR2.out.below ha2)
      have HC3 := Lib.hid (Blk.new w2 24 #[.int .i64 (k : Int), .int .i64 cx, .int .i64 cy])
      go_wp2_with fail
      go_at_call 34
      refine (HCD.out _).mono ?_
      rintro e w3 ⟨rfl, hb3⟩
      have HR4 := Lib.hid (HR3.out.below hb3)
      clear hb3 ha2 HC3 HR3 HR2
      go_wp2_with fail
      obtain ⟨cs1, hpy, hkp⟩ := HR4.out
      have HBX4 := Lib.hid (HR4.out.blk HBX2.out HOX.out)
      have HO4 := Lib.hid (hkp.out HBX2.out.lt HOX.out)
      have HK4 := Lib.hid hkp
      have HADD := Lib.hid (add1_any y bx cs1 (PS S (p :: S) k) (B + k) k p w3 hpy hlt (by omega) HBX4.out (by rw [PS_at]; exact hS) HO4.out)
      rw [PS_at] at HADD
      clear hpy hkp
      go_at_call 30
      refine HADD.out.mono ?_
      rintro e w4 hA
      have HR5 := Lib.hid (EachSt.step HK4.out hA)
      obtain ⟨rfl, _⟩ := hA
      go_wp2_with fail
      go_roundw
      case rel => exact ⟨k + 1, by omega, by go_num, HR5⟩
      case measure => simp [intOf]; omega
    · obtain rfl : k = 17 := by omega
      have HD := Lib.hid hrel.out.done
      go_wp2
      refine bodyPost_ret (v := .tuple #[]) ?_ rfl ?_
      · simp [results, Try.results29, go_sem, *]
      · obtain ⟨c, h1, h2⟩ := HD.out
        exact ⟨rfl, c, h1, HKP.out.trans h2⟩
end Go.Proofs.Ytdbiaijpbkmfhaa
