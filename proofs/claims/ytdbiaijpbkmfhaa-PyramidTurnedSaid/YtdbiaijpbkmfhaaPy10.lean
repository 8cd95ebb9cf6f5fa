/- pyramid: a pyramid that is built of points, beside the row of those that may be. -/
import Derived.Test.YtdbiaijpbkmfhaaPy9
namespace Go.Proofs.Ytdbiaijpbkmfhaa
set_option linter.unusedVariables false
set_option linter.unusedSimpArgs false
open Go.RowKit
/-- The points that may be, in the order of their codes. -/
def haveK (S : List Pn) : Nat → List Pn
  | 0 => []
  | k + 1 => if fitsB (at_ S k).1 (at_ S k).2 = true then ins (at_ S k) (haveK S k) else haveK S k
theorem haveK_len (S : List Pn) (k : Nat) : (haveK S k).length ≤ k := by
  induction k with
  | zero => exact Nat.le_refl _
  | succ k ih =>
    rw [haveK]
    split
    · rw [ins_length]; omega
    · omega
theorem ins_fit {S : List Pn} {x : Pn} (h : FitS S) (hx : fitsB x.1 x.2 = true) : FitS (ins x S) := by
  intro q hq
  rcases List.mem_cons.1 ((ins_perm x S).mem_iff.1 hq) with rfl | hq
  · exact hx
  · exact h q hq
theorem haveK_fit (S : List Pn) (k : Nat) : FitS (haveK S k) := by
  induction k with
  | zero => intro q hq; cases hq
  | succ k ih =>
    rw [haveK]
    split
    · rename_i h; exact ins_fit ih h
    · exact ih
theorem addS_have (S : List Pn) (k : Nat) : (addS (haveK S k) (at_ S k)).Perm (haveK S (k + 1)) := by
  rw [haveK, addS]
  split
  · exact (ins_perm _ _).symm
  · exact List.Perm.refl _
/-- A pyramid and a row beside it. -/
def PyH (w : World) (y : Nat) (cs : Array Value) (L : List Pn) (B : Nat) (v : Value) (wr : World) : Prop :=
  PyR wr y cs (fun _ => L) B ∧ QOwn wr v L ∧ Below w.heap.size w wr ∧ w.heap.size ≤ y ∧ (∀ l i : Nat, cs[l]? = some (Value.map (some i)) → w.heap.size ≤ i) ∧ ∀ i, v.ownBlock = some i → w.heap.size ≤ i ∧ Out y cs i
theorem PyH.kept {w : World} {y : Nat} {cs : Array Value} {L : List Pn} {B : Nat} {v : Value} {wr : World} (h : PyH w y cs L B v wr) {i : Nat} (hi : i < w.heap.size) : Out y cs i :=
  ⟨by have := h.2.2.2.1; omega, fun l e => by have := h.2.2.2.2.1 l i e; omega⟩
theorem PyH.below {w : World} {y : Nat} {cs : Array Value} {L : List Pn} {B : Nat} {v : Value} {wr X : World} (h : PyH w y cs L B v wr) (hb : Below wr.heap.size wr X) : PyH w y cs L B v X :=
  ⟨h.1.below hb, h.2.1.below hb, below_trans h.2.2.1 hb, h.2.2.2.1, h.2.2.2.2.1, h.2.2.2.2.2⟩
theorem below_kp {y : Nat} {cs cs' : Array Value} {w a b : World} (hw : Below w.heap.size w a) (hk : Kp y cs a cs' b) (ho : ∀ i, i < w.heap.size → Out y cs i) : Below w.heap.size w b :=
  ⟨hk.1.trans hw.os, hk.2.1.trans hw.tape, hk.2.2.1.trans hw.output, Nat.le_trans hw.size hk.2.2.2.1, fun i hi => (hk.2.2.2.2.1 i (Nat.lt_of_lt_of_le hi hw.size) (ho i hi)).trans (hw.block i hi)⟩
/-- The pyramid has been turned; the row is as it was. -/
theorem PyH.act {w : World} {y : Nat} {cs cs' : Array Value} {L M : List Pn} {B C : Nat} {v : Value} {wr X : World} (h : PyH w y cs L B v wr) (hp : PyR X y cs' (fun _ => M) C) (hk : Kp y cs wr cs' X) :
    PyR X y cs' (fun _ => M) C ∧ QOwn X v L ∧ Below w.heap.size w X ∧ w.heap.size ≤ y ∧ (∀ l i : Nat, cs'[l]? = some (Value.map (some i)) → w.heap.size ≤ i) ∧ ∀ i, v.ownBlock = some i → w.heap.size ≤ i ∧ Out y cs' i := by
  obtain ⟨h1, h2, h3, h4, h5, h6⟩ := h
  refine ⟨hp, h2.keep fun i hi e => hk.2.2.2.2.1 i hi (h6 i e).2, below_kp h3 hk fun i hi => ⟨by omega, fun l e => by have := h5 l i e; omega⟩, h4, fun l i e => ?_, fun i hi => ⟨(h6 i hi).1, hk.out (h2.lt hi) (h6 i hi).2⟩⟩
  rcases hk.2.2.2.2.2 l i e with ⟨k, hk2⟩ | hk2
  · exact h5 k i hk2
  · have := h3.size; omega
/-- The row is another one, made since. -/
theorem PyH.row {w : World} {y : Nat} {cs : Array Value} {L M : List Pn} {B : Nat} {v' : Value} {X Y : World} (h1 : PyR X y cs (fun _ => L) B) (h3 : Below w.heap.size w X) (h4 : w.heap.size ≤ y) (h5 : ∀ l i : Nat, cs[l]? = some (Value.map (some i)) → w.heap.size ≤ i) (hb : Below X.heap.size X Y) (hv : QOwn Y v' M) (ho : ∀ i, v'.ownBlock = some i → X.heap.size ≤ i) (hp : L.Perm M) : PyH w y cs M B v' Y :=
  ⟨(h1.below hb).perm fun _ => hp, hv, below_trans h3 hb, h4, h5, fun i hi => ⟨Nat.le_trans h3.size (ho i hi), h1.out (ho i hi)⟩⟩
def BuiltP (w : World) (S : List Pn) (n : Nat) (e : Ending) (w' : World) : Prop :=
  ∃ y cs A c, e = .returned (.tuple #[.pointer (some ⟨y, 0, none⟩), .slice A (haveK S n).length c]) ∧ PyH w y cs (haveK S n) (17 * n) (.slice A (haveK S n).length c) w'
set_option maxRecDepth 100000 in
set_option maxHeartbeats 4000000 in
theorem built_big (A : Option Addr) (n c : Nat) (w : World) (hn : 100 < n) :
    Calls Try.prog 22 #[.slice A n c] w fun e w' => e = .returned (.tuple #[.pointer none, .slice none 0 0]) ∧ Below w.heap.size w w' := by
  have hni : (100 : Int) < (n : Int) := by omega
  go_enter Try.func22, Try.ntmps22
  go_wp2_with fail
  refine (new_any w).mono ?_
  rintro e w1 ⟨y, c1, rfl, h1, hb, ho⟩
  have HB := Lib.hid hb
  clear hb ho h1
  go_wp2
  refine bodyPost_ret (v := .tuple #[.pointer none, .slice none 0 0]) ?_ rfl ⟨rfl, HB.out⟩
  simp [results, Try.results22, go_sem, *]
set_option maxRecDepth 100000 in
set_option maxHeartbeats 8000000 in
theorem built_any (A : Option Addr) (n c : Nat) (S : List Pn) (w : World) (h : Rd w A n c S) (hn : n ≤ 100) :
    Calls Try.prog 22 #[.slice A n c] w fun e w' => BuiltP w S n e w' := by
  have hni : ¬ (100 : Int) < (n : Int) := by omega
  have hdn : decide ((100 : Int) < (n : Int)) = false := decide_eq_false hni
  have HH := Lib.hid h; clear h
  go_enter Try.func22, Try.ntmps22
  go_wp2_with fail
  refine (new_any w).mono ?_
  rintro e w1 ⟨y, c1, rfl, h1, hb, ho⟩
  have HST := Lib.hid (show PyH w y c1 (haveK S 0) 0 (.slice none 0 0) w1 from ⟨h1, QOwn.nil_ _, hb, Nat.le_of_not_lt fun e => (ho y e).1 rfl, fun l i e => Nat.le_of_not_lt fun e2 => (ho i e2).2 l e, fun i hi => by simp [Value.ownBlock] at hi⟩)
  clear hb ho h1
  go_wp2_with fail
  go_loopw [5, 6] (fun hv i wr => ∃ (k : Nat) (cs : Array Value) (A1 : Option Addr) (c1 : Nat), k ≤ n ∧ i = .int .i64 k ∧ hv = .slice A1 (haveK S k).length c1 ∧ Hid (PyH w y cs (haveK S k) (17 * k) (.slice A1 (haveK S k).length c1) wr)) (fun _ i _ => n - (intOf i).toNat)
  case atStart => exact ⟨0, c1, none, 0, Nat.zero_le _, rfl, rfl, HST⟩
  case round =>
    clear HST
    obtain ⟨k, cs, A1, c1, hk, rfl, rfl, HR⟩ := hrel
    by_cases hlt : k < n
    · have hki : (k : Int) < (n : Int) := by omega
      obtain ⟨g, off, rfl, b0, b1⟩ := HH.out.cell hlt
      have hBW := HR.out.2.2.1
      have a0 := cell_later hBW b0
      have a1 := cell_later hBW b1
      have hlen := haveK_len S k
      have HAD := Lib.hid (add_any y cs (haveK S k) (17 * k) (at_ S k) wr HR.out.1 (by omega) (by omega))
      have HAS := Lib.hid (addS_have S k)
      have HHK := Lib.hid (show haveK S (k + 1) = if fitsB (at_ S k).1 (at_ S k).2 = true then ins (at_ S k) (haveK S k) else haveK S k from rfl)
      have HFT := Lib.hid (ref_fits (at_ S k).1 (at_ S k).2)
      clear hBW
      generalize at_ S k = p at *
      generalize hLL : haveK S k = L at *
      generalize hLN : haveK S (k + 1) = LN at *
      go_wp2_with fail
      refine HAD.out.mono ?_
      rintro e w2 ⟨rfl, cs2, hp2, hk2⟩
      have hact := HR.out.act hp2 hk2
      have x0 := cell_later hact.2.2.1 b0
      have x1 := cell_later hact.2.2.1 b1
      have HACT := Lib.hid hact
      clear hp2 hk2 hact HR HAD a0 a1
      cases hf : fitsB p.1 p.2 with
      | false =>
        rw [hf] at HHK HFT
        have HE : Hid (LN = L) := Lib.hid (by have := HHK.out; simpa using this)
        have HFIN := Lib.hid (show PyH w y cs2 LN (17 * (k + 1)) (.slice A1 LN.length c1) w2 from by
          obtain ⟨d1, d2, d3⟩ := HACT.out
          have e := HE.out
          subst e
          exact ⟨(d1.perm fun _ => HAS.out).more (by omega), d2, d3⟩)
        have HEL := Lib.hid (show L.length = LN.length by rw [HE.out])
        clear HHK HACT HE
        go_wp2_with fail
        go_roundw
        case rel => exact ⟨k + 1, cs2, A1, c1, by omega, by go_num, by rw [hLN, HEL.out], by rw [hLN]; exact HFIN⟩
        case measure => simp [intOf]; omega
      | true =>
        rw [hf] at HHK HFT
        have HE : Hid (LN = ins p L) := Lib.hid (by have := HHK.out; simpa using this)
        clear HHK
        go_wp2_with fail
        refine (HFT.out _).mono ?_
        rintro e w3 ⟨rfl, hb3⟩
        have HPUT := Lib.hid (rput_any A1 L.length c1 L p w3 (HACT.out.2.1.below hb3).rd (by omega))
        have x0 := cell_later hb3 x0
        have x1 := cell_later hb3 x1
        have HB3 := Lib.hid hb3
        clear hb3
        go_wp2_with fail
        refine HPUT.out.mono ?_
        rintro e w4 ⟨A4, c4, rfl, hq4, hb4, ho4⟩
        have HFIN := Lib.hid (show PyH w y cs2 LN (17 * (k + 1)) (.slice A4 LN.length c4) w4 from by
          obtain ⟨d1, d2, d3, d4, d5, d6⟩ := HACT.out
          have e := HE.out
          rw [← e] at hq4
          exact PyH.row ((d1.more (by omega)).below HB3.out) (below_trans d3 HB3.out) d4 d5 hb4 hq4 (fun i hi => ho4 i (own_map.1 hi)) HAS.out)
        have HEL := Lib.hid (show (ins p L).length = LN.length by rw [HE.out])
        clear hq4 hb4 ho4 HE HACT
        go_wp2_with fail
        go_roundw
        case rel => exact ⟨k + 1, cs2, A4, c4, by omega, by go_num, by rw [hLN, HEL.out], by rw [hLN]; exact HFIN⟩
        case measure => simp [intOf]; omega
    · obtain rfl : k = n := by omega
      go_wp2
      refine bodyPost_ret (v := .tuple #[.pointer (some ⟨y, 0, none⟩), .slice A1 (haveK S k).length c1]) ?_ rfl ⟨y, cs, A1, c1, rfl, HR.out⟩
      simp [results, Try.results22, go_sem, *]
end Go.Proofs.Ytdbiaijpbkmfhaa
