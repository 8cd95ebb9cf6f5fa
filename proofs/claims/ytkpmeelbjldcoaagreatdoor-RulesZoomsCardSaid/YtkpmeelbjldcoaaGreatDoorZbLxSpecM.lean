/- Texts: LxSpec, Lx1, Lx2, Lx3, LxRow, Lx4, Lx5. -/
import Derived.Test.YtkpmeelbjldcoaaGreatDoorZbBlk
import Derived.Test.YtkpmeelbjldcoaaGreatDoorRows
import Derived.Lib.Hide
import Derived.BigQuiet
import Derived.Deep.QuietTactic
import Derived.Deep.AppendSrc
import Derived.Laws.BytesArg
namespace Go.Proofs.YtkpmeelbjldcoaaGreatDoor
section
set_option linter.unusedVariables false
set_option linter.unusedSimpArgs false
open Go.RowKit
abbrev Bs := List UInt8
def bs (l : Bs) : ByteArray := ⟨l.toArray⟩
theorem bs_size (l : Bs) : (bs l).size = l.length := by simp [bs, ByteArray.size]
theorem bs_self (s : ByteArray) : bs s.data.toList = s := by cases s; simp [bs]
theorem bs_inj {a b : Bs} (h : bs a = bs b) : a = b := by simpa [bs] using h
def isLet (c : UInt8) : Bool := decide (97 ≤ c.toNat) && decide (c.toNat ≤ 122)
def isDg (c : UInt8) : Bool := decide (48 ≤ c.toNat) && decide (c.toNat ≤ 57)
def ofNm (c : UInt8) : Bool := isLet c || isDg c || c.toNat == 45
def isBl (c : UInt8) : Bool := c.toNat == 32 || c.toNat == 10
def ofLn (c : UInt8) : Bool := !(c.toNat == 10)
abbrev Pl := Int × Int
def adv (p : Pl) (c : UInt8) : Pl := if c.toNat = 10 then (p.1 + 1, 1) else (p.1, p.2 + 1)
def advs (p : Pl) (l : Bs) : Pl := l.foldl adv p
theorem advs_app (p : Pl) (a b : Bs) : advs p (a ++ b) = advs (advs p a) b := List.foldl_append
/-- What is next: -1: nothing. -/
def nx : Bs → Int
  | [] => -1
  | c :: _ => (c.toNat : Int)
def on (f : UInt8 → Bool) : Bs → Bool
  | [] => false
  | c :: _ => f c
/-- Behind blanks and remarks; the flag: within a remark. -/
def skp : Bool → Bs → Pl → Bs × Pl
  | _, [], p => ([], p)
  | b, c :: l, p => if (b || isBl c || c.toNat == 35) = true then skp ((b || c.toNat == 35) && !(c.toNat == 10)) l (adv p c) else (c :: l, p)
/-- What a place may be. -/
def OkP (l : Bs) (p : Pl) : Prop := l.length ≤ 512 ∧ 1 ≤ p.1 ∧ p.1 + l.length ≤ 1000 ∧ 1 ≤ p.2 ∧ p.2 + l.length ≤ 1000
theorem OkP.step {c : UInt8} {l : Bs} {p : Pl} (h : OkP (c :: l) p) : OkP l (adv p c) := by
  unfold OkP at *
  simp only [List.length_cons] at h
  unfold adv
  split <;> simp only <;> omega
theorem OkP.steps {a l : Bs} : ∀ {p : Pl}, OkP (a ++ l) p → OkP l (advs p a) := by
  induction a with
  | nil => intro p h; exact h
  | cons c a ih => intro p h; exact ih (OkP.step h)
theorem skp_take (f : UInt8 → Bool) (b : Bool) (hf : ∀ c, f c = true → (b || isBl c || c.toNat == 35) = true ∧ ((b || c.toNat == 35) && !(c.toNat == 10)) = b) : ∀ (l : Bs) (p : Pl), skp b l p = skp b (l.dropWhile f) (advs p (l.takeWhile f)) := by
  intro l
  induction l with
  | nil => intro p; rfl
  | cons c l ih =>
    intro p
    by_cases h : f c = true
    · obtain ⟨h1, h2⟩ := hf c h
      rw [List.dropWhile_cons_of_pos h, List.takeWhile_cons_of_pos h, skp, if_pos h1, h2, ih]
      rfl
    · rw [List.dropWhile_cons_of_neg h, List.takeWhile_cons_of_neg h]
      rfl
theorem skp_bl (l : Bs) (p : Pl) : skp false l p = skp false (l.dropWhile isBl) (advs p (l.takeWhile isBl)) := by
  refine skp_take isBl false (fun c h => ⟨by simp [h], ?_⟩) l p
  have : ¬ c.toNat = 35 := by
    intro e; simp [isBl, e] at h
  simp [this]
theorem skp_ln (l : Bs) (p : Pl) : skp true l p = skp true (l.dropWhile ofLn) (advs p (l.takeWhile ofLn)) :=
  skp_take ofLn true (fun c h => ⟨by simp, by simpa [ofLn] using h⟩) l p
theorem skp_end (l : Bs) (p : Pl) (h : on ofLn l = false) : skp true l p = skp false l p := by
  cases l with
  | nil => rfl
  | cons c l =>
    have hc : c.toNat = 10 := by simpa [on, ofLn] using h
    rw [skp, skp]
    simp [hc, isBl]
theorem on_drop (f : UInt8 → Bool) (l : Bs) : on f (l.dropWhile f) = false := by
  induction l with
  | nil => rfl
  | cons c l ih =>
    by_cases h : f c = true
    · rw [List.dropWhile_cons_of_pos h]; exact ih
    · rw [List.dropWhile_cons_of_neg h]; simpa [on] using h
/-- A remark: its `#`, and the bytes of its line. -/
theorem skp_rem {l : Bs} (p : Pl) (h : nx l = 35) : skp false l p = skp false (l.dropWhile ofLn) (advs p (l.takeWhile ofLn)) := by
  cases l with
  | nil => simp [nx] at h
  | cons c l =>
    have hc : c.toNat = 35 := by simp [nx] at h; omega
    have e : skp false (c :: l) p = skp true (c :: l) p := by
      rw [skp, skp]
      simp [hc]
    rw [e, skp_ln, skp_end _ _ (on_drop ofLn _)]
theorem skp_stop {l : Bs} (p : Pl) (h1 : on isBl l = false) (h2 : nx l ≠ 35) : skp false l p = (l, p) := by
  cases l with
  | nil => rfl
  | cons c l =>
    have hb : isBl c = false := h1
    have hc : ¬ c.toNat = 35 := fun e => h2 (by simp [nx, e])
    rw [skp]
    simp [hb, hc]
theorem dropWhile_lt {f : UInt8 → Bool} {l : Bs} (h : on f l = true) : (l.dropWhile f).length < l.length := by
  cases l with
  | nil => cases h
  | cons c l =>
    have hc : f c = true := h
    rw [List.dropWhile_cons_of_pos hc]
    have := (List.dropWhile_suffix f (l := l)).length_le
    simp only [List.length_cons]; omega
end
section
set_option linter.unusedVariables false
set_option linter.unusedSimpArgs false
open Go.RowKit
/-- All blocks but one are kept. -/
structure But (r : Nat) (w w' : World) : Prop where
  os : w'.os = w.os
  tape : w'.tape = w.tape
  output : w'.output = w.output
  size : w.heap.size ≤ w'.heap.size
  block : ∀ k, k < w.heap.size → k ≠ r → w'.heap[k]? = w.heap[k]?
theorem But.refl (r : Nat) (w : World) : But r w w := ⟨rfl, rfl, rfl, Nat.le_refl _, fun _ _ _ => rfl⟩
theorem But.trans {r : Nat} {a b c : World} (h : But r a b) (k : But r b c) : But r a c :=
  ⟨k.os.trans h.os, k.tape.trans h.tape, k.output.trans h.output, Nat.le_trans h.size k.size, fun i hi hr => (k.block i (by have := h.size; omega) hr).trans (h.block i hi hr)⟩
theorem But.of_below {r : Nat} {a b : World} (h : Below a.heap.size a b) : But r a b := ⟨h.os, h.tape, h.output, h.size, fun i hi _ => h.block i hi⟩
theorem But.set {r : Nat} (w : World) (o : Nat) (v : Value) : But r w (w.setCell ⟨r, o, none⟩ v) := by
  have h := (Below.refl r w).setCell (p := ⟨r, o, none⟩) (Nat.le_refl _) v
  refine ⟨h.os, h.tape, h.output, h.size, fun i hi hr => ?_⟩
  exact Below.heap_setCell w ⟨r, o, none⟩ v i hr
theorem Blk.but {r g : Nat} {t : TypeId} {cs : Array Value} {w w' : World} (h : Blk w g t cs) (hb : But r w w') (hr : g ≠ r) : Blk w' g t cs := (hb.block g h.lt hr).trans h
theorem Below.but {B r : Nat} {a w w' : World} (h : Below B a w) (hb : But r w w') (hr : B ≤ r) (hB : B ≤ a.heap.size) : Below B a w' :=
  ⟨hb.os.trans h.os, hb.tape.trans h.tape, hb.output.trans h.output, Nat.le_trans h.size hb.size, fun i hi => (hb.block i (by have := h.size; omega) (by omega)).trans (h.block i hi)⟩
/-- The reader in block r: l is left, at p. -/
def RdS (w : World) (r : Nat) (l : Bs) (p : Pl) : Prop := Blk w r 130 #[.string (bs l), .int .i64 p.1, .int .i64 p.2]
theorem RdS.below {w w' : World} {r : Nat} {l : Bs} {p : Pl} (h : RdS w r l p) (hb : Below w.heap.size w w') : RdS w' r l p := Blk.thru0 h hb
theorem bs0 {c : UInt8} {l : Bs} : (bs (c :: l)).size = l.length + 1 := by rw [bs_size]; rfl
theorem bs_head {c : UInt8} {l : Bs} (h : 0 < (bs (c :: l)).size) : (bs (c :: l))[0] = c := rfl
theorem w64b (c : UInt8) : wrap64 (c.toNat : Int) = c.toNat := by have := c.toNat_lt; unfold wrap64; omega
theorem head_at {w : World} {a : Addr} {c : UInt8} {l : Bs} (h : w.cell? a = some (.string (bs (c :: l)))) : ∃ x : ByteArray, w.cell? a = some (.string x) ∧ ∃ h0 : 0 < x.size, x[0] = c := ⟨_, h, by rw [bs0]; omega, rfl⟩
set_option maxHeartbeats 2000000 in
theorem next_any (w : World) (r : Nat) (l : Bs) (p : Pl) (h : RdS w r l p) :
    Calls Tryz.prog 113 #[.pointer (some ⟨r, 0, none⟩)] w fun e w' => e = .returned (.int .i64 (nx l)) ∧ w = w' := by
  have k0 : _ = some (Value.string (bs l)) := Blk.cell h 0
  cases l with
  | nil =>
    have e : bs [] = ⟨#[]⟩ := rfl
    rw [e] at k0
    go_enter Tryz.func113, Tryz.ntmps113
    go_wp2
    go_ret
    exact ⟨rfl, rfl⟩
  | cons c l =>
    obtain ⟨x, k1, hz2, hx0⟩ := head_at k0
    clear k0
    have hz : ((x.size : Int) == 0) = false := beq_eq_false_iff_ne.2 (by omega)
    clear h
    go_enter Tryz.func113, Tryz.ntmps113
    go_wp2
    go_ret
    exact ⟨by simp [nx, w64b, hx0], rfl⟩
end
section
set_option linter.unusedVariables false
set_option linter.unusedSimpArgs false
open Go.RowKit
theorem letter_nx (l : Bs) : on isLet l = (decide ((97 : Int) ≤ nx l) && decide (nx l ≤ 122)) := by
  cases l with
  | nil => rfl
  | cons c l =>
    simp only [on, isLet, nx]
    congr 1 <;> exact decide_eq_decide.2 (by omega)
set_option maxHeartbeats 2000000 in
theorem letter_any (w : World) (r : Nat) (l : Bs) (p : Pl) (h : RdS w r l p) :
    Calls Tryz.prog 115 #[.pointer (some ⟨r, 0, none⟩)] w fun e w' => e = .returned (.bool (on isLet l)) ∧ w = w' := by
  have HN := Lib.hid (next_any w r l p h)
  clear h
  rw [letter_nx]
  generalize nx l = n at *
  by_cases h1 : (97 : Int) ≤ n
  · by_cases h2 : n ≤ 122
    · have d1 : decide ((97 : Int) ≤ n) = true := decide_eq_true h1
      have d2 : decide (n ≤ 122) = true := decide_eq_true h2
      go_enter Tryz.func115, Tryz.ntmps115
      go_wp2_with ((go_at_call 113; refine HN.out.mono ?_; rintro e w9 ⟨rfl, hw9⟩; subst hw9))
      go_ret
      exact ⟨by simp [d1, d2], rfl⟩
    · have d1 : decide ((97 : Int) ≤ n) = true := decide_eq_true h1
      have d2 : decide (n ≤ 122) = false := decide_eq_false h2
      go_enter Tryz.func115, Tryz.ntmps115
      go_wp2_with ((go_at_call 113; refine HN.out.mono ?_; rintro e w9 ⟨rfl, hw9⟩; subst hw9))
      go_ret
      exact ⟨by simp [d1, d2], rfl⟩
  · have d1 : decide ((97 : Int) ≤ n) = false := decide_eq_false h1
    go_enter Tryz.func115, Tryz.ntmps115
    go_wp2_with ((go_at_call 113; refine HN.out.mono ?_; rintro e w9 ⟨rfl, hw9⟩; subst hw9))
    go_ret
    exact ⟨by simp [d1], rfl⟩
theorem digit_nx (l : Bs) : on isDg l = (decide ((48 : Int) ≤ nx l) && decide (nx l ≤ 57)) := by
  cases l with
  | nil => rfl
  | cons c l =>
    simp only [on, isDg, nx]
    congr 1 <;> exact decide_eq_decide.2 (by omega)
set_option maxHeartbeats 2000000 in
theorem digit_any (w : World) (r : Nat) (l : Bs) (p : Pl) (h : RdS w r l p) :
    Calls Tryz.prog 118 #[.pointer (some ⟨r, 0, none⟩)] w fun e w' => e = .returned (.bool (on isDg l)) ∧ w = w' := by
  have HN := Lib.hid (next_any w r l p h)
  clear h
  rw [digit_nx]
  generalize nx l = n at *
  by_cases h1 : (48 : Int) ≤ n
  · by_cases h2 : n ≤ 57
    · have d1 : decide ((48 : Int) ≤ n) = true := decide_eq_true h1
      have d2 : decide (n ≤ 57) = true := decide_eq_true h2
      go_enter Tryz.func118, Tryz.ntmps118
      go_wp2_with ((go_at_call 113; refine HN.out.mono ?_; rintro e w9 ⟨rfl, hw9⟩; subst hw9))
      go_ret
      exact ⟨by simp [d1, d2], rfl⟩
    · have d1 : decide ((48 : Int) ≤ n) = true := decide_eq_true h1
      have d2 : decide (n ≤ 57) = false := decide_eq_false h2
      go_enter Tryz.func118, Tryz.ntmps118
      go_wp2_with ((go_at_call 113; refine HN.out.mono ?_; rintro e w9 ⟨rfl, hw9⟩; subst hw9))
      go_ret
      exact ⟨by simp [d1, d2], rfl⟩
  · have d1 : decide ((48 : Int) ≤ n) = false := decide_eq_false h1
    go_enter Tryz.func118, Tryz.ntmps118
    go_wp2_with ((go_at_call 113; refine HN.out.mono ?_; rintro e w9 ⟨rfl, hw9⟩; subst hw9))
    go_ret
    exact ⟨by simp [d1], rfl⟩
theorem blank_nx (l : Bs) : on isBl l = (nx l == 32 || nx l == 10) := by
  cases l with
  | nil => rfl
  | cons c l => simp only [on, isBl, nx]; congr 1 <;> (rw [Bool.eq_iff_iff, beq_iff_eq, beq_iff_eq]; omega)
set_option maxHeartbeats 2000000 in
theorem blank_any (w : World) (r : Nat) (l : Bs) (p : Pl) (h : RdS w r l p) :
    Calls Tryz.prog 112 #[.pointer (some ⟨r, 0, none⟩)] w fun e w' => e = .returned (.bool (on isBl l)) ∧ w = w' := by
  have HN := Lib.hid (next_any w r l p h)
  clear h
  rw [blank_nx]
  generalize nx l = n at *
  cases h1 : (n == 32) with
  | true =>
    go_enter Tryz.func112, Tryz.ntmps112
    go_wp2_with ((go_at_call 113; refine HN.out.mono ?_; rintro e w9 ⟨rfl, hw9⟩; subst hw9))
    go_ret
    exact ⟨by simp, rfl⟩
  | false =>
    cases h2 : (n == 10) with
    | true =>
      go_enter Tryz.func112, Tryz.ntmps112
      go_wp2_with ((go_at_call 113; refine HN.out.mono ?_; rintro e w9 ⟨rfl, hw9⟩; subst hw9))
      go_ret
      exact ⟨by simp, rfl⟩
    | false =>
      go_enter Tryz.func112, Tryz.ntmps112
      go_wp2_with ((go_at_call 113; refine HN.out.mono ?_; rintro e w9 ⟨rfl, hw9⟩; subst hw9))
      go_ret
      exact ⟨by simp, rfl⟩
theorem more_nx (l : Bs) : (!l.isEmpty) = !(nx l == -1) := by
  cases l with
  | nil => rfl
  | cons c l =>
    have : (nx (c :: l) == -1) = false := beq_eq_false_iff_ne.2 (by simp only [nx]; omega)
    rw [this]; rfl
set_option maxHeartbeats 2000000 in
theorem more_any (w : World) (r : Nat) (l : Bs) (p : Pl) (h : RdS w r l p) :
    Calls Tryz.prog 83 #[.pointer (some ⟨r, 0, none⟩)] w fun e w' => e = .returned (.bool (!l.isEmpty)) ∧ w = w' := by
  have HN := Lib.hid (next_any w r l p h)
  clear h
  rw [more_nx]
  generalize nx l = n at *
  cases h1 : (n == -1) with
  | true =>
    go_enter Tryz.func83, Tryz.ntmps83
    go_wp2_with ((go_at_call 113; refine HN.out.mono ?_; rintro e w9 ⟨rfl, hw9⟩; subst hw9))
    go_ret
    exact ⟨by first | (simp; done) | simpa using h1, rfl⟩
  | false =>
    go_enter Tryz.func83, Tryz.ntmps83
    go_wp2_with ((go_at_call 113; refine HN.out.mono ?_; rintro e w9 ⟨rfl, hw9⟩; subst hw9))
    go_ret
    exact ⟨by first | (simp; done) | simpa using h1, rfl⟩
theorem ofLn_nx (l : Bs) : on ofLn l = (!l.isEmpty && !(nx l == 10)) := by
  cases l with
  | nil => rfl
  | cons c l =>
    have : (nx (c :: l) == 10) = (c.toNat == 10) := by rw [Bool.eq_iff_iff, beq_iff_eq, beq_iff_eq]; simp only [nx]; omega
    rw [this]; simp [on, ofLn]
set_option maxHeartbeats 2000000 in
theorem ofLine_any (w : World) (r : Nat) (l : Bs) (p : Pl) (h : RdS w r l p) :
    Calls Tryz.prog 114 #[.pointer (some ⟨r, 0, none⟩)] w fun e w' => e = .returned (.bool (on ofLn l)) ∧ w = w' := by
  have HN := Lib.hid (next_any w r l p h)
  have HM := Lib.hid (more_any w r l p h)
  clear h
  rw [ofLn_nx]
  generalize nx l = n at *
  generalize (!l.isEmpty) = b at *
  cases b with
  | false =>
    go_enter Tryz.func114, Tryz.ntmps114
    go_wp2_with (first
      | (go_at_call 113; refine HN.out.mono ?_; rintro e w9 ⟨rfl, hw9⟩; subst hw9)
      | (go_at_call 83; refine HM.out.mono ?_; rintro e w9 ⟨rfl, hw9⟩; subst hw9))
    go_ret
    exact ⟨by simp, rfl⟩
  | true =>
    cases h1 : (n == 10) with
    | true =>
      go_enter Tryz.func114, Tryz.ntmps114
      go_wp2_with (first
        | (go_at_call 113; refine HN.out.mono ?_; rintro e w9 ⟨rfl, hw9⟩; subst hw9)
        | (go_at_call 83; refine HM.out.mono ?_; rintro e w9 ⟨rfl, hw9⟩; subst hw9))
      go_ret
      exact ⟨by first | (simp; done) | simpa using h1, rfl⟩
    | false =>
      go_enter Tryz.func114, Tryz.ntmps114
      go_wp2_with (first
        | (go_at_call 113; refine HN.out.mono ?_; rintro e w9 ⟨rfl, hw9⟩; subst hw9)
        | (go_at_call 83; refine HM.out.mono ?_; rintro e w9 ⟨rfl, hw9⟩; subst hw9))
      go_ret
      exact ⟨by first | (simp; done) | simpa using h1, rfl⟩
theorem ofNm_nx (l : Bs) : on ofNm l = (on isLet l || on isDg l || nx l == 45) := by
  cases l with
  | nil => rfl
  | cons c l =>
    have : (nx (c :: l) == 45) = (c.toNat == 45) := by rw [Bool.eq_iff_iff, beq_iff_eq, beq_iff_eq]; simp only [nx]; omega
    rw [this]; rfl
set_option maxHeartbeats 2000000 in
theorem ofName_any (w : World) (r : Nat) (l : Bs) (p : Pl) (h : RdS w r l p) :
    Calls Tryz.prog 117 #[.pointer (some ⟨r, 0, none⟩)] w fun e w' => e = .returned (.bool (on ofNm l)) ∧ w = w' := by
  have HN := Lib.hid (next_any w r l p h)
  have HL := Lib.hid (letter_any w r l p h)
  have HD := Lib.hid (digit_any w r l p h)
  clear h
  rw [ofNm_nx]
  generalize nx l = n at *
  generalize on isLet l = a at *
  generalize on isDg l = b at *
  cases a with
  | true =>
    go_enter Tryz.func117, Tryz.ntmps117
    go_wp2_with (first
      | (go_at_call 113; refine HN.out.mono ?_; rintro e w9 ⟨rfl, hw9⟩; subst hw9)
      | (go_at_call 115; refine HL.out.mono ?_; rintro e w9 ⟨rfl, hw9⟩; subst hw9)
      | (go_at_call 118; refine HD.out.mono ?_; rintro e w9 ⟨rfl, hw9⟩; subst hw9))
    go_ret
    exact ⟨by simp, rfl⟩
  | false =>
    cases b with
    | true =>
      go_enter Tryz.func117, Tryz.ntmps117
      go_wp2_with (first
        | (go_at_call 113; refine HN.out.mono ?_; rintro e w9 ⟨rfl, hw9⟩; subst hw9)
        | (go_at_call 115; refine HL.out.mono ?_; rintro e w9 ⟨rfl, hw9⟩; subst hw9)
        | (go_at_call 118; refine HD.out.mono ?_; rintro e w9 ⟨rfl, hw9⟩; subst hw9))
      go_ret
      exact ⟨by simp, rfl⟩
    | false =>
      cases h1 : (n == 45) with
      | true =>
        go_enter Tryz.func117, Tryz.ntmps117
        go_wp2_with (first
          | (go_at_call 113; refine HN.out.mono ?_; rintro e w9 ⟨rfl, hw9⟩; subst hw9)
          | (go_at_call 115; refine HL.out.mono ?_; rintro e w9 ⟨rfl, hw9⟩; subst hw9)
          | (go_at_call 118; refine HD.out.mono ?_; rintro e w9 ⟨rfl, hw9⟩; subst hw9))
        go_ret
        exact ⟨by simp, rfl⟩
      | false =>
        go_enter Tryz.func117, Tryz.ntmps117
        go_wp2_with (first
          | (go_at_call 113; refine HN.out.mono ?_; rintro e w9 ⟨rfl, hw9⟩; subst hw9)
          | (go_at_call 115; refine HL.out.mono ?_; rintro e w9 ⟨rfl, hw9⟩; subst hw9)
          | (go_at_call 118; refine HD.out.mono ?_; rintro e w9 ⟨rfl, hw9⟩; subst hw9))
        go_ret
        exact ⟨by simp, rfl⟩
end
section
set_option linter.unusedVariables false
set_option linter.unusedSimpArgs false
open Go.RowKit
theorem head_tail {w : World} {a : Addr} {c : UInt8} {l : Bs} (h : w.cell? a = some (.string (bs (c :: l)))) : ∃ x : ByteArray, w.cell? a = some (.string x) ∧ (∃ h0 : 0 < x.size, x[0] = c) ∧ x.extract 1 x.size = bs l := by
  refine ⟨_, h, ⟨by rw [bs0]; omega, rfl⟩, ?_⟩
  apply ByteArray.ext
  simp [bs, ByteArray.size]
def StepP (r : Nat) (c : UInt8) (l : Bs) (p : Pl) (w : World) (e : Ending) (w' : World) : Prop :=
  e = .returned (.int .u8 c.toNat) ∧ RdS w' r l (adv p c) ∧ But r w w'
set_option maxHeartbeats 2000000 in
theorem step_any (w : World) (r : Nat) (c : UInt8) (l : Bs) (p : Pl) (h : RdS w r (c :: l) p) (hp : OkP (c :: l) p) :
    Calls Tryz.prog 143 #[.pointer (some ⟨r, 0, none⟩)] w fun e w' => StepP r c l p w e w' := by
  have HK := Lib.hid h
  have k0 : _ = some (Value.string (bs (c :: l))) := Blk.cell h 0
  have k1 : _ = some (Value.int .i64 p.1) := Blk.cell h 1
  have k2 : _ = some (Value.int .i64 p.2) := Blk.cell h 2
  have f0 := Blk.frozen h 0
  have f1 := Blk.frozen h 1
  have f2 := Blk.frozen h 2
  clear h
  obtain ⟨x, j0, ⟨hz2, hx0⟩, hxe⟩ := head_tail k0
  clear k0
  have hx1 : (1 : Int) ≤ (x.size : Int) := by omega
  have b1 : (0 : Int) ≤ p.1 ∧ p.1 ≤ 1000 ∧ (0 : Int) ≤ p.2 ∧ p.2 ≤ 1000 := by unfold OkP at hp; simp only [List.length_cons] at hp; omega
  obtain ⟨b10, b11, b20, b21⟩ := b1
  clear hp
  by_cases hc : c.toNat = 10
  · have hcb : ((c.toNat : Int) == 10) = true := beq_iff_eq.2 (by omega)
    have HAd := Lib.hid (show adv p c = (p.1 + 1, 1) by rw [adv, if_pos hc])
    clear hc
    go_enter Tryz.func143, Tryz.ntmps143
    go_wp2
    go_ret
    refine ⟨rfl, ?_, ((((But.set _ _ _).trans (But.set _ _ _)).trans (But.set _ _ _)).trans (But.set _ _ _))⟩
    rw [HAd.out]
    have := ((((HK.out.set_ 0 (.string (bs l))).set_ 2 (.int .i64 (p.2 + 1))).set_ 1 (.int .i64 (p.1 + 1))).set_ 2 (.int .i64 1))
    simpa [RdS] using this
  · have hcb : ((c.toNat : Int) == 10) = false := beq_eq_false_iff_ne.2 (by omega)
    have HAd := Lib.hid (show adv p c = (p.1, p.2 + 1) by rw [adv, if_neg hc])
    clear hc
    go_enter Tryz.func143, Tryz.ntmps143
    go_wp2
    go_ret
    refine ⟨rfl, ?_, ((But.set _ _ _).trans (But.set _ _ _))⟩
    rw [HAd.out]
    have := ((HK.out.set_ 0 (.string (bs l))).set_ 2 (.int .i64 (p.2 + 1)))
    simpa [RdS] using this
end
section
set_option linter.unusedVariables false
set_option linter.unusedSimpArgs false
open Go.RowKit
/-- An element: its type, its cells, its bytes. -/
structure El (α : Type) where
  T : TypeId
  k : Nat
  by_ : Nat
  z : Value
  enc : α → List Value
structure El.Ok {α : Type} (E : El α) : Prop where
  pos : 0 < E.k
  len : ∀ x, (E.enc x).length = E.k
  one : ∀ x, ∀ u ∈ E.enc x, u.oneCell' = true
  info : (Tryz.prog.info? E.T).map (fun i => (i.zero, i.size, i.bytes)) = some (some E.z, E.k, E.by_)
  zs : E.z.cells.size = E.k
  few : E.by_ ≤ 512
section
variable {α : Type} {E : El α}
def El.encs (E : El α) (L : List α) : List Value := L.flatMap E.enc
theorem El.encs_append (L M : List α) : E.encs (L ++ M) = E.encs L ++ E.encs M := by simp [El.encs]
theorem El.encs_length (h : E.Ok) (L : List α) : (E.encs L).length = L.length * E.k := by
  induction L with
  | nil => simp [El.encs]
  | cons e r ih =>
    have e1 : E.encs (e :: r) = E.enc e ++ E.encs r := rfl
    rw [e1, List.length_append, ih, h.len, List.length_cons, Nat.add_mul, Nat.one_mul, Nat.add_comm]
theorem El.encs_get (h : E.Ok) (L : List α) (i j : Nat) (x : α) (hi : L[i]? = some x) (hj : j < E.k) : (E.encs L)[i * E.k + j]? = (E.enc x)[j]? := by
  induction L generalizing i with
  | nil => simp at hi
  | cons e r ih =>
    have e1 : E.encs (e :: r) = E.enc e ++ E.encs r := rfl
    rw [e1]
    match i with
    | 0 =>
      simp at hi
      subst hi
      rw [List.getElem?_append_left (by rw [h.len]; omega)]; simp
    | i + 1 =>
      have e2 : (i + 1) * E.k + j - (E.enc e).length = i * E.k + j := by rw [h.len, Nat.add_mul, Nat.one_mul]; omega
      rw [List.getElem?_append_right (by rw [h.len, Nat.add_mul, Nat.one_mul]; omega), e2]
      exact ih i (by simpa using hi)
/-- The elements L at the head of block g. -/
def ERow (E : El α) (w : World) (g cap : Nat) (L : List α) : Prop :=
  ∃ cur, Blk w g E.T cur ∧ cur.size = cap * E.k ∧ L.length ≤ cap ∧ cap ≤ maxLen ∧ cur.toList.take (L.length * E.k) = E.encs L
theorem ERow.lt {w : World} {g cap : Nat} {L : List α} (h : ERow E w g cap L) : g < w.heap.size := by obtain ⟨cur, h1, _⟩ := h; exact h1.lt
theorem ERow.keep {w w' : World} {g cap : Nat} {L : List α} (h : ERow E w g cap L) (hk : w'.heap[g]? = w.heap[g]?) : ERow E w' g cap L := by
  obtain ⟨cur, h1, h2⟩ := h
  exact ⟨cur, hk.trans h1, h2⟩
/-- A slice of the call's own that holds the elements L. -/
def EOwn (E : El α) (w : World) (v : Value) (L : List α) : Prop := (v = .slice none 0 0 ∧ L = []) ∨ ∃ g cap, v = .slice (some ⟨g, 0, none⟩) L.length cap ∧ ERow E w g cap L
theorem EOwn.own {w : World} {v : Value} {L : List α} (hE : E.Ok) (h : EOwn E w v L) : w.ownsRow 0 E.T E.k v L.length (E.encs L) := by
  rcases h with ⟨rfl, rfl⟩ | ⟨g, cap, rfl, cur, h1, h2, h3, h4, h5⟩
  · exact World.ownsRow_nil _ _ _ _
  · exact ⟨El.encs_length hE L, .inr ⟨g, cap, cur, rfl, Nat.zero_le _, h1, h3, h4, h2, h5⟩⟩
theorem EOwn.keep {w w' : World} {v : Value} {L : List α} (h : EOwn E w v L) (hk : ∀ i, i < w.heap.size → v.ownBlock = some i → w'.heap[i]? = w.heap[i]?) : EOwn E w' v L := by
  rcases h with h3 | ⟨g, cap, rfl, h3⟩
  · exact .inl h3
  · exact .inr ⟨g, cap, rfl, h3.keep (hk g h3.lt rfl)⟩
theorem EOwn.below {w w' : World} {v : Value} {L : List α} (h : EOwn E w v L) (hb : Below w.heap.size w w') : EOwn E w' v L := h.keep fun i hi _ => hb.block i hi
theorem EOwn.but {w w' : World} {v : Value} {L : List α} {r : Nat} (h : EOwn E w v L) (hb : But r w w') (hr : ∀ i, v.ownBlock = some i → i ≠ r) : EOwn E w' v L := h.keep fun i hi e => hb.block i hi (hr i e)
theorem EOwn.nil_ (w : World) : EOwn E w (.slice none 0 0) [] := .inl ⟨rfl, rfl⟩
theorem EOwn.slice {w : World} {v : Value} {L : List α} (h : EOwn E w v L) : ∃ A cap, v = .slice A L.length cap ∧ L.length ≤ cap ∧ cap ≤ maxLen := by
  rcases h with ⟨rfl, rfl⟩ | ⟨g, cap, rfl, cur, _, _, h, h2, _⟩
  · exact ⟨none, 0, rfl, Nat.le_refl _, by decide⟩
  · exact ⟨_, _, rfl, h, h2⟩
theorem EOwn.lt {w : World} {v : Value} {L : List α} (h : EOwn E w v L) {i : Nat} (hi : v.ownBlock = some i) : i < w.heap.size := by
  rcases h with ⟨rfl, _⟩ | ⟨g, cap, rfl, h⟩
  · simp [Value.ownBlock] at hi
  · simp [Value.ownBlock] at hi; subst hi; exact h.lt
theorem EOwn.cell {w : World} {A : Option Addr} {n c : Nat} {L : List α} (hE : E.Ok) (h : EOwn E w (.slice A n c) L) {i : Nat} {x : α} (hi : L[i]? = some x) : n = L.length ∧ ∃ g, A = some ⟨g, 0, none⟩ ∧ ∀ j u, (E.enc x)[j]? = some u → w.cell? ⟨g, i * E.k + j, none⟩ = some u := by
  rcases h with ⟨h, rfl⟩ | ⟨g, cap, h, cur, h1, h2, h3, h4, h5⟩
  · simp at hi
  · injection h with a b c
    subst a; subst b; subst c
    refine ⟨rfl, g, rfl, fun j u hj => ?_⟩
    have hjk : j < E.k := by have := (List.getElem?_eq_some_iff.1 hj).1; rw [hE.len] at this; exact this
    have hil : i < L.length := (List.getElem?_eq_some_iff.1 hi).1
    have e := El.encs_get hE L i j x hi hjk
    have hlt : i * E.k + j < L.length * E.k := by
      have : (i + 1) * E.k ≤ L.length * E.k := Nat.mul_le_mul_right _ hil
      rw [Nat.add_mul, Nat.one_mul] at this; omega
    rw [h1.cell]
    rw [← h5, List.getElem?_take, if_pos hlt, Array.getElem?_toList, hj] at e
    exact e
def EAppended (E : El α) (v : Value) (L : List α) (w : World) (v' : Value) (w' : World) : Prop :=
  ∃ g cap, v' = .slice (some ⟨g, 0, none⟩) L.length cap ∧ ERow E w' g cap L ∧ w.grownBy w' v.ownBlock ∧ (v.ownBlock = some g ∨ g = w.heap.size)
theorem run_epush {w : World} {t ty : TypeId} (hE : E.Ok) (ht : Tryz.prog.underlying t = some (.slice E.T)) {v : Value} {L : List α} {x : α} {b c : Nat} (h : EOwn E w v L) (hx : ∀ j u, (E.enc x)[j]? = some u → w.cell? ⟨b, j, none⟩ = some u) (hl : L.length ≤ 1000000) :
    ∃ v' w', (Builtin.append_ #[t, t] ty #[v, .slice (some ⟨b, 0, none⟩) 1 c]).run Tryz.prog w = .ok v' w' ∧ EAppended E v (L ++ [x]) w v' w' := by
  obtain ⟨i0, hi, hz, hsz, hby⟩ := info_parts hE.info
  have hr : Reads w w.heap.size E.k (some ⟨b, 0, none⟩) 1 (E.enc x) := by
    refine ⟨by rw [hE.len, Nat.one_mul], fun _ => ⟨_, rfl, ?_, fun j u hu => ?_⟩⟩
    · have hp := hE.pos
      have h0 : 0 < (E.enc x).length := by rw [hE.len]; exact hp
      exact World.block_lt_of_cell? w _ (hx 0 _ (List.getElem?_eq_getElem h0))
    · have := hx j u hu
      have e : (⟨b, 0, none⟩ : Addr).add j = ⟨b, j, none⟩ := by unfold Addr.add; split <;> simp_all
      rw [e]; exact this
  have hby2 : (L.length + 1) * E.by_ ≤ 140737488355328 := by
    have h1 := hE.few
    have : (L.length + 1) * E.by_ ≤ 1000001 * 512 := Nat.mul_le_mul (by omega) h1
    omega
  obtain ⟨v', w', hr, ho, hg, hb⟩ := run_append_any (P := Tryz.prog) w 0 t ty E.T i0 _ E.k E.by_ ht hi hz hsz hby hE.zs hE.pos v L.length (E.encs L) (h.own hE) w.heap.size (some ⟨b, 0, none⟩) 1 c (E.enc x) hr (hE.one x) (by simp only [maxLen]; omega) hby2 (Nat.zero_le _)
  have he : E.encs L ++ E.enc x = E.encs (L ++ [x]) := by rw [El.encs_append]; simp [El.encs]
  rw [he] at ho
  have hn : L.length + 1 = (L ++ [x]).length := by simp
  rw [hn] at ho
  rcases ho.2 with ⟨_, h⟩ | ⟨g, cap, cur, hv, _, h1, h3, h4, h2, h5⟩
  · simp at h
  · refine ⟨v', w', hr, g, cap, hv, ⟨cur, h1, h2, h3, h4, h5⟩, hg, ?_⟩
    subst hv
    rcases hb with hb | hb
    · exact .inl hb.symm
    · simp [Value.ownBlock] at hb; exact .inr hb
theorem wp_epush {w : World} {o : Oper} {a : Act} {K : Act → World → Prop} {Q : Exit → Act → World → Prop} (hE : E.Ok) (s x : Operand) (t : TypeId)
    (ho : o.op = .call { callee := .builtin .append, args := #[s, x], argTypes := #[t, t] }) (ht : Tryz.prog.underlying t = some (.slice E.T)) (v : Value) (L : List α) (e : α) (b c : Nat) (hs : a.eval s = v) (hx : a.eval x = .slice (some ⟨b, 0, none⟩) 1 c)
    (h : EOwn E w v L) (h0 : ∀ j u, (E.enc e)[j]? = some u → w.cell? ⟨b, j, none⟩ = some u) (hl : L.length ≤ 1000000)
    (hK : ∀ v' w', EAppended E v (L ++ [e]) w v' w' → K (a.put o.dst v') w') : o.wp Tryz.prog a w K Q := by
  obtain ⟨v', w', hrun, hA⟩ := run_epush (ty := o.type) (c := c) hE ht h h0 hl
  unfold Oper.wp execOp
  simp only [ho, resolve, invoke, builtin, Sem.run_bind, Sem.run_pure, Result.andThen_ok, List.map_toArray, List.map_cons, List.map_nil, hs, hx, hrun]
  exact hK v' w' hA
theorem wpList_epush {w : World} {ops : Array Oper} {rest : List Oper} {o : Oper} {a : Act} {Q : Exit → Act → World → Prop} (hE : E.Ok) (hgd : o.guard = none) (s x : Operand) (t : TypeId)
    (ho : o.op = .call { callee := .builtin .append, args := #[s, x], argTypes := #[t, t] }) (ht : Tryz.prog.underlying t = some (.slice E.T)) (v : Value) (L : List α) (e : α) (b c : Nat) (hs : a.eval s = v) (hx : a.eval x = .slice (some ⟨b, 0, none⟩) 1 c)
    (h : EOwn E w v L) (h0 : ∀ j u, (E.enc e)[j]? = some u → w.cell? ⟨b, j, none⟩ = some u) (hl : L.length ≤ 1000000)
    (hK : ∀ v' w', EAppended E v (L ++ [e]) w v' w' → wpList Tryz.prog ops Q rest (a.put o.dst v') w') : wpList Tryz.prog ops Q (o :: rest) a w :=
  wpList_plain hgd fun _ hK' => wp_epush hE s x t ho ht v L e b c hs hx h h0 hl fun v' w' hA => hK' _ _ (hK v' w' hA)
theorem EAppended.own {v v' : Value} {L : List α} {w w' : World} (h : EAppended E v L w v' w') : EOwn E w' v' L := by
  obtain ⟨g, cap, hv, hr, _⟩ := h
  exact .inr ⟨g, cap, hv, hr⟩
/-- What lies below B is kept, where the row lies at or beyond it. -/
theorem EAppended.below {v v' : Value} {L : List α} {w w' : World} {B : Nat} (h : EAppended E v L w v' w') (hB : B ≤ w.heap.size) (hv : ∀ i, v.ownBlock = some i → B ≤ i) : Below B w w' ∧ (∀ i, v'.ownBlock = some i → B ≤ i) := by
  obtain ⟨g, cap, rfl, hr, hg, hb⟩ := h
  refine ⟨(Below.refl B w).grown hg hB hv, fun i hi => ?_⟩
  simp [Value.ownBlock] at hi
  subst hi
  rcases hb with hb | hb
  · exact hv _ hb
  · omega
theorem EAppended.keep {v v' : Value} {L : List α} {w w' : World} (h : EAppended E v L w v' w') {k : Nat} (hk : k < w.heap.size) (hn : v.ownBlock ≠ some k) : w'.heap[k]? = w.heap[k]? := by
  obtain ⟨g, cap, rfl, hr, hg, hb⟩ := h
  exact hg.block k hk (Ne.symm hn)
theorem EAppended.below0 {v v' : Value} {L : List α} {w w' : World} (h : EAppended E v L w v' w') : Below 0 w w' := by
  obtain ⟨g, cap, rfl, hr, hg, hb⟩ := h
  exact (Below.refl 0 w).grown hg (Nat.zero_le _) (fun _ _ => Nat.zero_le _)
theorem EAppended.far {v v' : Value} {L : List α} {w w' : World} {B : Nat} (h : EAppended E v L w v' w') (hB : B ≤ w.heap.size) (hv : ∀ i, v.ownBlock = some i → B ≤ i) : ∀ i, v'.ownBlock = some i → B ≤ i := (h.below hB hv).2
end
/-- Bytes. -/
def elB : El UInt8 := { T := 5, k := 1, by_ := 1, z := .int .u8 0, enc := fun c => [.int .u8 (c.toNat : Int)] }
theorem elB_ok : elB.Ok := ⟨Nat.one_pos, fun _ => rfl, fun x u hu => by simp [elB] at hu; subst hu; rfl, by kernel_rfl, rfl, by decide⟩
theorem convert_own {w : World} {v : Value} {L : Bs} (h : EOwn elB w v L) (src : TypeId) (hs : Tryz.prog.underlying src = some (.slice 5)) (dst : TypeId) (hd : Tryz.prog.underlying dst = some .string) : (convert src dst v).run Tryz.prog w = .ok (.string (bs L)) w := by
  have he : Tryz.prog.underlying 5 = some (.int .u8) := by kernel_rfl
  rcases h with ⟨rfl, rfl⟩ | ⟨g, cap, rfl, hr⟩
  · rw [run_convert_bytes_nil w src _ hs he 0 0 dst hd]; rfl
  · have hO : EOwn elB w (.slice (some ⟨g, 0, none⟩) L.length cap) L := .inr ⟨g, cap, rfl, hr⟩
    have := run_convert_bytes_arg w src _ hs he g 0 L.length cap (L.map fun c => (c.toNat : Int)) (by simp) (fun i hi => by
      obtain ⟨_, g', e, hc⟩ := EOwn.cell elB_ok hO (List.getElem?_eq_getElem hi)
      obtain rfl : g = g' := by simpa using e
      have := hc 0 (.int .u8 (L[i].toNat : Int)) rfl
      simpa [elB, List.getD, List.getElem?_eq_getElem hi] using this) dst hd
    rw [this]
    refine congrArg (fun s => Result.ok (Value.string s) w) ?_
    have e : ∀ l : Bs, List.map (fun n : Int => UInt8.ofNat n.toNat) (List.map (fun c : UInt8 => (c.toNat : Int)) l) = l := by
      intro l
      induction l with
      | nil => rfl
      | cons c l ih => rw [List.map_cons, List.map_cons, ih]; simp
    unfold strOfNums bs
    rw [e L]
end
section
set_option linter.unusedVariables false
set_option linter.unusedSimpArgs false
open Go.RowKit
def TakeP (r : Nat) (a l : Bs) (p : Pl) (w : World) (e : Ending) (w' : World) : Prop :=
  e = .returned (.string (bs a)) ∧ RdS w' r l (advs p a) ∧ But r w w'
theorem span_on {f : UInt8 → Bool} {l : Bs} (h : on f l = true) : ∃ c l', l = c :: l' ∧ f c = true := by
  cases l with
  | nil => cases h
  | cons c l => exact ⟨c, l, rfl, h⟩
theorem span_off {f : UInt8 → Bool} {l : Bs} (h : on f l = false) : l.takeWhile f = [] ∧ l.dropWhile f = l := by
  cases l with
  | nil => exact ⟨rfl, rfl⟩
  | cons c l =>
    have hc : ¬ f c = true := by simpa [on] using h
    exact ⟨List.takeWhile_cons_of_neg hc, List.dropWhile_cons_of_neg hc⟩
theorem But.appended {α : Type} {E : El α} {r : Nat} {w0 w w' : World} {v v' : Value} {L : List α} (hb : But r w0 w) (h : EAppended E v L w v' w') (hv : ∀ i, v.ownBlock = some i → w0.heap.size ≤ i) : But r w0 w' := by
  have h0 := h.below0
  refine ⟨h0.os.trans hb.os, h0.tape.trans hb.tape, h0.output.trans hb.output, Nat.le_trans hb.size h0.size, fun k hk hr => ?_⟩
  exact (h.keep (by have := hb.size; omega) (fun e => by have := hv k e; omega)).trans (hb.block k hk hr)
theorem new_cell (w : World) (cs : Array Value) (t : TypeId) (i : Nat) {v : Value} (h : cs[i]? = some v) : (w.alloc (.cells cs t)).cell? ⟨w.heap.size, i, none⟩ = some v := by rw [(Blk.new w t cs).cell]; exact h
def lenOf : Value → Nat
  | .slice _ n _ => n
  | _ => 0
theorem But.grown {r : Nat} {w w' : World} {row : Option Nat} (h : w.grownBy w' row) : (∀ i, row = some i → False) → But r w w' := fun hr =>
  But.of_below ((Below.refl w.heap.size w).grown h (Nat.le_refl _) (fun i hi => (hr i hi).elim))
/-- take's rounds: what was taken, what is left. -/
structure TkSt (w0 : World) (r : Nat) (l0 : Bs) (p0 : Pl) (v : Value) (a l : Bs) (W : World) : Prop where
  eq : l0 = a ++ l
  rd : RdS W r l (advs p0 a)
  own : EOwn elB W v a
  far : ∀ i, v.ownBlock = some i → w0.heap.size ≤ i
  but : But r w0 W
set_option maxHeartbeats 4000000 in
theorem take_blank (w : World) (r : Nat) (l : Bs) (p : Pl) (h : RdS w r l p) (hp : OkP l p) :
    Calls Tryz.prog 111 #[.pointer (some ⟨r, 0, none⟩), .func (.func 112) #[.pointer (some ⟨r, 0, none⟩)] #[]] w fun e w' => TakeP r (l.takeWhile isBl) (l.dropWhile isBl) p w e w' := by
  have HP := Lib.hid hp
  have hrl : r < w.heap.size := Blk.lt h
  have HS0 := Lib.hid (show TkSt w r l p (.slice none 0 0) [] l w from ⟨rfl, h, EOwn.nil_ w, fun i hi => by simp [Value.ownBlock] at hi, But.refl r w⟩)
  have HRL := Lib.hid hrl
  clear h hp hrl
  go_enter Tryz.func111, Tryz.ntmps111
  go_wp2_with fail
  go_loopw [5] (fun v wr => ∃ a k, Hid (TkSt w r l p v a k wr ∧ a ++ k.takeWhile isBl = l.takeWhile isBl ∧ k.dropWhile isBl = l.dropWhile isBl)) (fun v _ => 600 - lenOf v)
  case atStart => exact ⟨[], l, Lib.hid ⟨HS0.out, rfl, rfl⟩⟩
  case round =>
    rename_i v wr
    obtain ⟨a, k, HS⟩ := hrel
    have HB := Lib.hid (blank_any wr r k (advs p a) HS.out.1.rd)
    cases hon : on isBl k with
    | false =>
      rw [hon] at HB
      obtain ⟨e1, e2⟩ := span_off hon
      clear hon
      have HA := Lib.hid (show l.takeWhile isBl = a by have := HS.out.2.1; rw [e1, List.append_nil] at this; exact this.symm)
      have HD := Lib.hid (show l.dropWhile isBl = k by have := HS.out.2.2; rw [e2] at this; exact this.symm)
      clear e1 e2
      have hcv := convert_own HS.out.1.own 92 (by kernel_rfl) 9 (by kernel_rfl)
      go_wp2_with ((go_at_call 112; refine HB.out.mono ?_; rintro e w9 ⟨rfl, hw9⟩; subst hw9))
      go_ret
      unfold TakeP
      rw [HA.out, HD.out]
      exact ⟨rfl, HS.out.1.rd, HS.out.1.but⟩
    | true =>
      rw [hon] at HB
      obtain ⟨c, k', rfl, hc⟩ := span_on hon
      clear hon
      have HPK := Lib.hid (show OkP (c :: k') (advs p a) by have := HP.out; rw [HS.out.1.eq] at this; exact OkP.steps this)
      have HST := Lib.hid (step_any wr r c k' (advs p a) HS.out.1.rd HPK.out)
      have HT := Lib.hid (show a ++ [c] ++ k'.takeWhile isBl = l.takeWhile isBl by have := HS.out.2.1; rw [List.takeWhile_cons_of_pos hc] at this; rw [List.append_assoc]; exact this)
      have HD := Lib.hid (show k'.dropWhile isBl = l.dropWhile isBl by have := HS.out.2.2; rw [List.dropWhile_cons_of_pos hc] at this; exact this)
      unfold StepP at HST
      have hcv : (c.toNat : Int) < 256 := by have := c.toNat_lt; omega
      have HLN := Lib.hid (show a.length < 512 by have := HP.out.1; rw [HS.out.1.eq] at this; simp at this; omega)
      go_wp2_with fail
      refine HB.out.mono ?_
      rintro e w9 ⟨rfl, hw9⟩
      subst hw9
      go_wp2_with fail
      refine HST.out.mono ?_
      rintro e w1 ⟨rfl, hrd1, hbut1⟩
      have HRD1 := Lib.hid hrd1
      have HBUT1 := Lib.hid hbut1
      have HOW1 := Lib.hid (HS.out.1.own.but hbut1 (fun i hi => by have := HS.out.1.far i hi; have := HRL.out; omega))
      have HFAR := Lib.hid HS.out.1.far
      have HLT1 := Lib.hid (fun i hi => HOW1.out.lt (i := i) hi)
      clear hrd1 hbut1
      go_wp2_with ((at_builtin; refine wpList_epush elB_ok rfl _ _ 92 rfl (by kernel_rfl) _ a c w1.heap.size 1 rfl rfl (HOW1.out.below ((Below.refl _ _).alloc (Nat.le_refl _) _)) (fun j u hu => by (have hj : j = 0 := by (have := (List.getElem?_eq_some_iff.1 hu).1; simp [elB] at this; omega)); subst hj; simp [elB] at hu; subst hu; exact new_cell w1 _ _ 0 rfl) (by have := HLN.out; omega) ?_; intro v' w2 hA))
      go_roundw
      case rel =>
        refine ⟨a ++ [c], k', Lib.hid ⟨⟨?_, ?_, hA.own, ?_, ?_⟩, HT.out, HD.out⟩⟩
        · rw [HS.out.1.eq]; simp
        · have hra := HRD1.out.below ((Below.refl w1.heap.size w1).alloc (Nat.le_refl _) (.cells #[.int .u8 (c.toNat : Int)] 5))
          rw [advs_app]
          exact (hA.keep (Blk.lt hra) (fun e => by have := HFAR.out _ e; have := HRL.out; omega)).trans hra
        · refine hA.far ?_ HFAR.out
          have := HS.out.1.but.size; have := HBUT1.out.size; simp; omega
        · exact But.appended ((HS.out.1.but.trans HBUT1.out).trans (But.of_below ((Below.refl _ _).alloc (Nat.le_refl _) _))) hA HFAR.out
      case measure =>
        obtain ⟨A1, c1, rfl, _⟩ := HS.out.1.own.slice
        obtain ⟨g, cap, rfl, _⟩ := hA
        have := HLN.out
        simp [lenOf]; omega
set_option maxHeartbeats 4000000 in
theorem take_ofLine (w : World) (r : Nat) (l : Bs) (p : Pl) (h : RdS w r l p) (hp : OkP l p) :
    Calls Tryz.prog 111 #[.pointer (some ⟨r, 0, none⟩), .func (.func 114) #[.pointer (some ⟨r, 0, none⟩)] #[]] w fun e w' => TakeP r (l.takeWhile ofLn) (l.dropWhile ofLn) p w e w' := by
  have HP := Lib.hid hp
  have hrl : r < w.heap.size := Blk.lt h
  have HS0 := Lib.hid (show TkSt w r l p (.slice none 0 0) [] l w from ⟨rfl, h, EOwn.nil_ w, fun i hi => by simp [Value.ownBlock] at hi, But.refl r w⟩)
  have HRL := Lib.hid hrl
  clear h hp hrl
  go_enter Tryz.func111, Tryz.ntmps111
  go_wp2_with fail
  go_loopw [5] (fun v wr => ∃ a k, Hid (TkSt w r l p v a k wr ∧ a ++ k.takeWhile ofLn = l.takeWhile ofLn ∧ k.dropWhile ofLn = l.dropWhile ofLn)) (fun v _ => 600 - lenOf v)
  case atStart => exact ⟨[], l, Lib.hid ⟨HS0.out, rfl, rfl⟩⟩
  case round =>
    rename_i v wr
    obtain ⟨a, k, HS⟩ := hrel
    have HB := Lib.hid (ofLine_any wr r k (advs p a) HS.out.1.rd)
    cases hon : on ofLn k with
    | false =>
      rw [hon] at HB
      obtain ⟨e1, e2⟩ := span_off hon
      clear hon
      have HA := Lib.hid (show l.takeWhile ofLn = a by have := HS.out.2.1; rw [e1, List.append_nil] at this; exact this.symm)
      have HD := Lib.hid (show l.dropWhile ofLn = k by have := HS.out.2.2; rw [e2] at this; exact this.symm)
      clear e1 e2
      have hcv := convert_own HS.out.1.own 92 (by kernel_rfl) 9 (by kernel_rfl)
      go_wp2_with ((go_at_call 114; refine HB.out.mono ?_; rintro e w9 ⟨rfl, hw9⟩; subst hw9))
      go_ret
      unfold TakeP
      rw [HA.out, HD.out]
      exact ⟨rfl, HS.out.1.rd, HS.out.1.but⟩
    | true =>
      rw [hon] at HB
      obtain ⟨c, k', rfl, hc⟩ := span_on hon
      clear hon
      have HPK := Lib.hid (show OkP (c :: k') (advs p a) by have := HP.out; rw [HS.out.1.eq] at this; exact OkP.steps this)
      have HST := Lib.hid (step_any wr r c k' (advs p a) HS.out.1.rd HPK.out)
      have HT := Lib.hid (show a ++ [c] ++ k'.takeWhile ofLn = l.takeWhile ofLn by have := HS.out.2.1; rw [List.takeWhile_cons_of_pos hc] at this; rw [List.append_assoc]; exact this)
      have HD := Lib.hid (show k'.dropWhile ofLn = l.dropWhile ofLn by have := HS.out.2.2; rw [List.dropWhile_cons_of_pos hc] at this; exact this)
      unfold StepP at HST
      have hcv : (c.toNat : Int) < 256 := by have := c.toNat_lt; omega
      have HLN := Lib.hid (show a.length < 512 by have := HP.out.1; rw [HS.out.1.eq] at this; simp at this; omega)
      go_wp2_with fail
      refine HB.out.mono ?_
      rintro e w9 ⟨rfl, hw9⟩
      subst hw9
      go_wp2_with fail
      refine HST.out.mono ?_
      rintro e w1 ⟨rfl, hrd1, hbut1⟩
      have HRD1 := Lib.hid hrd1
      have HBUT1 := Lib.hid hbut1
      have HOW1 := Lib.hid (HS.out.1.own.but hbut1 (fun i hi => by have := HS.out.1.far i hi; have := HRL.out; omega))
      have HFAR := Lib.hid HS.out.1.far
      have HLT1 := Lib.hid (fun i hi => HOW1.out.lt (i := i) hi)
      clear hrd1 hbut1
      go_wp2_with ((at_builtin; refine wpList_epush elB_ok rfl _ _ 92 rfl (by kernel_rfl) _ a c w1.heap.size 1 rfl rfl (HOW1.out.below ((Below.refl _ _).alloc (Nat.le_refl _) _)) (fun j u hu => by (have hj : j = 0 := by (have := (List.getElem?_eq_some_iff.1 hu).1; simp [elB] at this; omega)); subst hj; simp [elB] at hu; subst hu; exact new_cell w1 _ _ 0 rfl) (by have := HLN.out; omega) ?_; intro v' w2 hA))
      go_roundw
      case rel =>
        refine ⟨a ++ [c], k', Lib.hid ⟨⟨?_, ?_, hA.own, ?_, ?_⟩, HT.out, HD.out⟩⟩
        · rw [HS.out.1.eq]; simp
        · have hra := HRD1.out.below ((Below.refl w1.heap.size w1).alloc (Nat.le_refl _) (.cells #[.int .u8 (c.toNat : Int)] 5))
          rw [advs_app]
          exact (hA.keep (Blk.lt hra) (fun e => by have := HFAR.out _ e; have := HRL.out; omega)).trans hra
        · refine hA.far ?_ HFAR.out
          have := HS.out.1.but.size; have := HBUT1.out.size; simp; omega
        · exact But.appended ((HS.out.1.but.trans HBUT1.out).trans (But.of_below ((Below.refl _ _).alloc (Nat.le_refl _) _))) hA HFAR.out
      case measure =>
        obtain ⟨A1, c1, rfl, _⟩ := HS.out.1.own.slice
        obtain ⟨g, cap, rfl, _⟩ := hA
        have := HLN.out
        simp [lenOf]; omega
set_option maxHeartbeats 4000000 in
theorem take_ofName (w : World) (r : Nat) (l : Bs) (p : Pl) (h : RdS w r l p) (hp : OkP l p) :
    Calls Tryz.prog 111 #[.pointer (some ⟨r, 0, none⟩), .func (.func 117) #[.pointer (some ⟨r, 0, none⟩)] #[]] w fun e w' => TakeP r (l.takeWhile ofNm) (l.dropWhile ofNm) p w e w' := by
  have HP := Lib.hid hp
  have hrl : r < w.heap.size := Blk.lt h
  have HS0 := Lib.hid (show TkSt w r l p (.slice none 0 0) [] l w from ⟨rfl, h, EOwn.nil_ w, fun i hi => by simp [Value.ownBlock] at hi, But.refl r w⟩)
  have HRL := Lib.hid hrl
  clear h hp hrl
  go_enter Tryz.func111, Tryz.ntmps111
  go_wp2_with fail
  go_loopw [5] (fun v wr => ∃ a k, Hid (TkSt w r l p v a k wr ∧ a ++ k.takeWhile ofNm = l.takeWhile ofNm ∧ k.dropWhile ofNm = l.dropWhile ofNm)) (fun v _ => 600 - lenOf v)
  case atStart => exact ⟨[], l, Lib.hid ⟨HS0.out, rfl, rfl⟩⟩
  case round =>
    rename_i v wr
    obtain ⟨a, k, HS⟩ := hrel
    have HB := Lib.hid (ofName_any wr r k (advs p a) HS.out.1.rd)
    cases hon : on ofNm k with
    | false =>
      rw [hon] at HB
      obtain ⟨e1, e2⟩ := span_off hon
      clear hon
      have HA := Lib.hid (show l.takeWhile ofNm = a by have := HS.out.2.1; rw [e1, List.append_nil] at this; exact this.symm)
      have HD := Lib.hid (show l.dropWhile ofNm = k by have := HS.out.2.2; rw [e2] at this; exact this.symm)
      clear e1 e2
      have hcv := convert_own HS.out.1.own 92 (by kernel_rfl) 9 (by kernel_rfl)
      go_wp2_with ((go_at_call 117; refine HB.out.mono ?_; rintro e w9 ⟨rfl, hw9⟩; subst hw9))
      go_ret
      unfold TakeP
      rw [HA.out, HD.out]
      exact ⟨rfl, HS.out.1.rd, HS.out.1.but⟩
    | true =>
      rw [hon] at HB
      obtain ⟨c, k', rfl, hc⟩ := span_on hon
      clear hon
      have HPK := Lib.hid (show OkP (c :: k') (advs p a) by have := HP.out; rw [HS.out.1.eq] at this; exact OkP.steps this)
      have HST := Lib.hid (step_any wr r c k' (advs p a) HS.out.1.rd HPK.out)
      have HT := Lib.hid (show a ++ [c] ++ k'.takeWhile ofNm = l.takeWhile ofNm by have := HS.out.2.1; rw [List.takeWhile_cons_of_pos hc] at this; rw [List.append_assoc]; exact this)
      have HD := Lib.hid (show k'.dropWhile ofNm = l.dropWhile ofNm by have := HS.out.2.2; rw [List.dropWhile_cons_of_pos hc] at this; exact this)
      unfold StepP at HST
      have hcv : (c.toNat : Int) < 256 := by have := c.toNat_lt; omega
      have HLN := Lib.hid (show a.length < 512 by have := HP.out.1; rw [HS.out.1.eq] at this; simp at this; omega)
      go_wp2_with fail
      refine HB.out.mono ?_
      rintro e w9 ⟨rfl, hw9⟩
      subst hw9
      go_wp2_with fail
      refine HST.out.mono ?_
      rintro e w1 ⟨rfl, hrd1, hbut1⟩
      have HRD1 := Lib.hid hrd1
      have HBUT1 := Lib.hid hbut1
      have HOW1 := Lib.hid (HS.out.1.own.but hbut1 (fun i hi => by have := HS.out.1.far i hi; have := HRL.out; omega))
      have HFAR := Lib.hid HS.out.1.far
      have HLT1 := Lib.hid (fun i hi => HOW1.out.lt (i := i) hi)
      clear hrd1 hbut1
      go_wp2_with ((at_builtin; refine wpList_epush elB_ok rfl _ _ 92 rfl (by kernel_rfl) _ a c w1.heap.size 1 rfl rfl (HOW1.out.below ((Below.refl _ _).alloc (Nat.le_refl _) _)) (fun j u hu => by (have hj : j = 0 := by (have := (List.getElem?_eq_some_iff.1 hu).1; simp [elB] at this; omega)); subst hj; simp [elB] at hu; subst hu; exact new_cell w1 _ _ 0 rfl) (by have := HLN.out; omega) ?_; intro v' w2 hA))
      go_roundw
      case rel =>
        refine ⟨a ++ [c], k', Lib.hid ⟨⟨?_, ?_, hA.own, ?_, ?_⟩, HT.out, HD.out⟩⟩
        · rw [HS.out.1.eq]; simp
        · have hra := HRD1.out.below ((Below.refl w1.heap.size w1).alloc (Nat.le_refl _) (.cells #[.int .u8 (c.toNat : Int)] 5))
          rw [advs_app]
          exact (hA.keep (Blk.lt hra) (fun e => by have := HFAR.out _ e; have := HRL.out; omega)).trans hra
        · refine hA.far ?_ HFAR.out
          have := HS.out.1.but.size; have := HBUT1.out.size; simp; omega
        · exact But.appended ((HS.out.1.but.trans HBUT1.out).trans (But.of_below ((Below.refl _ _).alloc (Nat.le_refl _) _))) hA HFAR.out
      case measure =>
        obtain ⟨A1, c1, rfl, _⟩ := HS.out.1.own.slice
        obtain ⟨g, cap, rfl, _⟩ := hA
        have := HLN.out
        simp [lenOf]; omega
set_option maxHeartbeats 4000000 in
theorem take_digit (w : World) (r : Nat) (l : Bs) (p : Pl) (h : RdS w r l p) (hp : OkP l p) :
    Calls Tryz.prog 111 #[.pointer (some ⟨r, 0, none⟩), .func (.func 118) #[.pointer (some ⟨r, 0, none⟩)] #[]] w fun e w' => TakeP r (l.takeWhile isDg) (l.dropWhile isDg) p w e w' := by
  have HP := Lib.hid hp
  have hrl : r < w.heap.size := Blk.lt h
  have HS0 := Lib.hid (show TkSt w r l p (.slice none 0 0) [] l w from ⟨rfl, h, EOwn.nil_ w, fun i hi => by simp [Value.ownBlock] at hi, But.refl r w⟩)
  have HRL := Lib.hid hrl
  clear h hp hrl
  go_enter Tryz.func111, Tryz.ntmps111
  go_wp2_with fail
  go_loopw [5] (fun v wr => ∃ a k, Hid (TkSt w r l p v a k wr ∧ a ++ k.takeWhile isDg = l.takeWhile isDg ∧ k.dropWhile isDg = l.dropWhile isDg)) (fun v _ => 600 - lenOf v)
  case atStart => exact ⟨[], l, Lib.hid ⟨HS0.out, rfl, rfl⟩⟩
  case round =>
    rename_i v wr
    obtain ⟨a, k, HS⟩ := hrel
    have HB := Lib.hid (digit_any wr r k (advs p a) HS.out.1.rd)
    cases hon : on isDg k with
    | false =>
      rw [hon] at HB
      obtain ⟨e1, e2⟩ := span_off hon
      clear hon
      have HA := Lib.hid (show l.takeWhile isDg = a by have := HS.out.2.1; rw [e1, List.append_nil] at this; exact this.symm)
      have HD := Lib.hid (show l.dropWhile isDg = k by have := HS.out.2.2; rw [e2] at this; exact this.symm)
      clear e1 e2
      have hcv := convert_own HS.out.1.own 92 (by kernel_rfl) 9 (by kernel_rfl)
      go_wp2_with ((go_at_call 118; refine HB.out.mono ?_; rintro e w9 ⟨rfl, hw9⟩; subst hw9))
      go_ret
      unfold TakeP
      rw [HA.out, HD.out]
      exact ⟨rfl, HS.out.1.rd, HS.out.1.but⟩
    | true =>
      rw [hon] at HB
      obtain ⟨c, k', rfl, hc⟩ := span_on hon
      clear hon
      have HPK := Lib.hid (show OkP (c :: k') (advs p a) by have := HP.out; rw [HS.out.1.eq] at this; exact OkP.steps this)
      have HST := Lib.hid (step_any wr r c k' (advs p a) HS.out.1.rd HPK.out)
      have HT := Lib.hid (show a ++ [c] ++ k'.takeWhile isDg = l.takeWhile isDg by have := HS.out.2.1; rw [List.takeWhile_cons_of_pos hc] at this; rw [List.append_assoc]; exact this)
      have HD := Lib.hid (show k'.dropWhile isDg = l.dropWhile isDg by have := HS.out.2.2; rw [List.dropWhile_cons_of_pos hc] at this; exact this)
      unfold StepP at HST
      have hcv : (c.toNat : Int) < 256 := by have := c.toNat_lt; omega
      have HLN := Lib.hid (show a.length < 512 by have := HP.out.1; rw [HS.out.1.eq] at this; simp at this; omega)
      go_wp2_with fail
      refine HB.out.mono ?_
      rintro e w9 ⟨rfl, hw9⟩
      subst hw9
      go_wp2_with fail
      refine HST.out.mono ?_
      rintro e w1 ⟨rfl, hrd1, hbut1⟩
      have HRD1 := Lib.hid hrd1
      have HBUT1 := Lib.hid hbut1
      have HOW1 := Lib.hid (HS.out.1.own.but hbut1 (fun i hi => by have := HS.out.1.far i hi; have := HRL.out; omega))
      have HFAR := Lib.hid HS.out.1.far
      have HLT1 := Lib.hid (fun i hi => HOW1.out.lt (i := i) hi)
      clear hrd1 hbut1
      go_wp2_with ((at_builtin; refine wpList_epush elB_ok rfl _ _ 92 rfl (by kernel_rfl) _ a c w1.heap.size 1 rfl rfl (HOW1.out.below ((Below.refl _ _).alloc (Nat.le_refl _) _)) (fun j u hu => by (have hj : j = 0 := by (have := (List.getElem?_eq_some_iff.1 hu).1; simp [elB] at this; omega)); subst hj; simp [elB] at hu; subst hu; exact new_cell w1 _ _ 0 rfl) (by have := HLN.out; omega) ?_; intro v' w2 hA))
      go_roundw
      case rel =>
        refine ⟨a ++ [c], k', Lib.hid ⟨⟨?_, ?_, hA.own, ?_, ?_⟩, HT.out, HD.out⟩⟩
        · rw [HS.out.1.eq]; simp
        · have hra := HRD1.out.below ((Below.refl w1.heap.size w1).alloc (Nat.le_refl _) (.cells #[.int .u8 (c.toNat : Int)] 5))
          rw [advs_app]
          exact (hA.keep (Blk.lt hra) (fun e => by have := HFAR.out _ e; have := HRL.out; omega)).trans hra
        · refine hA.far ?_ HFAR.out
          have := HS.out.1.but.size; have := HBUT1.out.size; simp; omega
        · exact But.appended ((HS.out.1.but.trans HBUT1.out).trans (But.of_below ((Below.refl _ _).alloc (Nat.le_refl _) _))) hA HFAR.out
      case measure =>
        obtain ⟨A1, c1, rfl, _⟩ := HS.out.1.own.slice
        obtain ⟨g, cap, rfl, _⟩ := hA
        have := HLN.out
        simp [lenOf]; omega
end
section
set_option linter.unusedVariables false
set_option linter.unusedSimpArgs false
open Go.RowKit
def leftN (r : Nat) (w : World) : Nat := match w.cell? ⟨r, 0, none⟩ with
  | some (.string s) => s.size
  | _ => 0
theorem leftN_of {w : World} {r : Nat} {l : Bs} {p : Pl} (h : RdS w r l p) : leftN r w = l.length := by
  have k0 : _ = some (Value.string (bs l)) := Blk.cell h 0
  unfold leftN
  rw [k0]
  exact bs_size l
theorem okp_take {f : UInt8 → Bool} {l : Bs} {p : Pl} (h : OkP l p) : OkP (l.dropWhile f) (advs p (l.takeWhile f)) := by
  refine OkP.steps (a := l.takeWhile f) ?_
  rw [List.takeWhile_append_dropWhile]; exact h
def SkipP (r : Nat) (l : Bs) (p : Pl) (w : World) (e : Ending) (w' : World) : Prop :=
  e = .returned (.tuple #[]) ∧ RdS w' r (skp false l p).1 (skp false l p).2 ∧ But r w w' ∧ OkP (skp false l p).1 (skp false l p).2
structure SkSt (w0 : World) (r : Nat) (l0 : Bs) (p0 : Pl) (k : Bs) (q : Pl) (W : World) : Prop where
  rd : RdS W r k q
  but : But r w0 W
  ok : OkP k q
  off : on isBl k = false
  same : skp false k q = skp false l0 p0
set_option maxHeartbeats 4000000 in
theorem skip_any (w : World) (r : Nat) (l : Bs) (p : Pl) (h : RdS w r l p) (hp : OkP l p) :
    Calls Tryz.prog 82 #[.pointer (some ⟨r, 0, none⟩)] w fun e w' => SkipP r l p w e w' := by
  have HT0 := Lib.hid (take_blank w r l p h hp)
  have HP := Lib.hid hp
  clear h hp
  unfold TakeP at HT0
  go_enter Tryz.func82, Tryz.ntmps82
  go_wp2_with fail
  refine HT0.out.mono ?_
  rintro e w1 ⟨rfl, hrd, hbut⟩
  have HS0 := Lib.hid (show SkSt w r l p (l.dropWhile isBl) (advs p (l.takeWhile isBl)) w1 from ⟨hrd, hbut, okp_take HP.out, on_drop _ _, (skp_bl l p).symm⟩)
  clear hrd hbut
  go_wp2_with fail
  go_loopw [] (fun wr => ∃ k q, Hid (SkSt w r l p k q wr)) (fun wr => leftN r wr)
  case atStart => exact ⟨_, _, HS0⟩
  case round =>
    rename_i wr
    obtain ⟨k, q, HS⟩ := hrel
    have HN := Lib.hid (next_any wr r k q HS.out.rd)
    cases hn : (nx k == 35) with
    | false =>
      have HE := Lib.hid (show skp false l p = (k, q) by rw [← HS.out.same]; exact skp_stop q HS.out.off (by simpa using hn))
      go_wp2_with ((go_at_call 113; refine HN.out.mono ?_; rintro e w9 ⟨rfl, hw9⟩; subst hw9))
      go_end0
      unfold SkipP
      rw [HE.out]
      exact ⟨rfl, HS.out.rd, HS.out.but, HS.out.ok⟩
    | true =>
      have HNX := Lib.hid (show nx k = 35 by simpa using hn)
      have HT1 := Lib.hid (take_ofLine wr r k q HS.out.rd HS.out.ok)
      unfold TakeP at HT1
      go_wp2_with fail
      refine HN.out.mono ?_
      rintro e w9 ⟨rfl, hw9⟩
      subst hw9
      go_wp2_with fail
      refine HT1.out.mono ?_
      rintro e w2 ⟨rfl, hrd2, hbut2⟩
      have HO2 := Lib.hid (okp_take (f := ofLn) HS.out.ok)
      have HT2 := Lib.hid (take_blank w2 r _ _ hrd2 HO2.out)
      have HB2 := Lib.hid hbut2
      clear hrd2 hbut2
      unfold TakeP at HT2
      go_wp2_with fail
      refine HT2.out.mono ?_
      rintro e w3 ⟨rfl, hrd3, hbut3⟩
      have HRD3 := Lib.hid hrd3
      have HB3 := Lib.hid hbut3
      clear hrd3 hbut3
      go_wp2_with fail
      go_roundw
      case rel => exact ⟨_, _, Lib.hid ⟨HRD3.out, (HS.out.but.trans HB2.out).trans HB3.out, okp_take HO2.out, on_drop _ _, by rw [← skp_bl, ← skp_rem _ HNX.out]; exact HS.out.same⟩⟩
      case measure =>
        rw [leftN_of HRD3.out, leftN_of HS.out.rd]
        have h1 : on ofLn k = true := by
          have := HNX.out
          cases k with
          | nil => simp [nx] at this
          | cons c k => simp [nx] at this; simp [on, ofLn]; omega
        have h2 := dropWhile_lt h1
        have h3 := (List.dropWhile_suffix isBl (l := k.dropWhile ofLn)).length_le
        omega
end
end Go.Proofs.YtkpmeelbjldcoaaGreatDoor
