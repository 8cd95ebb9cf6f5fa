/- lex: what the document says, on lists of bytes. -/
import Derived.Test.YtimfcgnnfgoaaaaBlk
namespace Go.Proofs.Ytimfcgnnfgoaaaa
set_option linter.unusedVariables false
set_option linter.unusedSimpArgs false
open Go.RowKit
abbrev Bs := List UInt8
def bs (l : Bs) : ByteArray := ⟨l.toArray⟩
theorem bs_size (l : Bs) : (bs l).size = l.length := by simp [bs, ByteArray.size]
theorem bs_self (s : ByteArray) : bs s.data.toList = s := by cases s; simp [bs]
theorem bs_inj {a b : Bs} (h : bs a = bs b) : a = b := by simpa [bs] using h
def isLet (c : UInt8) : Bool := decide (97 ≤ c.toNat) && decide (c.toNat ≤ 122)
def isDg (c : UInt8) : Bool := decide (48 ≤ c.toNat) && decide (c.toNat ≤ 57)
def ofNm (c : UInt8) : Bool := isLet c || isDg c || c.toNat == 45
def isBl (c : UInt8) : Bool := c.toNat == 32 || c.toNat == 10
def ofLn (c : UInt8) : Bool := !(c.toNat == 10)
abbrev Pl := Int × Int
def adv (p : Pl) (c : UInt8) : Pl := if c.toNat = 10 then (p.1 + 1, 1) else (p.1, p.2 + 1)
def advs (p : Pl) (l : Bs) : Pl := l.foldl adv p
theorem advs_app (p : Pl) (a b : Bs) : advs p (a ++ b) = advs (advs p a) b := List.foldl_append
/-- What is next: -1: nothing. -/
def nx : Bs → Int
  | [] => -1
  | c :: _ => (c.toNat : Int)
def on (f : UInt8 → Bool) : Bs → Bool
  | [] => false
  | c :: _ => f c
/-- Behind blanks and remarks; the flag: within a remark. -/
def skp : Bool → Bs → Pl → Bs × Pl
  | _, [], p => ([], p)
  | b, c :: l, p => if (b || isBl c || c.toNat == 35) = true then skp ((b || c.toNat == 35) && !(c.toNat == 10)) l (adv p c) else (c :: l, p)
/-- What a place may be. -/
def OkP (l : Bs) (p : Pl) : Prop := l.length ≤ 512 ∧ 1 ≤ p.1 ∧ p.1 + l.length ≤ 1000 ∧ 1 ≤ p.2 ∧ p.2 + l.length ≤ 1000
theorem OkP.step {c : UInt8} {l : Bs} {p : Pl} (h : OkP (c :: l) p) : OkP l (adv p c) := by
  unfold OkP at *
  simp only [List.length_cons] at h
  unfold adv
  split <;> simp only <;> omega
theorem OkP.steps {a l : Bs} : ∀ {p : Pl}, OkP (a ++ l) p → OkP l (advs p a) := by
  induction a with
  | nil => intro p h; exact h
  | cons c a ih => intro p h; exact ih (OkP.step h)
theorem skp_take (f : UInt8 → Bool) (b : Bool) (hf : ∀ c, f c = true → (b || isBl c || c.toNat == 35) = true ∧ ((b || c.toNat == 35) && !(c.toNat == 10)) = b) : ∀ (l : Bs) (p : Pl), skp b l p = skp b (l.dropWhile f) (advs p (l.takeWhile f)) := by
  intro l
  induction l with
  | nil => intro p; rfl
  | cons c l ih =>
    intro p
    by_cases h : f c = true
    · obtain ⟨h1, h2⟩ := hf c h
      rw [List.dropWhile_cons_of_pos h, List.takeWhile_cons_of_pos h, skp, if_pos h1, h2, ih]
      rfl
    · rw [List.dropWhile_cons_of_neg h, List.takeWhile_cons_of_neg h]
      rfl
theorem skp_bl (l : Bs) (p : Pl) : skp false l p = skp false (l.dropWhile isBl) (advs p (l.takeWhile isBl)) := by
  refine skp_take isBl false (fun c h => ⟨by simp [h], ?_⟩) l p
  have : ¬ c.toNat = 35 := by
    intro e; simp [isBl, e] at h
  simp [this]
theorem skp_ln (l : Bs) (p : Pl) : skp true l p = skp true (l.dropWhile ofLn) (advs p (l.takeWhile ofLn)) :=
  skp_take ofLn true (fun c h => ⟨by simp, by simpa [ofLn] using h⟩) l p
theorem skp_end (l : Bs) (p : Pl) (h : on ofLn l = false) : skp true l p = skp false l p := by
  cases l with
  | nil => rfl
  | cons c l =>
    have hc : c.toNat = 10 := by simpa [on, ofLn] using h
    rw [skp, skp]
    simp [hc, isBl]
theorem on_drop (f : UInt8 → Bool) (l : Bs) : on f (l.dropWhile f) = false := by
  induction l with
  | nil => rfl
  | cons c l ih =>
    by_cases h : f c = true
    · rw [List.dropWhile_cons_of_pos h]; exact ih
    · rw [List.dropWhile_cons_of_neg h]; simpa [on] using h
/-- A remark: its `#`, and the bytes of its line. -/
theorem skp_rem {l : Bs} (p : Pl) (h : nx l = 35) : skp false l p = skp false (l.dropWhile ofLn) (advs p (l.takeWhile ofLn)) := by
  cases l with
  | nil => simp [nx] at h
  | cons c l =>
    have hc : c.toNat = 35 := by simp [nx] at h; omega
    have e : skp false (c :: l) p = skp true (c :: l) p := by
      rw [skp, skp]
      simp [hc]
    rw [e, skp_ln, skp_end _ _ (on_drop ofLn _)]
theorem skp_stop {l : Bs} (p : Pl) (h1 : on isBl l = false) (h2 : nx l ≠ 35) : skp false l p = (l, p) := by
  cases l with
  | nil => rfl
  | cons c l =>
    have hb : isBl c = false := h1
    have hc : ¬ c.toNat = 35 := fun e => h2 (by simp [nx, e])
    rw [skp]
    simp [hb, hc]
theorem dropWhile_lt {f : UInt8 → Bool} {l : Bs} (h : on f l = true) : (l.dropWhile f).length < l.length := by
  cases l with
  | nil => cases h
  | cons c l =>
    have hc : f c = true := h
    rw [List.dropWhile_cons_of_pos hc]
    have := (List.dropWhile_suffix f (l := l)).length_le
    simp only [List.length_cons]; omega
end Go.Proofs.Ytimfcgnnfgoaaaa
