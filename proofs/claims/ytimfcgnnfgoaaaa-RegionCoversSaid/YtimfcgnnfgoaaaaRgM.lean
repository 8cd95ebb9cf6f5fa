/- region: runs, bands, forms, scans, edges and areas, plainly. -/
import Derived.Test.YtimfcgnnfgoaaaaWords
namespace Go.Proofs.Ytimfcgnnfgoaaaa
set_option linter.unusedVariables false
set_option linter.unusedSimpArgs false
structure Bx where
  x0 : Int
  y0 : Int
  x1 : Int
  y1 : Int
structure Rn where
  f : Int
  t : Int
structure Bd where
  f : Int
  t : Int
  R : List Rn
/-- A number is in one of the runs. -/
def inR (x : Int) (L : List Rn) : Prop := ∃ r ∈ L, r.f ≤ x ∧ x ≤ r.t
/-- The runs of a set of numbers. -/
structure Runs (s : Int → Prop) (L : List Rn) : Prop where
  le : ∀ r ∈ L, r.f ≤ r.t
  ap : L.Pairwise fun a b => a.t + 1 < b.f
  iff : ∀ x, s x ↔ inR x L
theorem Runs.congr {s t : Int → Prop} {L : List Rn} (h : Runs s L) (e : ∀ x, s x ↔ t x) : Runs t L := ⟨h.le, h.ap, fun x => (e x).symm.trans (h.iff x)⟩
theorem Runs.nil {s : Int → Prop} (h : ∀ x, ¬ s x) : Runs s [] := ⟨by simp, List.Pairwise.nil, fun x => by simp [inR, h x]⟩
theorem Runs.head {s : Int → Prop} {a : Rn} {L : List Rn} (h : Runs s (a :: L)) : s a.f := (h.iff _).2 ⟨a, by simp, Int.le_refl _, h.le a (by simp)⟩
theorem Runs.least {s : Int → Prop} {a : Rn} {L : List Rn} (h : Runs s (a :: L)) {x : Int} (hx : s x) : a.f ≤ x := by
  obtain ⟨r, hr, h1, h2⟩ := (h.iff x).1 hx
  rcases List.mem_cons.1 hr with rfl | hr
  · exact h1
  · have := (List.pairwise_cons.1 h.ap).1 r hr
    have := h.le a (by simp)
    omega
theorem Runs.first {s : Int → Prop} {a : Rn} {L : List Rn} (h : Runs s (a :: L)) {x : Int} (h1 : a.f ≤ x) (h2 : x ≤ a.t) : s x := (h.iff _).2 ⟨a, by simp, h1, h2⟩
theorem Runs.gap {s : Int → Prop} {a : Rn} {L : List Rn} (h : Runs s (a :: L)) : ¬ s (a.t + 1) := by
  intro hx
  obtain ⟨r, hr, h1, h2⟩ := (h.iff _).1 hx
  rcases List.mem_cons.1 hr with rfl | hr
  · omega
  · have := (List.pairwise_cons.1 h.ap).1 r hr
    omega
theorem Runs.tail {s : Int → Prop} {a : Rn} {L : List Rn} (h : Runs s (a :: L)) : Runs (fun x => s x ∧ a.t < x) L := by
  refine ⟨fun r hr => h.le r (by simp [hr]), (List.pairwise_cons.1 h.ap).2, fun x => ⟨fun ⟨hx, hlt⟩ => ?_, fun ⟨r, hr, h1, h2⟩ => ⟨(h.iff x).2 ⟨r, by simp [hr], h1, h2⟩, ?_⟩⟩⟩
  · obtain ⟨r, hr, h1, h2⟩ := (h.iff x).1 hx
    rcases List.mem_cons.1 hr with rfl | hr
    · omega
    · exact ⟨r, hr, h1, h2⟩
  · have := (List.pairwise_cons.1 h.ap).1 r hr
    omega
theorem Runs.uniq {s : Int → Prop} {L M : List Rn} (h : Runs s L) (k : Runs s M) : L = M := by
  induction L generalizing s M with
  | nil =>
    cases M with
    | nil => rfl
    | cons b M => have := (h.iff _).1 k.head; simp [inR] at this
  | cons a L ih =>
    cases M with
    | nil => have := (k.iff _).1 h.head; simp [inR] at this
    | cons b M =>
      have e1 : a.f = b.f := by
        have h1 := h.least k.head
        have h2 := k.least h.head
        omega
      have e2 : a.t = b.t := by
        have l1 := h.le a (by simp)
        have l2 := k.le b (by simp)
        rcases Int.lt_trichotomy a.t b.t with h1 | h1 | h1
        · exact absurd (k.first (x := a.t + 1) (by omega) (by omega)) h.gap
        · exact h1
        · exact absurd (h.first (x := b.t + 1) (by omega) (by omega)) k.gap
      have e : a = b := by cases a; cases b; simp_all
      subst e
      rw [ih h.tail k.tail]
/-- A run put behind others. -/
def followN (L : List Rn) (r : Rn) : List Rn :=
  match L.getLast? with
  | none => [r]
  | some l => if l.t = r.f - 1 then L.dropLast ++ [⟨l.f, r.t⟩] else L ++ [r]
theorem followN_nil (r : Rn) : followN [] r = [r] := rfl
theorem followN_snoc (M : List Rn) (l r : Rn) : followN (M ++ [l]) r = if l.t = r.f - 1 then M ++ [⟨l.f, r.t⟩] else M ++ [l] ++ [r] := by
  unfold followN
  rw [List.getLast?_append]
  simp
theorem followN_len (L : List Rn) (r : Rn) : (followN L r).length ≤ L.length + 1 := by
  rcases List.eq_nil_or_concat L with rfl | ⟨M, l, rfl⟩
  · simp [followN]
  · rw [List.concat_eq_append, followN_snoc]
    split <;> simp
theorem Runs.follow {s : Int → Prop} {L : List Rn} {x z : Int} (h : Runs (fun u => u < x ∧ s u) L) (hz : x < z) (hs : ∀ u, x ≤ u → u < z → s u) : Runs (fun u => u < z ∧ s u) (followN L ⟨x, z - 1⟩) := by
  rcases List.eq_nil_or_concat L with rfl | ⟨M, l, rfl⟩
  · rw [followN_nil]
    refine ⟨fun r hr => ?_, List.pairwise_singleton _ _, fun u => ⟨fun ⟨h1, h2⟩ => ?_, fun ⟨r, hr, h1, h2⟩ => ?_⟩⟩
    · simp at hr; subst hr; simp; omega
    · have : ¬ u < x := fun h3 => by have := (h.iff u).1 ⟨h3, h2⟩; simp [inR] at this
      exact ⟨⟨x, z - 1⟩, by simp, by simp; omega, by simp; omega⟩
    · simp at hr; subst hr
      simp at h1 h2
      exact ⟨by omega, hs u h1 (by omega)⟩
  · rw [List.concat_eq_append] at h ⊢
    have hap := h.ap
    rw [List.pairwise_append] at hap
    obtain ⟨ap1, -, ap2⟩ := hap
    have hl := h.le l (by simp)
    have hlt : l.t < x := ((h.iff l.t).2 ⟨l, by simp, hl, Int.le_refl _⟩).1
    have hM : ∀ r ∈ M, r.t + 1 < l.f := fun r hr => ap2 r hr l (by simp)
    rw [followN_snoc]
    split
    · rename_i e
      simp at e
      refine ⟨fun r hr => ?_, ?_, fun u => ⟨fun ⟨h1, h2⟩ => ?_, fun ⟨r, hr, h1, h2⟩ => ?_⟩⟩
      · rcases List.mem_append.1 hr with hr | hr
        · exact h.le r (by simp [hr])
        · simp at hr; subst hr; simp; omega
      · rw [List.pairwise_append]
        exact ⟨ap1, by simp, fun a ha b hb => by simp at hb; subst hb; exact hM a ha⟩
      · by_cases hu : u < x
        · obtain ⟨r, hr, h3, h4⟩ := (h.iff u).1 ⟨hu, h2⟩
          rcases List.mem_append.1 hr with hr | hr
          · exact ⟨r, by simp [hr], h3, h4⟩
          · simp at hr; subst hr
            exact ⟨⟨r.f, z - 1⟩, by simp, h3, by simp; omega⟩
        · exact ⟨⟨l.f, z - 1⟩, by simp, by simp; omega, by simp; omega⟩
      · rcases List.mem_append.1 hr with hr | hr
        · obtain ⟨h3, h4⟩ := (h.iff u).2 ⟨r, by simp [hr], h1, h2⟩
          exact ⟨by omega, h4⟩
        · simp at hr; subst hr
          simp at h1 h2
          by_cases hu : u < x
          · obtain ⟨h3, h4⟩ := (h.iff u).2 ⟨l, by simp, h1, by omega⟩
            exact ⟨by omega, h4⟩
          · exact ⟨by omega, hs u (by omega) (by omega)⟩
    · rename_i e
      simp at e
      refine ⟨fun r hr => ?_, ?_, fun u => ⟨fun ⟨h1, h2⟩ => ?_, fun ⟨r, hr, h1, h2⟩ => ?_⟩⟩
      · rcases List.mem_append.1 hr with hr | hr
        · exact h.le r hr
        · simp at hr; subst hr; simp; omega
      · rw [List.pairwise_append]
        refine ⟨h.ap, by simp, fun a ha b hb => ?_⟩
        simp at hb; subst hb
        rcases List.mem_append.1 ha with ha | ha
        · have := hM a ha; simp; omega
        · simp at ha; subst ha; simp; omega
      · by_cases hu : u < x
        · obtain ⟨r, hr, h3, h4⟩ := (h.iff u).1 ⟨hu, h2⟩
          exact ⟨r, by simp only [List.mem_append] at hr ⊢; exact .inl hr, h3, h4⟩
        · exact ⟨⟨x, z - 1⟩, by simp, by simp; omega, by simp; omega⟩
      · rcases List.mem_append.1 hr with hr | hr
        · obtain ⟨h3, h4⟩ := (h.iff u).2 ⟨r, hr, h1, h2⟩
          exact ⟨by omega, h4⟩
        · simp at hr; subst hr
          simp at h1 h2
          exact ⟨by omega, hs u h1 (by omega)⟩
theorem Runs.skip {s : Int → Prop} {L : List Rn} {x z : Int} (h : Runs (fun u => u < x ∧ s u) L) (hz : x ≤ z) (hs : ∀ u, x ≤ u → u < z → ¬ s u) : Runs (fun u => u < z ∧ s u) L :=
  h.congr fun u => ⟨fun ⟨h1, h2⟩ => ⟨by omega, h2⟩, fun ⟨h1, h2⟩ => ⟨by
    rcases Int.lt_or_le u x with h3 | h3
    · exact h3
    · exact absurd h2 (hs u h3 h1), h2⟩⟩
/-- The last run is over right ahead of x just if the number ahead of x is in the set. -/
theorem Runs.last {s : Int → Prop} {M : List Rn} {l : Rn} {x : Int} (h : Runs (fun u => u < x ∧ s u) (M ++ [l])) : l.t = x - 1 ↔ s (x - 1) := by
  have hl := h.le l (by simp)
  have hlt := (h.iff l.t).2 ⟨l, by simp, hl, Int.le_refl _⟩
  refine ⟨fun e => e ▸ hlt.2, fun hs => ?_⟩
  obtain ⟨r, hr, h1, h2⟩ := (h.iff (x - 1)).1 ⟨by omega, hs⟩
  have h3 := hlt.1
  rcases List.mem_append.1 hr with hr | hr
  · have := (List.pairwise_append.1 h.ap).2.2 r hr l (by simp)
    omega
  · simp at hr; subst hr; omega
/-- Bands of a set of points: rows one after another that have the same runs, as many as there are. -/
structure Bands (S : Int → Int → Prop) (L : List Bd) : Prop where
  le : ∀ b ∈ L, b.f ≤ b.t
  ne : ∀ b ∈ L, b.R ≠ []
  rn : ∀ b ∈ L, ∀ y, b.f ≤ y → y ≤ b.t → Runs (fun x => S x y) b.R
  ap : L.Pairwise fun b c => b.t < c.f ∧ (b.t + 1 = c.f → b.R ≠ c.R)
  cov : ∀ x y, S x y → ∃ b ∈ L, b.f ≤ y ∧ y ≤ b.t
section
variable {S : Int → Int → Prop} {b c : Bd} {L M : List Bd}
theorem Bands.some_ (h : Bands S L) (hb : b ∈ L) {y : Int} (h1 : b.f ≤ y) (h2 : y ≤ b.t) : ∃ x, S x y := by
  have h3 := h.rn b hb y h1 h2
  have h4 := h.ne b hb
  cases hR : b.R with
  | nil => exact absurd hR h4
  | cons a R => rw [hR] at h3; exact ⟨a.f, h3.head⟩
theorem Bands.least (h : Bands S (b :: L)) {x y : Int} (hx : S x y) : b.f ≤ y := by
  obtain ⟨r, hr, h1, h2⟩ := h.cov x y hx
  rcases List.mem_cons.1 hr with rfl | hr
  · exact h1
  · have := ((List.pairwise_cons.1 h.ap).1 r hr).1
    have := h.le b (by simp)
    omega
theorem Bands.tail (h : Bands S (b :: L)) : Bands (fun x y => S x y ∧ b.t < y) L := by
  refine ⟨fun r hr => h.le r (by simp [hr]), fun r hr => h.ne r (by simp [hr]), fun r hr y h1 h2 => (h.rn r (by simp [hr]) y h1 h2).congr fun x => ⟨fun h3 => ⟨h3, ?_⟩, fun h3 => h3.1⟩, (List.pairwise_cons.1 h.ap).2, fun x y ⟨h1, h2⟩ => ?_⟩
  · have := ((List.pairwise_cons.1 h.ap).1 r hr).1
    omega
  · obtain ⟨r, hr, h3, h4⟩ := h.cov x y h1
    rcases List.mem_cons.1 hr with rfl | hr
    · omega
    · exact ⟨r, hr, h3, h4⟩
theorem Bands.over (h : Bands S (b :: L)) (k : Bands S (c :: M)) (hf : b.f = c.f) (hR : b.R = c.R) : c.t ≤ b.t := by
  rcases Int.lt_or_le b.t c.t with hlt | hle
  · exfalso
    have l1 := h.le b (by simp)
    obtain ⟨x, hx⟩ := k.some_ (b := c) (by simp) (y := b.t + 1) (by omega) (by omega)
    obtain ⟨r, hr, h1, h2⟩ := h.cov x _ hx
    rcases List.mem_cons.1 hr with rfl | hr
    · omega
    · obtain ⟨h3, h4⟩ := (List.pairwise_cons.1 h.ap).1 r hr
      have h5 := h.rn r (by simp [hr]) (b.t + 1) h1 h2
      have h6 := k.rn c (by simp) (b.t + 1) (by omega) (by omega)
      exact h4 (by omega) (hR.trans (h6.uniq h5))
  · exact hle
theorem Bands.uniq (h : Bands S L) (k : Bands S M) : L = M := by
  induction L generalizing S M with
  | nil =>
    cases M with
    | nil => rfl
    | cons c M =>
      obtain ⟨x, hx⟩ := k.some_ (b := c) (by simp) (Int.le_refl _) (k.le c (by simp))
      obtain ⟨r, hr, _⟩ := h.cov x _ hx
      simp at hr
  | cons b L ih =>
    cases M with
    | nil =>
      obtain ⟨x, hx⟩ := h.some_ (b := b) (by simp) (Int.le_refl _) (h.le b (by simp))
      obtain ⟨r, hr, _⟩ := k.cov x _ hx
      simp at hr
    | cons c M =>
      have lb := h.le b (by simp)
      have lc := k.le c (by simp)
      have e1 : b.f = c.f := by
        obtain ⟨x, hx⟩ := h.some_ (b := b) (by simp) (Int.le_refl _) lb
        obtain ⟨z, hz⟩ := k.some_ (b := c) (by simp) (Int.le_refl _) lc
        have h1 := h.least hz
        have h2 := k.least hx
        omega
      have e2 : b.R = c.R := (h.rn b (by simp) b.f (Int.le_refl _) lb).uniq (k.rn c (by simp) b.f (by omega) (by omega))
      have e3 : b.t = c.t := by
        have h1 := h.over k e1 e2
        have h2 := k.over h e1.symm e2.symm
        omega
      have e : b = c := by cases b; cases c; simp_all
      subst e
      rw [ih h.tail k.tail]
end
def rectsB (b : Bd) : List Bx := b.R.map fun r => ⟨r.f, b.f, r.t, b.t⟩
def rects (L : List Bd) : List Bx := L.flatMap rectsB
theorem rects_cons (b : Bd) (L : List Bd) : rects (b :: L) = rectsB b ++ rects L := rfl
/-- A rectangle has a point. -/
def hasP (r : Bx) (x y : Int) : Prop := r.x0 ≤ x ∧ x ≤ r.x1 ∧ r.y0 ≤ y ∧ y ≤ r.y1
def inA (a : List Bx) (x y : Int) : Prop := ∃ r ∈ a, hasP r x y
/-- The form of a set of points. -/
def FormOf (S : Int → Int → Prop) (L : List Bx) : Prop := ∃ B, Bands S B ∧ L = rects B
section
variable {S T : Int → Int → Prop} {L M : List Bx}
theorem FormOf.uniq (h : FormOf S L) (k : FormOf S M) : L = M := by
  obtain ⟨B, h1, rfl⟩ := h
  obtain ⟨C, h2, rfl⟩ := k
  rw [h1.uniq h2]
theorem FormOf.congr (h : FormOf S L) (e : ∀ x y, S x y ↔ T x y) : FormOf T L := by
  have : S = T := by funext x y; exact propext (e x y)
  exact this ▸ h
theorem FormOf.iff (h : FormOf S L) (x y : Int) : S x y ↔ inA L x y := by
  obtain ⟨B, h1, rfl⟩ := h
  constructor
  · intro hS
    obtain ⟨b, hb, h2, h3⟩ := h1.cov x y hS
    obtain ⟨r, hr, h4, h5⟩ := ((h1.rn b hb y h2 h3).iff x).1 hS
    exact ⟨⟨r.f, b.f, r.t, b.t⟩, List.mem_flatMap.2 ⟨b, hb, List.mem_map.2 ⟨r, hr, rfl⟩⟩, h4, h5, h2, h3⟩
  · rintro ⟨q, hq, h4, h5, h2, h3⟩
    obtain ⟨b, hb, hr0⟩ := List.mem_flatMap.1 hq
    obtain ⟨r, hr, rfl⟩ := List.mem_map.1 hr0
    exact ((h1.rn b hb y h2 h3).iff x).2 ⟨r, hr, h4, h5⟩
theorem FormOf.le (h : FormOf S L) : ∀ r ∈ L, r.x0 ≤ r.x1 ∧ r.y0 ≤ r.y1 := by
  obtain ⟨B, h1, rfl⟩ := h
  intro q hq
  obtain ⟨b, hb, hr0⟩ := List.mem_flatMap.1 hq
  obtain ⟨r, hr, rfl⟩ := List.mem_map.1 hr0
  have := h1.le b hb
  exact ⟨(h1.rn b hb b.f (Int.le_refl _) this).le r hr, this⟩
/-- No point is in two of a form's rectangles. -/
theorem FormOf.apart (h : FormOf S L) : L.Pairwise fun a b => ∀ x y, hasP a x y → ¬ hasP b x y := by
  obtain ⟨B, h1, rfl⟩ := h
  have hap := h1.ap
  have hmem : ∀ b ∈ B, b ∈ B := fun _ h => h
  have key : ∀ C : List Bd, (∀ b ∈ C, b ∈ B) → C.Pairwise (fun b c => b.t < c.f ∧ (b.t + 1 = c.f → b.R ≠ c.R)) → (rects C).Pairwise fun a b => ∀ x y, hasP a x y → ¬ hasP b x y := by
    intro C
    induction C with
    | nil => intro _ _; exact List.Pairwise.nil
    | cons b C ih =>
      intro hC hp
      obtain ⟨hp1, hp2⟩ := List.pairwise_cons.1 hp
      rw [rects_cons, List.pairwise_append]
      refine ⟨?_, ih (fun c hc => hC c (by simp [hc])) hp2, fun p hp q hq x y ⟨_, _, _, h5⟩ ⟨_, _, h6, _⟩ => ?_⟩
      · have hb := hC b (by simp)
        have hr := (h1.rn b hb b.f (Int.le_refl _) (h1.le b hb)).ap
        unfold rectsB
        rw [List.pairwise_map]
        exact hr.imp fun h3 x y ⟨_, h4, _⟩ ⟨h5, _⟩ => by simp at h4 h5; omega
      · obtain ⟨r, hr, rfl⟩ := List.mem_map.1 hp
        obtain ⟨c, hc, hq⟩ := List.mem_flatMap.1 hq
        obtain ⟨r2, hr2, rfl⟩ := List.mem_map.1 hq
        have := (hp1 c hc).1
        simp at h5 h6
        omega
  exact key B hmem hap
theorem FormOf.nil_iff (h : FormOf S L) : L = [] ↔ ∀ x y, ¬ S x y := by
  constructor
  · rintro rfl x y hS
    obtain ⟨q, hq, _⟩ := (h.iff x y).1 hS
    simp at hq
  · intro hn
    cases L with
    | nil => rfl
    | cons q L =>
      have hl := h.le q (by simp)
      exact absurd ((h.iff q.x0 q.y0).2 ⟨q, by simp, Int.le_refl _, hl.1, Int.le_refl _, hl.2⟩) (hn _ _)
end
/-- Rows one after another, from lo up to right ahead of hi. -/
def chain : Int → List Bd → Int → Prop
  | lo, [], hi => lo = hi
  | lo, b :: r, hi => b.f = lo ∧ b.f ≤ b.t ∧ chain (b.t + 1) r hi
def eqRn (a b : Rn) : Bool := a.f == b.f && a.t == b.t
theorem eqRn_iff (a b : Rn) : eqRn a b = true ↔ a = b := by cases a; cases b; simp [eqRn]
def eqRs : List Rn → List Rn → Bool
  | [], [] => true
  | a :: r, b :: s => eqRn a b && eqRs r s
  | _, _ => false
theorem eqRs_iff : ∀ (a b : List Rn), eqRs a b = true ↔ a = b
  | [], [] => by simp [eqRs]
  | [], _ :: _ => by simp [eqRs]
  | _ :: _, [] => by simp [eqRs]
  | a :: r, b :: s => by simp [eqRs, eqRn_iff, eqRs_iff r s]
/-- Rows that have the same runs are put together. -/
def grp : Bd → List Bd → List Bd
  | b, [] => [b]
  | b, s :: r => if eqRs s.R b.R then grp ⟨b.f, s.t, b.R⟩ r else b :: grp s r
def groups : List Bd → List Bd
  | [] => []
  | b :: r => grp b r
def differs : List Bd → Prop
  | [] => True
  | [_] => True
  | b :: c :: r => b.R ≠ c.R ∧ differs (c :: r)
theorem grp_head (b : Bd) (L : List Bd) : ∃ c r, grp b L = c :: r ∧ c.R = b.R := by
  induction L generalizing b with
  | nil => exact ⟨b, [], rfl, rfl⟩
  | cons s r ih =>
    unfold grp
    split
    · exact ih ⟨b.f, s.t, b.R⟩
    · exact ⟨b, _, rfl, rfl⟩
theorem grp_ok {S : Int → Int → Prop} (L : List Bd) : ∀ (b : Bd) (lo hi : Int), chain lo (b :: L) hi → (∀ c ∈ b :: L, ∀ y, c.f ≤ y → y ≤ c.t → Runs (fun x => S x y) c.R) →
    chain lo (grp b L) hi ∧ (∀ c ∈ grp b L, ∀ y, c.f ≤ y → y ≤ c.t → Runs (fun x => S x y) c.R) ∧ differs (grp b L) := by
  induction L with
  | nil => intro b lo hi h1 h2; exact ⟨h1, h2, trivial⟩
  | cons s r ih =>
    intro b lo hi h1 h2
    obtain ⟨f1, f2, f3, f4, f5⟩ := h1
    unfold grp
    split
    · rename_i e
      have e := (eqRs_iff _ _).1 e
      refine ih ⟨b.f, s.t, b.R⟩ lo hi ⟨f1, by simp; omega, f5⟩ fun c hc y g1 g2 => ?_
      rcases List.mem_cons.1 hc with rfl | hc
      · simp at g1 g2
        by_cases hy : y ≤ b.t
        · exact h2 b (by simp) y g1 hy
        · rw [← e]; exact h2 s (by simp) y (by omega) g2
      · exact h2 c (by simp [hc]) y g1 g2
    · rename_i e
      obtain ⟨i1, i2, i3⟩ := ih s (b.t + 1) hi ⟨f3, f4, f5⟩ fun c hc => h2 c (by simp [hc])
      refine ⟨⟨f1, f2, i1⟩, fun c hc => ?_, ?_⟩
      · rcases List.mem_cons.1 hc with rfl | hc
        · exact h2 c (by simp)
        · exact i2 c hc
      · obtain ⟨c, r2, e2, e3⟩ := grp_head s r
        rw [e2] at i3 ⊢
        refine ⟨fun e4 => e ((eqRs_iff _ _).2 ?_), i3⟩
        rw [← e3, ← e4]
theorem chain_lo {lo hi : Int} {L : List Bd} (h : chain lo L hi) : lo ≤ hi ∧ ∀ c ∈ L, lo ≤ c.f ∧ c.f ≤ c.t ∧ c.t < hi := by
  induction L generalizing lo with
  | nil => exact ⟨Int.le_of_eq h, by simp⟩
  | cons b r ih =>
    obtain ⟨f1, f2, f3⟩ := h
    obtain ⟨i1, i2⟩ := ih f3
    refine ⟨by omega, fun c hc => ?_⟩
    rcases List.mem_cons.1 hc with rfl | hc
    · exact ⟨by omega, f2, by omega⟩
    · have := i2 c hc; exact ⟨by omega, this.2⟩
theorem chain_ap {lo hi : Int} {L : List Bd} (h : chain lo L hi) (hd : differs L) : L.Pairwise fun b c => b.t < c.f ∧ (b.t + 1 = c.f → b.R ≠ c.R) := by
  induction L generalizing lo with
  | nil => exact List.Pairwise.nil
  | cons b r ih =>
    obtain ⟨f1, f2, f3⟩ := h
    refine List.pairwise_cons.2 ⟨fun c hc => ?_, ?_⟩
    · have := ((chain_lo f3).2 c hc).1
      refine ⟨by omega, fun e => ?_⟩
      cases r with
      | nil => simp at hc
      | cons d r =>
        rcases List.mem_cons.1 hc with rfl | hc
        · exact hd.1
        · obtain ⟨g1, g2, g3⟩ := f3
          have := ((chain_lo g3).2 c hc).1
          omega
    · cases r with
      | nil => exact List.Pairwise.nil
      | cons d r => exact ih f3 hd.2
theorem chain_cov {lo hi : Int} {L : List Bd} (h : chain lo L hi) {y : Int} (h1 : lo ≤ y) (h2 : y < hi) : ∃ b ∈ L, b.f ≤ y ∧ y ≤ b.t := by
  induction L generalizing lo with
  | nil => have : lo = hi := h; omega
  | cons b r ih =>
    obtain ⟨f1, f2, f3⟩ := h
    by_cases hy : y ≤ b.t
    · exact ⟨b, by simp, by omega, hy⟩
    · obtain ⟨c, hc, h⟩ := ih f3 (by omega)
      exact ⟨c, by simp [hc], h⟩
def full (b : Bd) : Bool := !b.R.isEmpty
theorem rects_filter (L : List Bd) : rects (L.filter full) = rects L := by
  induction L with
  | nil => rfl
  | cons b r ih =>
    rw [List.filter_cons]
    split
    · rw [rects_cons, rects_cons, ih]
    · rename_i h
      have : b.R = [] := by simpa [full] using h
      rw [rects_cons, ih, rectsB, this]; rfl
theorem form_groups {S : Int → Int → Prop} {lo hi : Int} {L : List Bd} (h1 : chain lo L hi) (h2 : ∀ c ∈ L, ∀ y, c.f ≤ y → y ≤ c.t → Runs (fun x => S x y) c.R) (h3 : ∀ x y, S x y → lo ≤ y ∧ y < hi) : FormOf S (rects (groups L)) := by
  have hg : chain lo (groups L) hi ∧ (∀ c ∈ groups L, ∀ y, c.f ≤ y → y ≤ c.t → Runs (fun x => S x y) c.R) ∧ differs (groups L) := by
    cases L with
    | nil => exact ⟨h1, h2, trivial⟩
    | cons b r => exact grp_ok r b lo hi h1 h2
  obtain ⟨g1, g2, g3⟩ := hg
  refine ⟨(groups L).filter full, ⟨fun b hb => ?_, fun b hb => ?_, fun b hb => ?_, ?_, fun x y hS => ?_⟩, (rects_filter _).symm⟩
  · exact ((chain_lo g1).2 b (List.mem_filter.1 hb).1).2.1
  · have := (List.mem_filter.1 hb).2; simpa [full] using this
  · exact g2 b (List.mem_filter.1 hb).1
  · exact (chain_ap g1 g3).filter _
  · obtain ⟨h4, h5⟩ := h3 x y hS
    obtain ⟨b, hb, h6, h7⟩ := chain_cov g1 h4 h5
    refine ⟨b, List.mem_filter.2 ⟨hb, ?_⟩, h6, h7⟩
    have := ((g2 b hb y h6 h7).iff x).1 hS
    obtain ⟨r, hr, _⟩ := this
    cases hR : b.R with
    | nil => rw [hR] at hr; simp at hr
    | cons _ _ => simp [full, hR]
/-- Where, in some rows, a rectangle of one of two regions begins, or is over. -/
structure En where
  x : Int
  f : Int
  t : Int
  k : Int
  s : Int
def endsB (k : Int) (r : Bx) : List En := [⟨r.x0, r.y0, r.y1, k, 1⟩, ⟨r.x1 + 1, r.y0, r.y1, k, -1⟩]
def endsM (a : List Bx) (k : Int) : List En := a.flatMap (endsB k)
theorem endsM_len (a : List Bx) (k : Int) : (endsM a k).length = 2 * a.length := by
  induction a with
  | nil => rfl
  | cons r a ih =>
    have e : endsM (r :: a) k = endsB k r ++ endsM a k := rfl
    rw [e, List.length_append, ih]; simp [endsB]; omega
/-- A region whose rectangles may be. -/
def rightR (r : Bx) : Prop := 0 ≤ r.x0 ∧ r.x0 ≤ r.x1 ∧ r.x1 ≤ 65535 ∧ 0 ≤ r.y0 ∧ r.y0 ≤ r.y1 ∧ r.y1 ≤ 65535
def rightA (a : List Bx) : Prop := ∀ r ∈ a, rightR r
def relE (e : En) (row : Int) : Bool := decide (e.f ≤ row ∧ row ≤ e.t)
def term (row k x : Int) (e : En) : Int := if relE e row = true ∧ e.k = k ∧ e.x ≤ x then e.s else 0
def wsum (E : List En) (row k x : Int) : Int := (E.map (term row k x)).sum
theorem sum_cons (a : Int) (L : List Int) : (a :: L).sum = a + L.sum := by simp
theorem wsum_nil (row k x : Int) : wsum [] row k x = 0 := rfl
theorem wsum_cons (e : En) (E : List En) (row k x : Int) : wsum (e :: E) row k x = term row k x e + wsum E row k x := by simp [wsum]
theorem wsum_append (E F : List En) (row k x : Int) : wsum (E ++ F) row k x = wsum E row k x + wsum F row k x := by
  induction E with
  | nil => simp [wsum]
  | cons e E ih => rw [List.cons_append, wsum_cons, wsum_cons, ih]; omega
theorem wsum_perm {E F : List En} (h : E.Perm F) (row k x : Int) : wsum E row k x = wsum F row k x := by
  induction h with
  | nil => rfl
  | cons e _ ih => rw [wsum_cons, wsum_cons, ih]
  | swap a b l => simp only [wsum_cons]; omega
  | trans _ _ h1 h2 => exact h1.trans h2
theorem wsum_none {E : List En} {row k x : Int} (h : ∀ e ∈ E, relE e row = true → e.k = k → x < e.x) : wsum E row k x = 0 := by
  induction E with
  | nil => rfl
  | cons e E ih =>
    rw [wsum_cons, ih (fun e he => h e (by simp [he]))]
    unfold term
    split
    · rename_i h1
      have := h e (by simp) h1.1 h1.2.1
      omega
    · rfl
theorem wsum_all {E : List En} {row k x z : Int} (h : ∀ e ∈ E, relE e row = true → e.x ≤ x) (hz : x ≤ z) : wsum E row k z = wsum E row k x := by
  induction E with
  | nil => rfl
  | cons e E ih =>
    rw [wsum_cons, wsum_cons, ih (fun e he => h e (by simp [he]))]
    congr 1
    unfold term
    by_cases h1 : relE e row = true ∧ e.k = k
    · have := h e (by simp) h1.1
      rw [if_pos ⟨h1.1, h1.2, by omega⟩, if_pos ⟨h1.1, h1.2, this⟩]
    · rw [if_neg (fun h2 => h1 ⟨h2.1, h2.2.1⟩), if_neg (fun h2 => h1 ⟨h2.1, h2.2.1⟩)]
/-- How many rectangles have a point. -/
def cntP (a : List Bx) (x y : Int) : Int := (a.map fun r => if r.x0 ≤ x ∧ x ≤ r.x1 ∧ r.y0 ≤ y ∧ y ≤ r.y1 then 1 else 0).sum
theorem cntP_cons (r : Bx) (a : List Bx) (x y : Int) : cntP (r :: a) x y = (if r.x0 ≤ x ∧ x ≤ r.x1 ∧ r.y0 ≤ y ∧ y ≤ r.y1 then 1 else 0) + cntP a x y := by simp [cntP]
theorem cntP_pos (a : List Bx) (x y : Int) : 0 ≤ cntP a x y ∧ (0 < cntP a x y ↔ inA a x y) := by
  induction a with
  | nil => exact ⟨Int.le_refl _, by simp [cntP, inA]⟩
  | cons r a ih =>
    obtain ⟨h1, h2⟩ := ih
    rw [cntP_cons]
    by_cases h : r.x0 ≤ x ∧ x ≤ r.x1 ∧ r.y0 ≤ y ∧ y ≤ r.y1
    · rw [if_pos h]
      exact ⟨by omega, fun _ => ⟨r, by simp, h⟩, fun _ => by omega⟩
    · rw [if_neg h, Int.zero_add]
      refine ⟨h1, h2.trans ⟨fun ⟨q, hq, h3⟩ => ⟨q, by simp [hq], h3⟩, fun ⟨q, hq, h3⟩ => ?_⟩⟩
      rcases List.mem_cons.1 hq with rfl | hq
      · exact absurd h3 h
      · exact ⟨q, hq, h3⟩
theorem wsum_ends {a : List Bx} (h : rightA a) (row k x : Int) : wsum (endsM a k) row k x = cntP a x row := by
  induction a with
  | nil => rfl
  | cons r a ih =>
    have e : endsM (r :: a) k = endsB k r ++ endsM a k := rfl
    have hr := h r (by simp)
    unfold rightR at hr
    rw [e, wsum_append, ih (fun q hq => h q (by simp [hq])), cntP_cons]
    congr 1
    simp only [endsB, wsum_cons, wsum_nil, term, relE, decide_eq_true_eq, true_and]
    by_cases g1 : r.y0 ≤ row ∧ row ≤ r.y1
    · by_cases g2 : r.x0 ≤ x
      · by_cases g3 : x ≤ r.x1
        · rw [if_pos ⟨g1, g2⟩, if_neg (by omega), if_pos (by omega)]; rfl
        · rw [if_pos ⟨g1, g2⟩, if_pos (by omega), if_neg (by omega)]; rfl
      · rw [if_neg (by omega), if_neg (by omega), if_neg (by omega)]; rfl
    · rw [if_neg (by omega), if_neg (by omega), if_neg (by omega)]; rfl
theorem wsum_other {a : List Bx} (row : Int) {k k' : Int} (x : Int) (hk : k' ≠ k) : wsum (endsM a k') row k x = 0 := by
  induction a with
  | nil => rfl
  | cons r a ih =>
    have e : endsM (r :: a) k' = endsB k' r ++ endsM a k' := rfl
    rw [e, wsum_append, ih]
    simp [endsB, wsum_cons, wsum_nil, term, hk]
/-- All ends of two regions. -/
structure EndsOf (a b : List Bx) (E : List En) : Prop where
  perm : E.Perm (endsM a 0 ++ endsM b 1)
  sorted : E.Pairwise fun d e => d.x ≤ e.x
theorem endsM_all {a : List Bx} (h : rightA a) {k : Int} (hk : k = 0 ∨ k = 1) : ∀ e ∈ endsM a k, 0 ≤ e.x ∧ e.x ≤ 65536 ∧ 0 ≤ e.f ∧ e.f ≤ e.t ∧ e.t ≤ 65535 ∧ (e.k = 0 ∨ e.k = 1) ∧ (e.s = 1 ∨ e.s = -1) := by
  intro e he
  obtain ⟨r, hr, he⟩ := List.mem_flatMap.1 he
  have := h r hr
  unfold rightR at this
  simp only [endsB, List.mem_cons, List.not_mem_nil, or_false] at he
  rcases he with rfl | rfl <;> simp <;> omega
section
variable {a b : List Bx} {E : List En}
theorem EndsOf.all (h : EndsOf a b E) (ha : rightA a) (hb : rightA b) : ∀ e ∈ E, 0 ≤ e.x ∧ e.x ≤ 65536 ∧ 0 ≤ e.f ∧ e.f ≤ e.t ∧ e.t ≤ 65535 ∧ (e.k = 0 ∨ e.k = 1) ∧ (e.s = 1 ∨ e.s = -1) := by
  intro e he
  rcases List.mem_append.1 (h.perm.mem_iff.1 he) with he | he
  · exact endsM_all ha (.inl rfl) e he
  · exact endsM_all hb (.inr rfl) e he
theorem EndsOf.len (h : EndsOf a b E) : E.length = 2 * (a.length + b.length) := by
  rw [h.perm.length_eq, List.length_append, endsM_len, endsM_len]; omega
theorem EndsOf.sum0 (h : EndsOf a b E) (ha : rightA a) (row x : Int) : wsum E row 0 x = cntP a x row := by
  rw [wsum_perm h.perm, wsum_append, wsum_ends ha, wsum_other _ _ (by decide)]; omega
theorem EndsOf.sum1 (h : EndsOf a b E) (hb : rightA b) (row x : Int) : wsum E row 1 x = cntP b x row := by
  rw [wsum_perm h.perm, wsum_append, wsum_ends hb, wsum_other _ _ (by decide)]; omega
end
/-- The state of a scan. -/
structure Sc where
  l : List Rn
  x : Int
  p : Int
  q : Int
def scan1 (C : Bool → Bool → Bool) (row : Int) (z : Sc) (e : En) : Sc :=
  if relE e row = true then ⟨if z.x < e.x ∧ C (decide (0 < z.p)) (decide (0 < z.q)) = true then followN z.l ⟨z.x, e.x - 1⟩ else z.l, e.x, z.p + (if e.k = 0 then e.s else 0), z.q + (if e.k = 0 then 0 else e.s)⟩ else z
def scan (C : Bool → Bool → Bool) (row : Int) (E : List En) (z : Sc) : Sc := E.foldl (scan1 C row) z
def scanR (C : Bool → Bool → Bool) (row : Int) (E : List En) : List Rn := (scan C row E ⟨[], 0, 0, 0⟩).l
theorem scan_len (C : Bool → Bool → Bool) (row : Int) (E : List En) : ∀ z : Sc, (scan C row E z).l.length ≤ z.l.length + E.length := by
  induction E with
  | nil => intro z; exact Nat.le_refl _
  | cons e E ih =>
    intro z
    have h1 := ih (scan1 C row z e)
    have h2 : (scan1 C row z e).l.length ≤ z.l.length + 1 := by
      unfold scan1
      split
      · simp only
        split
        · exact followN_len _ _
        · omega
      · omega
    have h3 : scan C row (e :: E) z = scan C row E (scan1 C row z e) := rfl
    rw [h3, List.length_cons]
    omega
theorem term_not {e : En} {row k x : Int} (h : relE e row = false) : term row k x e = 0 := by
  unfold term; rw [if_neg (fun h1 => by rw [h] at h1; cases h1.1)]
/-- The scan tells the runs of the row. -/
theorem scan_ok (C : Bool → Bool → Bool) (row : Int) (E : List En) (hs : E.Pairwise fun d e => d.x ≤ e.x) (s : Int → Prop)
    (hS : ∀ u, s u ↔ C (decide (0 < wsum E row 0 u)) (decide (0 < wsum E row 1 u)) = true)
    (hk : ∀ e ∈ E, e.k = 0 ∨ e.k = 1) (hz : ∀ u, C (decide (0 < wsum E row 0 u)) (decide (0 < wsum E row 1 u)) = true → u < 70000) (hx7 : ∀ e ∈ E, e.x < 70000) :
    ∀ (R P : List En) (z : Sc), E = P ++ R → z.p = wsum P row 0 70000 → z.q = wsum P row 1 70000 → (∀ e ∈ P, relE e row = true → e.x ≤ z.x) → z.x < 70000 → (∀ e ∈ R, relE e row = true → z.x ≤ e.x) → Runs (fun u => u < z.x ∧ s u) z.l → Runs s (scan C row R z).l := by
  intro R
  induction R with
  | nil =>
    intro P z e1 e2 e3 e4 e5 e6 e7
    rw [List.append_nil] at e1
    subst e1
    refine e7.congr fun u => ⟨fun h => h.2, fun h => ⟨?_, h⟩⟩
    rcases Int.lt_or_le u z.x with h1 | h1
    · exact h1
    · exfalso
      have h2 := (hS u).1 h
      have h3 := hz u h2
      rw [wsum_all e4 h1, ← wsum_all (z := 70000) e4 (by omega), wsum_all e4 h1, ← wsum_all (z := 70000) e4 (by omega)] at h2
      have h4 := hz 70000 h2
      omega
  | cons e R ih =>
    intro P z e1 e2 e3 e4 e5 e6 e7
    have e1' : E = (P ++ [e]) ++ R := by rw [e1]; simp
    have hscan : scan C row (e :: R) z = scan C row R (scan1 C row z e) := rfl
    rw [hscan]
    have hpw := hs
    rw [e1, List.pairwise_append] at hpw
    have hpr := (List.pairwise_cons.1 hpw.2.1).1
    cases hr : relE e row with
    | false =>
      have h1 : scan1 C row z e = z := by unfold scan1; rw [hr]; rfl
      rw [h1]
      refine ih (P ++ [e]) z e1' ?_ ?_ (fun d hd hd2 => ?_) e5 (fun d hd => e6 d (by simp [hd])) e7
      · rw [wsum_append, wsum_cons, wsum_nil, term_not hr]; omega
      · rw [wsum_append, wsum_cons, wsum_nil, term_not hr]; omega
      · rcases List.mem_append.1 hd with hd | hd
        · exact e4 d hd hd2
        · simp at hd; subst hd; rw [hr] at hd2; cases hd2
    | true =>
      have hxe := e6 e (by simp) hr
      have h1 : scan1 C row z e = ⟨if z.x < e.x ∧ C (decide (0 < z.p)) (decide (0 < z.q)) = true then followN z.l ⟨z.x, e.x - 1⟩ else z.l, e.x, z.p + (if e.k = 0 then e.s else 0), z.q + (if e.k = 0 then 0 else e.s)⟩ := by unfold scan1; rw [if_pos hr]
      rw [h1]
      have hke := hk e (by rw [e1]; simp)
      have hwin : ∀ k u, z.x ≤ u → u < e.x → wsum E row k u = wsum P row k 70000 := by
        intro k u h2 h3
        rw [e1, wsum_append, wsum_none (E := e :: R), wsum_all (z := 70000) e4 (by omega), wsum_all e4 h2]
        · omega
        · intro d hd _ _
          rcases List.mem_cons.1 hd with rfl | hd
          · exact h3
          · have := hpr d hd; omega
      have hwin2 : ∀ u, z.x ≤ u → u < e.x → (s u ↔ C (decide (0 < z.p)) (decide (0 < z.q)) = true) := by
        intro u h2 h3
        rw [hS u, hwin 0 u h2 h3, hwin 1 u h2 h3, e2, e3]
      refine ih (P ++ [e]) _ e1' ?_ ?_ (fun d hd hd2 => ?_) (hx7 e (by rw [e1]; simp)) (fun d hd _ => hpr d hd) ?_
      · rw [wsum_append, wsum_cons, wsum_nil, ← e2]
        have := hx7 e (by rw [e1]; simp)
        simp only [term, hr, true_and]
        rcases hke with h4 | h4 <;> simp [h4] <;> omega
      · rw [wsum_append, wsum_cons, wsum_nil, ← e3]
        have := hx7 e (by rw [e1]; simp)
        simp only [term, hr, true_and]
        rcases hke with h4 | h4 <;> simp [h4] <;> omega
      · rcases List.mem_append.1 hd with hd | hd
        · have := e4 d hd hd2; simp only; omega
        · simp at hd; subst hd; exact Int.le_refl _
      · simp only
        split
        · rename_i h4
          exact e7.follow h4.1 fun u h5 h6 => (hwin2 u h5 h6).2 h4.2
        · rename_i h4
          refine e7.skip hxe fun u h5 h6 h7 => h4 ⟨by omega, (hwin2 u h5 h6).1 h7⟩
/-- Which points count. -/
def Cts (C : Bool → Bool → Bool) (a b : List Bx) (x y : Int) : Prop := C (decide (0 < cntP a x y)) (decide (0 < cntP b x y)) = true
theorem inA_grid {a : List Bx} (h : rightA a) {x y : Int} (hx : inA a x y) : 0 ≤ x ∧ x ≤ 65535 ∧ 0 ≤ y ∧ y ≤ 65535 := by
  obtain ⟨r, hr, h1, h2, h3, h4⟩ := hx
  have := h r hr
  unfold rightR at this
  omega
theorem Cts.some_ {C : Bool → Bool → Bool} (hC : C false false = false) {a b : List Bx} {x y : Int} (h : Cts C a b x y) : inA a x y ∨ inA b x y := by
  by_cases h1 : 0 < cntP a x y
  · exact .inl ((cntP_pos a x y).2.1 h1)
  · by_cases h2 : 0 < cntP b x y
    · exact .inr ((cntP_pos b x y).2.1 h2)
    · unfold Cts at h
      rw [decide_eq_false h1, decide_eq_false h2, hC] at h
      cases h
theorem Cts.grid {C : Bool → Bool → Bool} (hC : C false false = false) {a b : List Bx} (ha : rightA a) (hb : rightA b) {x y : Int} (h : Cts C a b x y) : 0 ≤ x ∧ x ≤ 65535 ∧ 0 ≤ y ∧ y ≤ 65535 := by
  rcases h.some_ hC with h1 | h1
  · exact inA_grid ha h1
  · exact inA_grid hb h1
theorem scanR_ok {C : Bool → Bool → Bool} (hC : C false false = false) {a b : List Bx} {E : List En} (h : EndsOf a b E) (ha : rightA a) (hb : rightA b) (row : Int) : Runs (fun x => Cts C a b x row) (scanR C row E) := by
  have hall := h.all ha hb
  have e : ∀ u, Cts C a b u row ↔ C (decide (0 < wsum E row 0 u)) (decide (0 < wsum E row 1 u)) = true := by
    intro u; unfold Cts; rw [h.sum0 ha, h.sum1 hb]
  refine scan_ok C row E h.sorted _ e (fun e he => (hall e he).2.2.2.2.2.1) (fun u hu => ?_) (fun e he => ?_) E [] ⟨[], 0, 0, 0⟩ rfl rfl rfl (by simp) (by decide) (fun e he _ => (hall e he).1) ?_
  · have := ((e u).2 hu).grid hC ha hb; omega
  · have := (hall e he).2.1; omega
  · exact Runs.nil fun u ⟨h1, h2⟩ => by have := (h2.grid hC ha hb).1; simp at h1; omega
/-- The strips between rows. -/
def strips (F : Int → List Rn) : List Int → List Bd
  | y :: z :: r => ⟨y, z - 1, F y⟩ :: strips F (z :: r)
  | _ => []
theorem strips_chain (F : Int → List Rn) : ∀ (ys : List Int) (y : Int), (y :: ys).Pairwise (· < ·) → chain y (strips F (y :: ys)) ((y :: ys).getLast (by simp))
  | [], y, _ => by simp [strips, chain]
  | z :: r, y, h => by
    have h1 := (List.pairwise_cons.1 h).1 z (by simp)
    have h2 := strips_chain F r z (List.pairwise_cons.1 h).2
    refine ⟨rfl, by simp; omega, ?_⟩
    simp only [Int.sub_add_cancel]
    rw [List.getLast_cons (by simp)]
    exact h2
theorem strips_mem (F : Int → List Rn) : ∀ (ys : List Int), ys.Pairwise (· < ·) → ∀ b ∈ strips F ys, b.R = F b.f ∧ b.f ∈ ys ∧ ∀ u ∈ ys, u ≤ b.f ∨ b.t < u
  | [], _, b, hb => by simp [strips] at hb
  | [y], _, b, hb => by simp [strips] at hb
  | y :: z :: r, h, b, hb => by
    have h1 := (List.pairwise_cons.1 h).1
    simp only [strips, List.mem_cons] at hb
    rcases hb with rfl | hb
    · refine ⟨rfl, by simp, fun u hu => ?_⟩
      simp only [List.mem_cons] at hu
      rcases hu with rfl | rfl | hu
      · exact .inl (Int.le_refl _)
      · right; simp; omega
      · have := (List.pairwise_cons.1 (List.pairwise_cons.1 h).2).1 u hu
        right; simp; omega
    · obtain ⟨h2, h3, h4⟩ := strips_mem F (z :: r) (List.pairwise_cons.1 h).2 b hb
      refine ⟨h2, by simp only [List.mem_cons] at h3 ⊢; exact .inr h3, fun u hu => ?_⟩
      rcases List.mem_cons.1 hu with rfl | hu
      · left
        have := h1 b.f h3
        omega
      · exact h4 u hu
theorem strips_len (F : Int → List Rn) : ∀ ys : List Int, (strips F ys).length = ys.length - 1
  | [] => rfl
  | [_] => rfl
  | y :: z :: r => by
    have := strips_len F (z :: r)
    simp only [strips, List.length_cons, this]
    omega
/-- Rows at which the strips of two regions begin. -/
structure RowsOf (a b : List Bx) (ys : List Int) : Prop where
  lt : ys.Pairwise (· < ·)
  a : ∀ r ∈ a, r.y0 ∈ ys ∧ r.y1 + 1 ∈ ys
  b : ∀ r ∈ b, r.y0 ∈ ys ∧ r.y1 + 1 ∈ ys
theorem inA_same {a : List Bx} {ys : List Int} (h : ∀ r ∈ a, r.y0 ∈ ys ∧ r.y1 + 1 ∈ ys) {f t : Int} (hf : ∀ u ∈ ys, u ≤ f ∨ t < u) {x y : Int} (h1 : f ≤ y) (h2 : y ≤ t) : cntP a x y = cntP a x f := by
  induction a with
  | nil => rfl
  | cons r a ih =>
    rw [cntP_cons, cntP_cons, ih (fun q hq => h q (by simp [hq]))]
    congr 1
    obtain ⟨g1, g2⟩ := h r (by simp)
    have h3 := hf _ g1
    have h4 := hf _ g2
    have e : (r.x0 ≤ x ∧ x ≤ r.x1 ∧ r.y0 ≤ y ∧ y ≤ r.y1) ↔ (r.x0 ≤ x ∧ x ≤ r.x1 ∧ r.y0 ≤ f ∧ f ≤ r.y1) := by omega
    simp only [e]
theorem strips_form {C : Bool → Bool → Bool} (hC : C false false = false) {a b : List Bx} {ys : List Int} (h : RowsOf a b ys) (F : Int → List Rn) (hF : ∀ y ∈ ys, Runs (fun x => Cts C a b x y) (F y)) : FormOf (Cts C a b) (rects (groups (strips F ys))) := by
  have hrn : ∀ c ∈ strips F ys, ∀ y, c.f ≤ y → y ≤ c.t → Runs (fun x => Cts C a b x y) c.R := by
    intro c hc y h1 h2
    obtain ⟨g1, g2, g3⟩ := strips_mem F ys h.lt c hc
    rw [g1]
    refine (hF c.f g2).congr fun x => ?_
    unfold Cts
    rw [inA_same h.a g3 h1 h2, inA_same h.b g3 h1 h2]
  cases ys with
  | nil =>
    refine form_groups (lo := 0) (hi := 0) rfl hrn fun x y hS => ?_
    exfalso
    rcases hS.some_ hC with ⟨r, hr, _⟩ | ⟨r, hr, _⟩
    · have := (h.a r hr).1; simp at this
    · have := (h.b r hr).1; simp at this
  | cons y0 ys =>
    refine form_groups (strips_chain F ys y0 h.lt) hrn fun x y hS => ?_
    have hmin : ∀ u ∈ y0 :: ys, y0 ≤ u := fun u hu => by
      rcases List.mem_cons.1 hu with rfl | hu
      · exact Int.le_refl _
      · have := (List.pairwise_cons.1 h.lt).1 u hu; omega
    have hmax : ∀ (l : List Int) (hl : l ≠ []), l.Pairwise (· < ·) → ∀ u ∈ l, u ≤ l.getLast hl := by
      intro l hl hp u hu
      rw [← List.dropLast_concat_getLast hl, List.pairwise_append] at hp
      rw [← List.dropLast_concat_getLast hl] at hu
      rcases List.mem_append.1 hu with hu | hu
      · have := hp.2.2 u hu (l.getLast hl) (by simp); omega
      · simp at hu; rw [hu]; simp
    have key : ∀ r : Bx, (r.y0 ∈ y0 :: ys ∧ r.y1 + 1 ∈ y0 :: ys) → r.y0 ≤ y → y ≤ r.y1 → y0 ≤ y ∧ y < (y0 :: ys).getLast (by simp) := by
      intro r ⟨g1, g2⟩ g3 g4
      have := hmin _ g1
      have := hmax _ (by simp) h.lt _ g2
      omega
    rcases hS.some_ hC with ⟨r, hr, _, _, h3, h4⟩ | ⟨r, hr, _, _, h3, h4⟩
    · exact key r (h.a r hr) h3 h4
    · exact key r (h.b r hr) h3 h4
/-- The document's runs of a row: k columns between edges have been gone through. -/
def lineS (xs : List Int) (c : Int → Bool) : Nat → List Rn
  | 0 => []
  | k + 1 => if c (xs[k]?.getD 0) then followN (lineS xs c k) ⟨xs[k]?.getD 0, xs[k + 1]?.getD 0 - 1⟩ else lineS xs c k
/-- Was the column ahead counted? -/
def lineO (xs : List Int) (c : Int → Bool) : Nat → Bool
  | 0 => false
  | k + 1 => c (xs[k]?.getD 0)
def lineR (xs : List Int) (c : Int → Bool) : List Rn := lineS xs c (xs.length - 1)
theorem lineS_len (xs : List Int) (c : Int → Bool) : ∀ k, (lineS xs c k).length ≤ k
  | 0 => Nat.le_refl _
  | k + 1 => by
    have := lineS_len xs c k
    unfold lineS
    split
    · have := followN_len (lineS xs c k) ⟨xs[k]?.getD 0, xs[k + 1]?.getD 0 - 1⟩; omega
    · omega
/-- The columns between edges. -/
structure EdgesOf (s : Int → Prop) (c : Int → Bool) (xs : List Int) : Prop where
  lt : xs.Pairwise (· < ·)
  zero : xs[0]? = some 0
  low : ∀ u, s u → 0 ≤ u
  c : ∀ x ∈ xs, (c x = true ↔ s x)
  same : ∀ u ∈ xs, ∀ v, u ≤ v → (∀ z ∈ xs, z ≤ u ∨ v < z) → (s v ↔ s u)
  high : ∀ u, s u → ∃ z ∈ xs, u < z
theorem get_lt {xs : List Int} (h : xs.Pairwise (· < ·)) {i j : Nat} (hij : i < j) (hj : j < xs.length) : xs[i]?.getD 0 < xs[j]?.getD 0 := by
  have := List.pairwise_iff_getElem.1 h i j (by omega) hj hij
  rw [List.getElem?_eq_getElem (by omega), List.getElem?_eq_getElem hj]
  exact this
theorem lineS_ok {s : Int → Prop} {c : Int → Bool} {xs : List Int} (h : EdgesOf s c xs) : ∀ k, k + 1 ≤ xs.length → Runs (fun u => u < xs[k]?.getD 0 ∧ s u) (lineS xs c k) ∧ (lineO xs c k = true ↔ s (xs[k]?.getD 0 - 1))
  | 0, _ => by
    rw [h.zero]
    refine ⟨Runs.nil fun u ⟨h1, h2⟩ => by have := h.low u h2; simp at h1; omega, ?_⟩
    simp only [lineO, Bool.false_eq_true, false_iff]
    intro h1
    have := h.low _ h1
    simp at this
  | k + 1, hk => by
    obtain ⟨h1, h2⟩ := lineS_ok h k (by omega)
    have hlt := get_lt h.lt (i := k) (j := k + 1) (by omega) (by omega)
    have hmem : xs[k]?.getD 0 ∈ xs := by rw [List.getElem?_eq_getElem (by omega)]; exact List.getElem_mem _
    have hgap : ∀ z ∈ xs, z ≤ xs[k]?.getD 0 ∨ xs[k + 1]?.getD 0 ≤ z := by
      intro z hz
      obtain ⟨i, hi, rfl⟩ := List.getElem_of_mem hz
      rcases Nat.lt_or_ge k i with h3 | h3
      · right
        rcases Nat.lt_or_ge (k + 1) i with h4 | h4
        · have := get_lt h.lt h4 hi
          rw [List.getElem?_eq_getElem hi] at this
          simp at this; omega
        · have : i = k + 1 := by omega
          subst this
          rw [List.getElem?_eq_getElem hi]; simp
      · left
        rcases Nat.lt_or_ge i k with h4 | h4
        · have := get_lt h.lt h4 (by omega)
          rw [List.getElem?_eq_getElem hi] at this
          simp at this; omega
        · have : i = k := by omega
          subst this
          rw [List.getElem?_eq_getElem hi]; simp
    have hsame : ∀ v, xs[k]?.getD 0 ≤ v → v < xs[k + 1]?.getD 0 → (s v ↔ s (xs[k]?.getD 0)) := fun v h3 h4 => h.same _ hmem v h3 fun z hz => by
      rcases hgap z hz with h5 | h5
      · exact .inl h5
      · right; omega
    have hc := h.c _ hmem
    have hO : lineO xs c (k + 1) = c (xs[k]?.getD 0) := rfl
    refine ⟨?_, by rw [hO, hc]; exact (hsame _ (by omega) (by omega)).symm⟩
    unfold lineS
    split
    · rename_i h3
      exact h1.follow hlt fun u h5 h6 => (hsame u h5 h6).2 (hc.1 h3)
    · rename_i h3
      exact h1.skip (by omega) fun u h5 h6 h7 => h3 (hc.2 ((hsame u h5 h6).1 h7))
/-- Where the column ahead was counted, the last run is over right ahead. -/
theorem lineS_open {s : Int → Prop} {c : Int → Bool} {xs : List Int} (h : EdgesOf s c xs) {k : Nat} (hk : k + 1 ≤ xs.length) (r : Rn) (hr : r.f = xs[k]?.getD 0) :
    (lineO xs c k = true → ∃ M l, lineS xs c k = M ++ [l] ∧ followN (lineS xs c k) r = M ++ [⟨l.f, r.t⟩]) ∧ (lineO xs c k = false → followN (lineS xs c k) r = lineS xs c k ++ [r]) := by
  obtain ⟨h1, h2⟩ := lineS_ok h k hk
  generalize lineS xs c k = L at *
  constructor
  · intro ho
    have hs := h2.1 ho
    rcases List.eq_nil_or_concat L with rfl | ⟨M, l, rfl⟩
    · have := (h1.iff (xs[k]?.getD 0 - 1)).1 ⟨by omega, hs⟩
      simp [inR] at this
    · rw [List.concat_eq_append] at *
      refine ⟨M, l, rfl, ?_⟩
      rw [followN_snoc, if_pos (by rw [hr]; exact h1.last.2 hs)]
  · intro ho
    have hs : ¬ s (xs[k]?.getD 0 - 1) := fun h3 => by rw [h2.2 h3] at ho; cases ho
    rcases List.eq_nil_or_concat L with rfl | ⟨M, l, rfl⟩
    · rfl
    · rw [List.concat_eq_append] at *
      rw [followN_snoc, if_neg (by rw [hr]; exact fun h3 => hs (h1.last.1 h3))]
theorem lineR_ok {s : Int → Prop} {c : Int → Bool} {xs : List Int} (h : EdgesOf s c xs) : Runs s (lineR xs c) := by
  have hl : 0 < xs.length := by
    cases xs with
    | nil => have := h.zero; simp at this
    | cons _ _ => simp
  refine (lineS_ok h (xs.length - 1) (by omega)).1.congr fun u => ⟨fun h1 => h1.2, fun h1 => ⟨?_, h1⟩⟩
  obtain ⟨z, hz, h2⟩ := h.high u h1
  obtain ⟨i, hi, rfl⟩ := List.getElem_of_mem hz
  rcases Nat.lt_or_ge i (xs.length - 1) with h4 | h4
  · have := get_lt h.lt h4 (by omega)
    rw [List.getElem?_eq_getElem hi] at this
    simp at this; omega
  · have e : i = xs.length - 1 := by omega
    subst e
    rw [List.getElem?_eq_getElem hi]; simpa using h2
/-- Edges of two regions, across or down. -/
structure XsOf (a b : List Bx) (xs : List Int) : Prop where
  lt : xs.Pairwise (· < ·)
  zero : (0 : Int) ∈ xs
  top : (65536 : Int) ∈ xs
  ge : ∀ u ∈ xs, 0 ≤ u ∧ u ≤ 65536
  a : ∀ r ∈ a, r.x0 ∈ xs ∧ r.x1 + 1 ∈ xs
  b : ∀ r ∈ b, r.x0 ∈ xs ∧ r.x1 + 1 ∈ xs
theorem head_zero {xs : List Int} (lt : xs.Pairwise (· < ·)) (zero : (0 : Int) ∈ xs) (ge : ∀ u ∈ xs, 0 ≤ u) : xs[0]? = some 0 := by
  cases xs with
  | nil => simp at zero
  | cons x r =>
    rcases List.mem_cons.1 zero with h | h
    · simp [← h]
    · have h1 := (List.pairwise_cons.1 lt).1 0 h
      have h2 := ge x (by simp)
      omega
theorem inA_sameX {a : List Bx} {xs : List Int} (h : ∀ r ∈ a, r.x0 ∈ xs ∧ r.x1 + 1 ∈ xs) {f t y : Int} (h1 : f ≤ t) (hf : ∀ u ∈ xs, u ≤ f ∨ t < u) : cntP a t y = cntP a f y := by
  induction a with
  | nil => rfl
  | cons r a ih =>
    rw [cntP_cons, cntP_cons, ih (fun q hq => h q (by simp [hq]))]
    congr 1
    obtain ⟨g1, g2⟩ := h r (by simp)
    have h3 := hf _ g1
    have h4 := hf _ g2
    have e : (r.x0 ≤ t ∧ t ≤ r.x1 ∧ r.y0 ≤ y ∧ y ≤ r.y1) ↔ (r.x0 ≤ f ∧ f ≤ r.x1 ∧ r.y0 ≤ y ∧ y ≤ r.y1) := by omega
    simp only [e]
theorem XsOf.edges {a b : List Bx} {xs : List Int} (h : XsOf a b xs) {C : Bool → Bool → Bool} (hC : C false false = false) (ha : rightA a) (hb : rightA b) (y : Int) {c : Int → Bool} (hc : ∀ x ∈ xs, (c x = true ↔ Cts C a b x y)) : EdgesOf (fun x => Cts C a b x y) c xs where
  lt := h.lt
  zero := head_zero h.lt h.zero fun u hu => (h.ge u hu).1
  low := fun u hu => (hu.grid hC ha hb).1
  c := hc
  same := fun u hu v h1 h2 => by
    show C _ _ = true ↔ C _ _ = true
    rw [inA_sameX h.a h1 h2, inA_sameX h.b h1 h2]
  high := fun u hu => ⟨65536, h.top, by have := (hu.grid hC ha hb).2.1; omega⟩
def sumB (g : Int → Int) : Nat → Int
  | 0 => 0
  | n + 1 => sumB g n + g (n : Int)
theorem sumB_congr {g h : Int → Int} : ∀ (n : Nat), (∀ u : Int, 0 ≤ u → u < n → g u = h u) → sumB g n = sumB h n
  | 0, _ => rfl
  | n + 1, e => by
    unfold sumB
    rw [sumB_congr n (fun u h1 h2 => e u h1 (by omega)), e n (by omega) (by omega)]
theorem sumB_add (g h : Int → Int) : ∀ n, sumB (fun u => g u + h u) n = sumB g n + sumB h n
  | 0 => rfl
  | n + 1 => by unfold sumB; rw [sumB_add g h n]; omega
theorem sumB_zero (n : Nat) : sumB (fun _ => 0) n = 0 := by
  induction n with
  | zero => rfl
  | succ n ih => unfold sumB; rw [ih]; rfl
theorem sumB_nonneg {g : Int → Int} (n : Nat) (h : ∀ u : Int, 0 ≤ g u) : 0 ≤ sumB g n := by
  induction n with
  | zero => exact Int.le_refl _
  | succ n ih => unfold sumB; have := h n; omega
theorem sumB_le {g : Int → Int} {K : Int} (n : Nat) (h : ∀ u : Int, g u ≤ K) : sumB g n ≤ n * K := by
  induction n with
  | zero => simp [sumB]
  | succ n ih =>
    unfold sumB
    have h1 := h n
    have h2 : ((n + 1 : Nat) : Int) * K = n * K + K := by rw [Int.natCast_add]; simp [Int.add_mul]
    omega
theorem sumB_band (f t K : Int) (hf : 0 ≤ f) (hft : f ≤ t + 1) : ∀ n : Nat, sumB (fun u => if f ≤ u ∧ u ≤ t then K else 0) n = (if (n : Int) ≤ f then 0 else if (n : Int) ≤ t + 1 then ((n : Int) - f) * K else (t - f + 1) * K)
  | 0 => by rw [if_pos (by simpa using hf)]; rfl
  | n + 1 => by
    unfold sumB
    rw [sumB_band f t K hf hft n]
    by_cases h1 : (n : Int) < f
    · rw [if_pos (by omega), if_neg (by omega), if_pos (by omega)]; rfl
    · by_cases h2 : (n : Int) ≤ t
      · rw [if_pos (c := f ≤ (n : Int) ∧ (n : Int) ≤ t) ⟨by omega, h2⟩, if_neg (c := ((n + 1 : Nat) : Int) ≤ f) (by omega), if_pos (c := ((n + 1 : Nat) : Int) ≤ t + 1) (by omega)]
        have e : ((n + 1 : Nat) : Int) - f = ((n : Int) - f) + 1 := by omega
        rw [e]
        by_cases h3 : (n : Int) ≤ f
        · rw [if_pos h3]
          have : (n : Int) - f = 0 := by omega
          rw [this, Int.zero_add, Int.zero_add, Int.one_mul]
        · rw [if_neg h3, if_pos (by omega), Int.add_mul, Int.one_mul]
      · rw [if_neg (c := f ≤ (n : Int) ∧ (n : Int) ≤ t) (by omega)]
        by_cases h3 : (n : Int) ≤ f
        · have h4 : t - f + 1 = 0 := by omega
          rw [if_pos h3, h4, Int.zero_mul]
          repeat' split
          all_goals first | rfl | omega
        · by_cases h5 : (n : Int) ≤ t + 1
          · have h6 : (n : Int) - f = t - f + 1 := by omega
            rw [if_neg h3, if_pos h5, if_neg (by omega), if_neg (by omega), h6, Int.add_zero]
          · rw [if_neg h3, if_neg h5, if_neg (by omega), if_neg (by omega), Int.add_zero]
theorem sumB_band' {f t K : Int} (hf : 0 ≤ f) (hft : f ≤ t) {n : Nat} (hn : t < n) : sumB (fun u => if f ≤ u ∧ u ≤ t then K else 0) n = (t - f + 1) * K := by
  rw [sumB_band f t K hf (by omega) n, if_neg (by omega)]
  split
  · have : (n : Int) - f = t - f + 1 := by omega
    rw [this]
  · rfl
def b2i (b : Bool) : Int := if b then 1 else 0
def lenR (L : List Rn) : Int := (L.map fun r => r.t - r.f + 1).sum
theorem lenR_ok {n : Nat} : ∀ {L : List Rn} {c : Int → Bool}, Runs (fun x => c x = true) L → (∀ x, c x = true → 0 ≤ x ∧ x < n) → lenR L = sumB (fun x => b2i (c x)) n
  | [], c, h, hn => by
    have e : ∀ u : Int, 0 ≤ u → u < n → b2i (c u) = 0 := fun u _ _ => by
      have h1 : ¬ c u = true := fun h2 => by have := (h.iff u).1 h2; simp [inR] at this
      simp [b2i, h1]
    rw [sumB_congr n e, sumB_zero]; rfl
  | a :: L, c, h, hn => by
    have ht := h.tail
    have hl := h.le a (by simp)
    have h1 : Runs (fun x => (c x && decide (a.t < x)) = true) L := ht.congr fun x => by simp
    have h2 := lenR_ok h1 (fun x hx => hn x (by simp at hx; exact hx.1))
    have hf := hn a.f h.head
    have hft := hn a.t (h.first hl (Int.le_refl _))
    have e : ∀ u : Int, 0 ≤ u → u < n → b2i (c u) = (if a.f ≤ u ∧ u ≤ a.t then 1 else 0) + b2i (c u && decide (a.t < u)) := by
      intro u _ _
      by_cases h3 : u ≤ a.t
      · have h4 : decide (a.t < u) = false := by simp; omega
        rw [h4, Bool.and_false]
        by_cases h5 : a.f ≤ u
        · rw [if_pos ⟨h5, h3⟩, h.first h5 h3]; rfl
        · have h6 : c u = false := by
            cases h7 : c u with
            | false => rfl
            | true => have := h.least h7; omega
          rw [if_neg (by omega), h6]; rfl
      · have h4 : decide (a.t < u) = true := by simp; omega
        rw [h4, Bool.and_true, if_neg (by omega), Int.zero_add]
    rw [sumB_congr n e, sumB_add, ← h2, sumB_band' hf.1 hl hft.2]
    simp [lenR]
def areaR (r : Bx) : Int := (r.x1 - r.x0 + 1) * (r.y1 - r.y0 + 1)
def areaL (L : List Bx) : Int := (L.map areaR).sum
theorem areaL_nil : areaL [] = 0 := rfl
theorem areaL_cons (r : Bx) (L : List Bx) : areaL (r :: L) = areaR r + areaL L := by simp [areaL]
theorem areaL_append (L M : List Bx) : areaL (L ++ M) = areaL L + areaL M := by
  induction L with
  | nil => simp [areaL]
  | cons r L ih => rw [List.cons_append, areaL_cons, areaL_cons, ih]; omega
theorem area_band (b : Bd) : areaL (rectsB b) = (b.t - b.f + 1) * lenR b.R := by
  unfold rectsB
  induction b.R with
  | nil => simp [areaL, lenR]
  | cons r R ih =>
    rw [List.map_cons, areaL_cons, ih]
    simp only [areaR, lenR, List.map_cons, List.sum_cons]
    rw [Int.mul_add (b.t - b.f + 1), Int.mul_comm (r.t - r.f + 1) (b.t - b.f + 1)]
/-- How many points count. -/
def tot (c : Int → Int → Bool) : Int := sumB (fun y => sumB (fun x => b2i (c x y)) 65536) 65536
theorem tot_add {c d e : Int → Int → Bool} (h : ∀ x y, b2i (c x y) = b2i (d x y) + b2i (e x y)) : tot c = tot d + tot e := by
  unfold tot
  rw [← sumB_add]
  refine sumB_congr _ fun y _ _ => ?_
  rw [← sumB_add]
  exact sumB_congr _ fun x _ _ => h x y
theorem tot_two {c d e f : Int → Int → Bool} (h : ∀ x y, b2i (c x y) + b2i (d x y) = b2i (e x y) + b2i (f x y)) : tot c + tot d = tot e + tot f := by
  unfold tot
  rw [← sumB_add, ← sumB_add]
  refine sumB_congr _ fun y _ _ => ?_
  rw [← sumB_add, ← sumB_add]
  exact sumB_congr _ fun x _ _ => h x y
theorem tot_range (c : Int → Int → Bool) : 0 ≤ tot c ∧ tot c ≤ 4294967296 := by
  have h1 : ∀ b, 0 ≤ b2i b ∧ b2i b ≤ 1 := fun b => by cases b <;> decide
  have h2 : ∀ y, 0 ≤ sumB (fun x => b2i (c x y)) 65536 ∧ sumB (fun x => b2i (c x y)) 65536 ≤ 65536 := fun y =>
    ⟨sumB_nonneg _ fun x => (h1 _).1, by have := sumB_le (K := 1) 65536 fun x => (h1 (c x y)).2; omega⟩
  refine ⟨sumB_nonneg _ fun y => (h2 y).1, ?_⟩
  have := sumB_le (K := 65536) 65536 fun y => (h2 y).2
  unfold tot
  omega
theorem bands_area : ∀ {B : List Bd} {c : Int → Int → Bool}, Bands (fun x y => c x y = true) B → (∀ x y, c x y = true → 0 ≤ x ∧ x ≤ 65535 ∧ 0 ≤ y ∧ y ≤ 65535) → areaL (rects B) = tot c
  | [], c, h, hn => by
    have e : ∀ x y : Int, b2i (c x y) = 0 := fun x y => by
      have h1 : ¬ c x y = true := fun h2 => by obtain ⟨_, hb, _⟩ := h.cov x y h2; simp at hb
      simp [b2i, h1]
    have e2 : tot c = 0 := by
      unfold tot
      rw [sumB_congr _ (fun y _ _ => (sumB_congr _ fun x _ _ => e x y).trans (sumB_zero _)), sumB_zero]
    rw [e2]; rfl
  | b :: B, c, h, hn => by
    have hl := h.le b (by simp)
    have h1 : Bands (fun x y => (c x y && decide (b.t < y)) = true) B := by
      have := h.tail
      have e : (fun x y => (c x y && decide (b.t < y)) = true) = fun x y => c x y = true ∧ b.t < y := by funext x y; simp
      rw [e]; exact this
    have h2 := bands_area h1 (fun x y hx => hn x y (by simp at hx; exact hx.1))
    obtain ⟨x0, hx0⟩ := h.some_ (b := b) (by simp) (Int.le_refl _) hl
    obtain ⟨x1, hx1⟩ := h.some_ (b := b) (by simp) hl (Int.le_refl _)
    have g0 := hn _ _ hx0
    have g1 := hn _ _ hx1
    rw [rects_cons, areaL_append, h2, area_band, ← sumB_band' (K := lenR b.R) g0.2.2.1 hl (n := 65536) (by omega)]
    unfold tot
    rw [← sumB_add]
    refine sumB_congr _ fun y hy _ => ?_
    by_cases h3 : b.f ≤ y ∧ y ≤ b.t
    · rw [if_pos h3, lenR_ok (n := 65536) (h.rn b (by simp) y h3.1 h3.2) (fun x hx => by have := hn x y hx; omega)]
      have e : ∀ u : Int, 0 ≤ u → u < (65536 : Nat) → b2i (c u y && decide (b.t < y)) = 0 := fun u _ _ => by
        have : decide (b.t < y) = false := by simp; omega
        rw [this, Bool.and_false]; rfl
      rw [sumB_congr _ e, sumB_zero, Int.add_zero]
    · rw [if_neg h3, Int.zero_add]
      refine sumB_congr _ fun u _ _ => ?_
      show b2i (c u y && decide (b.t < y)) = b2i (c u y)
      cases h4 : c u y with
      | false => rfl
      | true =>
        have := h.least h4
        have h5 : decide (b.t < y) = true := by simp; omega
        rw [h5]; rfl
theorem FormOf.area {c : Int → Int → Bool} {L : List Bx} (h : FormOf (fun x y => c x y = true) L) (hn : ∀ x y, c x y = true → 0 ≤ x ∧ x ≤ 65535 ∧ 0 ≤ y ∧ y ≤ 65535) : areaL L = tot c := by
  obtain ⟨B, h1, rfl⟩ := h
  exact bands_area h1 hn
/-- One rectangle is a form. -/
theorem form_one (r : Bx) (h : rightR r) : FormOf (hasP r) [r] := by
  unfold rightR at h
  refine ⟨[⟨r.y0, r.y1, [⟨r.x0, r.x1⟩]⟩], ⟨fun b hb => ?_, fun b hb => ?_, fun b hb y h1 h2 => ?_, List.pairwise_singleton _ _, fun x y hx => ⟨⟨r.y0, r.y1, [⟨r.x0, r.x1⟩]⟩, by simp, hx.2.2.1, hx.2.2.2⟩⟩, rfl⟩
  · simp at hb; subst hb; simp; omega
  · simp at hb; subst hb; simp
  · simp at hb; subst hb
    refine ⟨fun q hq => ?_, List.pairwise_singleton _ _, fun x => ⟨fun ⟨h3, h4, _⟩ => ⟨⟨r.x0, r.x1⟩, by simp, h3, h4⟩, fun ⟨q, hq, h3, h4⟩ => ?_⟩⟩
    · simp at hq; subst hq; simp; omega
    · simp at hq; subst hq
      exact ⟨h3, h4, h1, h2⟩
theorem areaR_pos {r : Bx} (h : r.x0 ≤ r.x1 ∧ r.y0 ≤ r.y1) : 0 < areaR r := Int.mul_pos (by omega) (by omega)
theorem areaL_nonneg {L : List Bx} (h : ∀ r ∈ L, r.x0 ≤ r.x1 ∧ r.y0 ≤ r.y1) : 0 ≤ areaL L := by
  induction L with
  | nil => exact Int.le_refl _
  | cons r L ih =>
    rw [areaL_cons]
    have h1 := areaR_pos (h r (by simp))
    have h2 := ih fun q hq => h q (by simp [hq])
    omega
theorem FormOf.zero {S : Int → Int → Prop} {L : List Bx} (h : FormOf S L) : areaL L = 0 ↔ L = [] := by
  constructor
  · intro h0
    cases L with
    | nil => rfl
    | cons r L =>
      have h1 := areaR_pos (h.le r (by simp))
      have h2 := areaL_nonneg (L := L) fun q hq => h.le q (by simp [hq])
      rw [areaL_cons] at h0
      omega
  · rintro rfl; rfl
end Go.Proofs.Ytimfcgnnfgoaaaa
