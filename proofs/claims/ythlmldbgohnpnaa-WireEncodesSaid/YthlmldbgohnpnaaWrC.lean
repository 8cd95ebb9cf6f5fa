/- wire: what a walk over a request's fields writes and counts, plainly. -/
import Derived.Test.YthlmldbgohnpnaaWrB
namespace Go.Proofs.Ythlmldbgohnpnaa
set_option linter.unusedVariables false
set_option linter.unusedSimpArgs false
open Go.RowKit
def pI (x : Int) (k : Nat) : Bs := putL (toU x) k
def hdW (r : Rq) : Bs := pI r.op 1 ++ (pI r.ten 1 ++ (pI r.usr 2 ++ (putL r.sec 8 ++ pI r.m 1)))
def boxW (r : Rq) : Bs := pI r.x0 2 ++ (pI r.y0 2 ++ (pI r.x1 2 ++ pI r.y1 2))
def fdW : Nat → Rq → Bs
  | 1, r => pI r.who 2 ++ (pI r.role 1 ++ (pI r.tier 1 ++ pI r.quota 2))
  | 2, r => pI r.who 2
  | 3, r => r.text.take 512
  | 4, r => pI r.who 2 ++ (pI r.rights 1 ++ pI r.til 4)
  | 5, r => pI r.rights 1 ++ (pI r.zoom 1 ++ (boxW r ++ pI r.til 4))
  | 6, r => putL r.oth 8
  | 7, r => pI r.k 2 ++ putL r.area 8
  | 8, r => pI r.px 2 ++ (pI r.py 2 ++ pI r.lab 1)
  | 13, r => boxW r
  | 14, r => pI r.px 2 ++ pI r.py 2
  | 15, r => boxW r
  | 16, r => pI r.px 2 ++ pI r.py 2
  | 17, r => pI r.fro 2
  | 19, r => pI r.who 2 ++ pI r.quota 2
  | _, _ => []
theorem head_write (r : Rq) (hr : r.Ok) : ∃ b, runs headS (⟨1, 0, [], false⟩, r.cs) = (⟨1, 0, hdW r, b⟩, r.cs) := by
  have e0 := toI_toU hr.op
  have e1 := toI_toU hr.ten
  have e2 := toI_toU hr.usr
  have e3 := toI_toU hr.m
  refine ⟨decide (64 < r.m), ?_⟩
  simp [runs, headS, Sp.run, Wk.nums, Wk.ups, Wk.tops, Wk.whole1, Wk.num1, hdW, pI, Rq.cs, Rq.l, intOf, uAt, e0, e1, e2, e3]
set_option maxHeartbeats 1000000 in
theorem fields_write (k : Nat) (h1 : 1 ≤ k) (h19 : k ≤ 19) (L : Bs) (b : Bool) (r : Rq) (hr : r.Ok) : ∃ b2, runs (fieldsS k) (⟨1, 0, L, b⟩, r.cs) = (⟨1, 0, L ++ fdW k r, b2⟩, r.cs) := by
  have e1 := toI_toU hr.who
  have e2 := toI_toU hr.role
  have e3 := toI_toU hr.tier
  have e4 := toI_toU hr.quota
  have e5 := toI_toU hr.rights
  have e6 := toI_toU hr.til
  have e7 := toI_toU hr.zoom
  have e8 := toI_toU hr.x0
  have e9 := toI_toU hr.y0
  have e10 := toI_toU hr.x1
  have e11 := toI_toU hr.y1
  have e12 := toI_toU hr.k
  have e13 := toI_toU hr.px
  have e14 := toI_toU hr.py
  have e15 := toI_toU hr.lab
  have e16 := toI_toU hr.fro
  have hk : k = 1 ∨ k = 2 ∨ k = 3 ∨ k = 4 ∨ k = 5 ∨ k = 6 ∨ k = 7 ∨ k = 8 ∨ k = 9 ∨ k = 10 ∨ k = 11 ∨ k = 12 ∨ k = 13 ∨ k = 14 ∨ k = 15 ∨ k = 16 ∨ k = 17 ∨ k = 18 ∨ k = 19 := by omega
  refine ⟨b || badR k r, ?_⟩
  rcases hk with rfl | rfl | rfl | rfl | rfl | rfl | rfl | rfl | rfl | rfl | rfl | rfl | rfl | rfl | rfl | rfl | rfl | rfl | rfl
  all_goals
    simp [runs, fieldsS, Sp.run, Wk.nums, Wk.ups, Wk.tops, Wk.boxs, boxL, boxW, badR, badB, Wk.whole1, Wk.num1, Wk.txt1, Wk.txtC1, fdW, pI, Rq.cs, Rq.l, intOf, iAt, uAt, tAt, bs, e1, e2, e3, e4, e5, e6, e7, e8, e9, e10, e11, e12, e13, e14, e15, e16, Bool.or_assoc]
/-- What a count counts. -/
theorem run_count (p : Sp) (x : Wk × Array Value) (h : x.1.does = 0) : (p.run x).1.count = x.1.count + p.size := by
  have nums : ∀ (k : Nat) (l : List Nat) (s : Wk) (c : Array Value), s.does = 0 → (Wk.nums k l s c).1.count = s.count + ((l.length * k : Nat) : Int) := by
    intro k l
    induction l with
    | nil => intro s c _; simp [Wk.nums]
    | cons o l ih =>
      intro s c hs
      rw [Wk.nums, ih _ _ (by rw [Wk.whole_does]; exact hs)]
      have : ∀ n, (s.whole k n).count = s.count + k := fun n => by unfold Wk.whole; rw [if_pos hs]
      rw [this, List.length_cons, Nat.add_mul, Nat.one_mul]
      omega
  have tops : ∀ (m : Int) (l : List Nat) (s : Wk) (c : Array Value), (Wk.tops m l s c).count = s.count := by
    intro m l
    induction l with
    | nil => intro s c; rfl
    | cons o l ih => intro s c; rw [Wk.tops, ih]
  cases p with
  | nums k l => exact nums k l _ _ h
  | ups m l => exact (tops m l _ _).trans (by have := nums 1 l x.1 x.2 h; rw [Nat.mul_one] at this; exact this)
  | whole o => simp [Sp.run, Sp.size, Wk.whole, h]
  | box o => exact (nums 2 (boxL o) x.1 x.2 h : _)
  | text o => simp [Sp.run, Sp.size, Wk.txt, h]
theorem runs_count : ∀ (l : List Sp) (x : Wk × Array Value), x.1.does = 0 → (runs l x).1.count = x.1.count + ((l.map Sp.size).sum : Nat)
  | [], _, _ => by simp [runs]
  | p :: l, x, h => by
    have h2 := runs_count l (p.run x) (by rw [Sp.does]; exact h)
    have h3 := run_count p x h
    show (runs l (p.run x)).1.count = _
    rw [h2, h3, List.map_cons, List.sum_cons]; omega
theorem fields_sizes (k : Nat) : fieldsN k ≤ 16 := by
  unfold fieldsN
  match k with
  | 0 | 1 | 2 | 3 | 4 | 5 | 6 | 7 | 8 | 9 | 10 | 11 | 12 | 13 | 14 | 15 | 16 | 17 | 18 | 19 => decide
  | k + 20 => show (0 : Nat) ≤ 16; omega
def needN (op : Int) : Int := if 1 ≤ op ∧ op ≤ 19 then (fieldsN op.toNat : Int) else -1
/-- fields, of any operation that there is. -/
theorem fields_any {B : Nat} {w0 w wr : World} {y q m : Nat} {x : Wk × Array Value} (k : Nat) (h1 : 1 ≤ k) (h19 : k ≤ 19) (h : Go1 B w0 y q x (fieldsN k + m) w wr) (hop : x.2[0]? = some (.int .i64 (k : Int))) :
    Calls Try.prog 20 #[ptrW y, .pointer (some ⟨q, 0, none⟩)] wr fun e w' => e = .returned (.bool true) ∧ WDone B w0 y q TQ (runs (fieldsS k) x).1 (runs (fieldsS k) x).2 w w' := by
  have hk : k = 1 ∨ k = 2 ∨ k = 3 ∨ k = 4 ∨ k = 5 ∨ k = 6 ∨ k = 7 ∨ k = 8 ∨ k = 9 ∨ k = 10 ∨ k = 11 ∨ k = 12 ∨ k = 13 ∨ k = 14 ∨ k = 15 ∨ k = 16 ∨ k = 17 ∨ k = 18 ∨ k = 19 := by omega
  rcases hk with rfl | rfl | rfl | rfl | rfl | rfl | rfl | rfl | rfl | rfl | rfl | rfl | rfl | rfl | rfl | rfl | rfl | rfl | rfl
  · exact fields_1 h hop
  · exact fields_2 h hop
  · exact fields_3 h hop
  · exact fields_4 h hop
  · exact fields_5 h hop
  · exact fields_6 h hop
  · exact fields_7 h hop
  · exact fields_8 h hop
  · exact fields_9 h hop
  · exact fields_10 h hop
  · exact fields_11 h hop
  · exact fields_12 h hop
  · exact fields_13 h hop
  · exact fields_14 h hop
  · exact fields_15 h hop
  · exact fields_16 h hop
  · exact fields_17 h hop
  · exact fields_18 h hop
  · exact fields_19 h hop
end Go.Proofs.Ythlmldbgohnpnaa
