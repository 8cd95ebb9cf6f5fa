/- policy: declarations and their reader, as values; how they lie. -/
import Derived.Test.YtmgamlpjgghieaaGreatDoorZbLx11
namespace Go.Proofs.YtmgamlpjgghieaaGreatDoor
set_option linter.unusedVariables false
set_option linter.unusedSimpArgs false
open Go.RowKit
structure Wh where
  any : Bool
  nm : Bs
  n : Int
  p : Pl
def Wh.z : Wh := ⟨false, [], 0, (0, 0)⟩
structure Bx where
  x0 : Int
  y0 : Int
  x1 : Int
  y1 : Int
structure Dc where
  k : Int
  nm : Bs
  n : Int
  bx : List Bx
  role : Wh
  lo : Int
  hi : Int
  label : Wh
  wh : Wh
  zoom : Int
  p : Pl
def Dc.z (p : Pl) : Dc := ⟨0, [], 0, [], Wh.z, 0, 0, Wh.z, Wh.z, 0, p⟩
/-- A reader: the tokens that are left, the declaration that is being read. -/
abbrev PS := List Tk × Dc
abbrev PM := PS → Bool × PS
def pPlace (L : List Tk) (e : Pl) : Pl := match L with
  | [] => e
  | x :: _ => x.p
def takesB (s : Bs) (L : List Tk) : Bool := match L with
  | [] => false
  | x :: _ => decide (x.t = s)
def takesL (s : Bs) (L : List Tk) : List Tk := if takesB s L = true then L.tail else L
def kindB (k : Int) (L : List Tk) : Bool := match L with
  | [] => false
  | x :: _ => decide (x.k = k)
def kindL (k : Int) (L : List Tk) : List Tk := if kindB k L = true then L.tail else L
def Tk.z : Tk := ⟨0, [], 0, (0, 0)⟩
def kindT (k : Int) (L : List Tk) : Tk := match L with
  | [] => Tk.z
  | x :: _ => if x.k = k then x else Tk.z
def andM (f g : PM) : PM := fun s => if (f s).1 = true then g (f s).2 else (false, (f s).2)
def takesM (s : Bs) : PM := fun q => (takesB s q.1, (takesL s q.1, q.2))
def nameM (set : Bs → Dc → Dc) : PM := fun q => (kindB 1 q.1, (kindL 1 q.1, set (kindT 1 q.1).t q.2))
def numM (set : Int → Dc → Dc) : PM := fun q => (kindB 3 q.1, (kindL 3 q.1, set (kindT 3 q.1).n q.2))
def wAny : Bs := [97, 110, 121]
def wAll : Bs := [97, 108, 108]
def wRole : Bs := [114, 111, 108, 101]
def wLabel : Bs := [108, 97, 98, 101, 108]
def wRegion : Bs := [114, 101, 103, 105, 111, 110]
def wAllow : Bs := [97, 108, 108, 111, 119]
def wCap : Bs := [99, 97, 112]
def wCloak : Bs := [99, 108, 111, 97, 107]
def wTier : Bs := [116, 105, 101, 114]
def wIn : Bs := [105, 110]
def wZoom : Bs := [122, 111, 111, 109]
def mIs : Bs := [61]
def mAnd : Bs := [43]
def mUp : Bs := [46, 46]
def mEnd : Bs := [59]
/-- A who, from what it was. -/
def whoW (L : List Tk) (w : Wh) : Bool × List Tk × Wh :=
  if takesB wAny L = true then (true, L.tail, { w with p := pPlace L (0, 0), any := true })
  else if kindB 1 L = true then (true, L.tail, { w with p := pPlace L (0, 0), any := false, nm := (kindT 1 L).t })
  else (kindB 3 L, kindL 3 L, { w with p := pPlace L (0, 0), any := false, nm := [], n := (kindT 3 L).n })
def roleM : PM := fun q => ((whoW q.1 q.2.role).1, ((whoW q.1 q.2.role).2.1, { q.2 with role := (whoW q.1 q.2.role).2.2 }))
def labelM : PM := fun q => ((whoW q.1 q.2.label).1, ((whoW q.1 q.2.label).2.1, { q.2 with label := (whoW q.1 q.2.label).2.2 }))
def whereW (L : List Tk) (w : Wh) : Bool × List Tk × Wh :=
  if takesB wAll L = true then (true, L.tail, { w with p := pPlace L (0, 0), any := true })
  else (kindB 1 L, kindL 1 L, { w with p := pPlace L (0, 0), any := false, nm := (kindT 1 L).t })
def whereM : PM := fun q => ((whereW q.1 q.2.wh).1, ((whereW q.1 q.2.wh).2.1, { q.2 with wh := (whereW q.1 q.2.wh).2.2 }))
def tiersM : PM := fun q =>
  if takesB wAny q.1 = true then (true, (q.1.tail, { q.2 with hi := 7 }))
  else if kindB 3 q.1 = true then
    if takesB mUp q.1.tail = true then (kindB 3 q.1.tail.tail, (kindL 3 q.1.tail.tail, { q.2 with lo := (kindT 3 q.1).n, hi := (kindT 3 q.1.tail.tail).n }))
    else (true, (q.1.tail, { q.2 with lo := (kindT 3 q.1).n, hi := (kindT 3 q.1).n }))
  else (false, (q.1, { q.2 with lo := 0 }))
/-- Four numbers. -/
def fourB (L : List Tk) : Bool := kindB 3 L && (kindB 3 L.tail && (kindB 3 L.tail.tail && kindB 3 L.tail.tail.tail))
def fourL (L : List Tk) : List Tk := if kindB 3 L = true then (if kindB 3 L.tail = true then (if kindB 3 L.tail.tail = true then kindL 3 L.tail.tail.tail else L.tail.tail) else L.tail) else L
def fourV (L : List Tk) : Bx := ⟨(kindT 3 L).n, (kindT 3 L.tail).n, (kindT 3 L.tail.tail).n, (kindT 3 L.tail.tail.tail).n⟩
def boxesF : Nat → List Tk → List Bx → Bool × List Tk × List Bx
  | 0, L, a => (false, L, a)
  | n + 1, L, a =>
    if fourB L = true then
      if takesB mAnd (fourL L) = true then boxesF n (fourL L).tail (a ++ [fourV L]) else (true, fourL L, a ++ [fourV L])
    else (false, fourL L, a)
def boxesM : PM := fun q => ((boxesF (q.1.length + 1) q.1 q.2.bx).1, ((boxesF (q.1.length + 1) q.1 q.2.bx).2.1, { q.2 with bx := (boxesF (q.1.length + 1) q.1 q.2.bx).2.2 }))
def headsL : List Bs := [[], wRole, wLabel, wRegion, wAllow, wCap, wCloak]
def headF (L : List Tk) : Option Nat := (List.range 7).find? fun k => takesB (headsL.getD k []) L
def headM : PM := fun q => match headF q.1 with
  | some k => (true, (q.1.tail, { q.2 with k := (k : Int) }))
  | none => (false, q)
def nmM : PM := nameM fun s d => { d with nm := s }
def valM : PM := numM fun n d => { d with n := n }
def zoomM : PM := numM fun n d => { d with zoom := n }
def afterM (s : Bs) (g : PM) : PM := andM (takesM s) g
def bodyM : PM := fun q =>
  if q.2.k = 1 ∨ q.2.k = 2 then andM nmM (afterM mIs valM) q
  else if q.2.k = 3 then andM nmM (afterM mIs boxesM) q
  else if q.2.k = 4 ∨ q.2.k = 5 then andM (afterM wRole roleM) (andM (afterM wTier tiersM) (andM (afterM wLabel labelM) (andM (afterM wIn whereM) (afterM wZoom zoomM)))) q
  else if q.2.k = 6 then afterM wRole roleM q
  else (false, q)
def oneM : PM := andM headM (andM bodyM (takesM mEnd))
def allF : Nat → List Tk → List Dc → Bool × List Tk × List Dc
  | 0, L, a => (false, L, a)
  | _ + 1, [], a => (true, [], a)
  | n + 1, x :: L, a =>
    if (oneM (x :: L, Dc.z x.p)).1 = true then allF n (oneM (x :: L, Dc.z x.p)).2.1 (a ++ [(oneM (x :: L, Dc.z x.p)).2.2])
    else (false, (oneM (x :: L, Dc.z x.p)).2.1, a)
def allP (L : List Tk) : Bool × List Tk × List Dc := allF (L.length + 1) L []
/-- What Parse tells. -/
def parseP (l : Bs) : List Dc × Fl :=
  match (toks l).2 with
  | some f => ([], some f)
  | none => if (allP (toks l).1).1 = true then ((allP (toks l).1).2.2, none) else ([], some (31, pPlace (allP (toks l).1).2.1 (advs (1, 1) l)))
/-- How it lies. -/
def Wh.cells (w : Wh) : List Value := [.bool w.any, .string (bs w.nm), .int .i64 w.n, .int .i64 w.p.1, .int .i64 w.p.2]
def elR : El Bx := { T := 46, k := 4, by_ := 32, z := .agg #[.int .i64 0, .int .i64 0, .int .i64 0, .int .i64 0], enc := fun x => [.int .i64 x.x0, .int .i64 x.y0, .int .i64 x.x1, .int .i64 x.y1] }
theorem elR_ok : elR.Ok := ⟨by decide, fun _ => rfl, fun x u hu => by simp [elR] at hu; rcases hu with rfl | rfl | rfl | rfl <;> rfl, by kernel_rfl, rfl, by decide⟩
/-- A declaration's cells, with its row of boxes. -/
def dcells (d : Dc) (bv : Value) : List Value := [.int .i64 d.k, .string (bs d.nm), .int .i64 d.n, bv, .bool d.role.any, .string (bs d.role.nm), .int .i64 d.role.n, .int .i64 d.role.p.1, .int .i64 d.role.p.2, .int .i64 d.lo, .int .i64 d.hi, .bool d.label.any, .string (bs d.label.nm), .int .i64 d.label.n, .int .i64 d.label.p.1, .int .i64 d.label.p.2, .bool d.wh.any, .string (bs d.wh.nm), .int .i64 d.wh.n, .int .i64 d.wh.p.1, .int .i64 d.wh.p.2, .int .i64 d.zoom, .int .i64 d.p.1, .int .i64 d.p.2]
def rcells (lv : Value) (d : Dc) (bv : Value) : Array Value := #[lv, .int .i64 d.k, .string (bs d.nm), .int .i64 d.n, bv, .bool d.role.any, .string (bs d.role.nm), .int .i64 d.role.n, .int .i64 d.role.p.1, .int .i64 d.role.p.2, .int .i64 d.lo, .int .i64 d.hi, .bool d.label.any, .string (bs d.label.nm), .int .i64 d.label.n, .int .i64 d.label.p.1, .int .i64 d.label.p.2, .bool d.wh.any, .string (bs d.wh.nm), .int .i64 d.wh.n, .int .i64 d.wh.p.1, .int .i64 d.wh.p.2, .int .i64 d.zoom, .int .i64 d.p.1, .int .i64 d.p.2]
theorem cell_block {w w' : World} {g o : Nat} {u : Value} (h : w.cell? ⟨g, o, none⟩ = some u) (hk : g < w.heap.size → w'.heap[g]? = w.heap[g]?) : w'.cell? ⟨g, o, none⟩ = some u := by
  have hlt := World.block_lt_of_cell? w _ h
  simpa [World.cell?, hk hlt] using h
end Go.Proofs.YtmgamlpjgghieaaGreatDoor
