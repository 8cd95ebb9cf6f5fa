/- wire: requests as values; loading, storing and comparing them. -/
import Derived.Test.YthlmldbgohnpnaaWr9
import Derived.Deep.MidRow
import Derived.Laws.StructEq
import Derived.Laws.NewBlocks
namespace Go.Proofs.Ythlmldbgohnpnaa
set_option linter.unusedVariables false
set_option linter.unusedSimpArgs false
open Go.RowKit
/-- A request. -/
structure Rq where
  op : Int
  ten : Int
  usr : Int
  sec : Nat
  m : Int
  who : Int
  role : Int
  tier : Int
  quota : Int
  text : Bs
  rights : Int
  zoom : Int
  x0 : Int
  y0 : Int
  x1 : Int
  y1 : Int
  til : Int
  oth : Nat
  k : Int
  area : Nat
  px : Int
  py : Int
  lab : Int
  fro : Int
def Rq.l (r : Rq) : List Value := [.int .i64 r.op, .int .i64 r.ten, .int .i64 r.usr, .int .u64 (r.sec : Int), .int .i64 r.m, .int .i64 r.who, .int .i64 r.role, .int .i64 r.tier, .int .i64 r.quota, .string (bs r.text), .int .i64 r.rights, .int .i64 r.zoom, .int .i64 r.x0, .int .i64 r.y0, .int .i64 r.x1, .int .i64 r.y1, .int .i64 r.til, .int .u64 (r.oth : Int), .int .i64 r.k, .int .u64 (r.area : Int), .int .i64 r.px, .int .i64 r.py, .int .i64 r.lab, .int .i64 r.fro]
def Rq.cs (r : Rq) : Array Value := r.l.toArray
def Rq.z : Rq := ⟨0, 0, 0, 0, 0, 0, 0, 0, 0, [], 0, 0, 0, 0, 0, 0, 0, 0, 0, 0, 0, 0, 0, 0⟩
structure Rq.Ok (r : Rq) : Prop where
  op : i64ok r.op
  ten : i64ok r.ten
  usr : i64ok r.usr
  sec : r.sec ≤ 18446744073709551615
  m : i64ok r.m
  who : i64ok r.who
  role : i64ok r.role
  tier : i64ok r.tier
  quota : i64ok r.quota
  text : r.text.length ≤ maxLen
  rights : i64ok r.rights
  zoom : i64ok r.zoom
  x0 : i64ok r.x0
  y0 : i64ok r.y0
  x1 : i64ok r.x1
  y1 : i64ok r.y1
  til : i64ok r.til
  oth : r.oth ≤ 18446744073709551615
  k : i64ok r.k
  area : r.area ≤ 18446744073709551615
  px : i64ok r.px
  py : i64ok r.py
  lab : i64ok r.lab
  fro : i64ok r.fro
theorem Rq.Ok.rq {r : Rq} (h : r.Ok) : RQ r.cs := by
  refine ⟨fun o ho => ?_, fun o ho => ?_, ?_⟩
  · simp only [IL, List.mem_cons, List.not_mem_nil, or_false] at ho
    rcases ho with rfl | rfl | rfl | rfl | rfl | rfl | rfl | rfl | rfl | rfl | rfl | rfl | rfl | rfl | rfl | rfl | rfl | rfl | rfl | rfl
    · exact ⟨_, rfl, h.op⟩
    · exact ⟨_, rfl, h.ten⟩
    · exact ⟨_, rfl, h.usr⟩
    · exact ⟨_, rfl, h.m⟩
    · exact ⟨_, rfl, h.who⟩
    · exact ⟨_, rfl, h.role⟩
    · exact ⟨_, rfl, h.tier⟩
    · exact ⟨_, rfl, h.quota⟩
    · exact ⟨_, rfl, h.rights⟩
    · exact ⟨_, rfl, h.zoom⟩
    · exact ⟨_, rfl, h.x0⟩
    · exact ⟨_, rfl, h.y0⟩
    · exact ⟨_, rfl, h.x1⟩
    · exact ⟨_, rfl, h.y1⟩
    · exact ⟨_, rfl, h.til⟩
    · exact ⟨_, rfl, h.k⟩
    · exact ⟨_, rfl, h.px⟩
    · exact ⟨_, rfl, h.py⟩
    · exact ⟨_, rfl, h.lab⟩
    · exact ⟨_, rfl, h.fro⟩
  · simp only [List.mem_cons, List.not_mem_nil, or_false] at ho
    rcases ho with rfl | rfl | rfl
    · exact ⟨by simp [Rq.cs, Rq.l, uAt, intOf], by simpa [Rq.cs, Rq.l, uAt, intOf] using h.sec⟩
    · exact ⟨by simp [Rq.cs, Rq.l, uAt, intOf], by simpa [Rq.cs, Rq.l, uAt, intOf] using h.oth⟩
    · exact ⟨by simp [Rq.cs, Rq.l, uAt, intOf], by simpa [Rq.cs, Rq.l, uAt, intOf] using h.area⟩
  · exact ⟨by simp [Rq.cs, Rq.l, tAt, bs], by simpa [Rq.cs, Rq.l, tAt, bs] using h.text⟩
theorem Rq.z_ok : Rq.z.Ok := by constructor <;> first | decide | (unfold i64ok; decide)
def Rq.back (c : Array Value) : Rq := ⟨iAt c 0, iAt c 1, iAt c 2, uAt c 3, iAt c 4, iAt c 5, iAt c 6, iAt c 7, iAt c 8, tAt c 9, iAt c 10, iAt c 11, iAt c 12, iAt c 13, iAt c 14, iAt c 15, iAt c 16, uAt c 17, iAt c 18, uAt c 19, iAt c 20, iAt c 21, iAt c 22, iAt c 23⟩
theorem Rq.back_cs (r : Rq) : Rq.back r.cs = r := by
  cases r
  simp [Rq.back, Rq.cs, Rq.l, iAt, uAt, tAt, intOf, bs]
theorem Rq.cs_inj {a b : Rq} (h : a.cs = b.cs) : a = b := by rw [← Rq.back_cs a, h, Rq.back_cs]
/-- A request is loaded. -/
def ldQ (v : Value) : Sem Value := Instr.loadAt TQ v
theorem to_ldQ (v : Value) : Instr.loadAt TQ v = ldQ v := rfl
theorem rangeBlk {w : World} {q : Nat} {t : TypeId} {cs : List Value} (h : Blk w q t cs.toArray) : w.rangeAt q 0 cs := by
  intro j v hv
  rw [Nat.zero_add, h.cell, List.getElem?_toArray]; exact hv
theorem run_ldQ {w : World} {q : Nat} {r : Rq} (h : Blk w q TQ r.cs) : (ldQ (.pointer (some ⟨q, 0, none⟩))).run Try.prog w = .ok (.agg r.cs) w :=
  run_loadAt_mid w q 0 TQ r.l _ (rangeBlk h) Try.underlying31 rfl (by kernel_rfl)
def ldV (a : Addr) : Sem Value := loadVar TQ a
theorem to_ldV (a : Addr) : loadVar TQ a = ldV a := rfl
theorem run_ldV {w : World} {q : Nat} {r : Rq} (h : Blk w q TQ r.cs) : (ldV ⟨q, 0, none⟩).run Try.prog w = .ok (.agg r.cs) w :=
  run_loadVar_mid w q 0 TQ r.l _ (rangeBlk h) Try.underlying31 rfl (by kernel_rfl)
/-- A request is stored. -/
def stQ (p v : Value) : Sem Unit := Instr.storeAt TQ p v
theorem to_stQ (p v : Value) : Instr.storeAt TQ p v = stQ p v := rfl
theorem Rq.one (r : Rq) : r.cs.all (·.oneCell') = true := by simp [Rq.cs, Rq.l, Value.oneCell']
theorem Blk.there24 {w : World} {q : Nat} {r : Rq} (h : Blk w q TQ r.cs) : w.there q 0 24 := by
  intro j hj
  refine ⟨?_, h.frozen _⟩
  rw [Blk.cell h (0 + j)]
  have hs : 0 + j < r.cs.size := by simp only [Rq.cs, Rq.l, List.size_toArray, List.length_cons, List.length_nil]; omega
  rw [Array.getElem?_eq_getElem hs]
  rfl
theorem run_stQ0 {w : World} {q : Nat} {r r0 : Rq} (h : Blk w q TQ r0.cs) : (stQ (.pointer (some ⟨q, 0, none⟩)) (.agg r.cs)).run Try.prog w = .ok () (w.setCells q 0 r.l) :=
  run_storeAt_mid w q 0 TQ r.cs h.there24 (by kernel_rfl) (Rq.one r)
def setsQ (cs : Array Value) : Nat → List Value → Array Value
  | _, [] => cs
  | i, v :: vs => setsQ (cs.setIfInBounds i v) (i + 1) vs
theorem setCells_new (t : TypeId) : ∀ (vs : List Value) (w : World) (cs : Array Value) (i : Nat), (w.alloc (.cells cs t)).setCells w.heap.size i vs = w.alloc (.cells (setsQ cs i vs) t)
  | [], _, _, _ => rfl
  | v :: vs, w, cs, i => by
    have h := setCells_new t vs w (cs.setIfInBounds i v) (i + 1)
    rw [← World.setCell_alloc_new cs t i v] at h
    exact h
theorem setsQ_all (r r0 : Rq) : setsQ r0.cs 0 r.l = r.cs := by simp [setsQ, Rq.cs, Rq.l]
/-- A request is stored in what was made last. -/
theorem run_stQ {w : World} {r r0 : Rq} : (stQ (.pointer (some ⟨w.heap.size, 0, none⟩)) (.agg r.cs)).run Try.prog (w.alloc (.cells r0.cs TQ)) = .ok () (w.alloc (.cells r.cs TQ)) := by
  rw [run_stQ0 (Blk.new w TQ r0.cs), setCells_new, setsQ_all]
theorem Blk.setsQ {q : Nat} {t : TypeId} : ∀ (vs : List Value) (w : World) (cs : Array Value) (i : Nat), Blk w q t cs → Blk (w.setCells q i vs) q t (setsQ cs i vs)
  | [], _, _, _, h => h
  | v :: vs, w, cs, i, h => Blk.setsQ vs _ _ _ (h.set_ i v)
theorem Blk.setQ {w : World} {q : Nat} {r r0 : Rq} (h : Blk w q TQ r0.cs) : Blk (w.setCells q 0 r.l) q TQ r.cs := by
  have := Blk.setsQ r.l w _ 0 h
  rwa [setsQ_all] at this
theorem below_sets {B q : Nat} {a : World} (hq : B ≤ q) : ∀ (vs : List Value) (w : World) (i : Nat), Below B a w → Below B a (w.setCells q i vs)
  | [], _, _, h => h
  | v :: vs, w, i, h => below_sets hq vs _ _ (below_setc h hq i v)
end Go.Proofs.Ythlmldbgohnpnaa
