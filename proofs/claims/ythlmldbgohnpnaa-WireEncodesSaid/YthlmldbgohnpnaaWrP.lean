/- wire: the document's rect and point, by contract. -/
import Derived.Test.YthlmldbgohnpnaaWrO
import Derived.StillTailTactics
namespace Go.Proofs.Ythlmldbgohnpnaa
set_option linter.unusedVariables false
set_option linter.unusedSimpArgs false
open Go.RowKit
theorem wrapS {n : Nat} (h : n ≤ 4294967295) : IntKind.i64.wrap (n : Int) = (n : Int) := by rw [IntKind.wrap_i64]; omega
theorem cell_al {w : World} {a : Addr} {v : Value} (h : w.cell? a = some v) (o : Obj) : (w.alloc o).cell? a = some v := (World.cell?_alloc_lt w o a (World.block_lt_of_cell? w _ h)).trans h
theorem rect19_any_results {w : World} {q : Nat} {va vb vd ve : Int} (tmps : Array Value) (h2 : tmps.getD 2 undef = .pointer (some ⟨q, 0, none⟩)) (hq : Blk w q 25 #[.int .i64 va, .int .i64 vb, .int .i64 vd, .int .i64 ve]) :
    (results Try.f35 tmps).run Try.prog w = .ok (.agg #[.int .i64 va, .int .i64 vb, .int .i64 vd, .int .i64 ve]) w := by
  have c0 := hq.cell 0
  have c1 := hq.cell 1
  have c2 := hq.cell 2
  have c3 := hq.cell 3
  simp only [List.getElem?_toArray, List.getElem?_cons_zero, List.getElem?_cons_succ] at c0 c1 c2 c3
  rw [Array.getD_eq_getD_getElem?] at h2
  simp [results, Try.results35, go_sem, h2, asAddr, c0, c1, c2, c3]
set_option maxRecDepth 100000 in
set_option maxHeartbeats 4000000 in
theorem rect19_any (w : World) (g o n c : Nat) (a b d e : Nat) (ha : a ≤ 4294967295) (hb : b ≤ 4294967295) (hd : d ≤ 4294967295) (he : e ≤ 4294967295) (hn : 4 ≤ n) (h0 : w.cell? ⟨g, o, none⟩ = some (.int .u64 (a : Int))) (h1 : w.cell? ⟨g, o + 1, none⟩ = some (.int .u64 (b : Int))) (h2 : w.cell? ⟨g, o + 2, none⟩ = some (.int .u64 (d : Int))) (h3 : w.cell? ⟨g, o + 3, none⟩ = some (.int .u64 (e : Int))) :
    Calls Try.prog 35 #[.slice (some ⟨g, o, none⟩) n c] w fun e' w' => e' = .returned (.agg #[.int .i64 (a : Int), .int .i64 (b : Int), .int .i64 (d : Int), .int .i64 (e : Int)]) ∧ Below w.heap.size w w' := by
  have wa := wrapS ha
  have wb := wrapS hb
  have wd := wrapS hd
  have we := wrapS he
  have g0 : (0 : Int) < (n : Int) := by omega
  have q0 : 0 < n := by omega
  have g1 : (1 : Int) < (n : Int) := by omega
  have q1 : 1 < n := by omega
  have g2 : (2 : Int) < (n : Int) := by omega
  have q2 : 2 < n := by omega
  have g3 : (3 : Int) < (n : Int) := by omega
  have q3 : 3 < n := by omega
  have k0 := cell_al h0 (.cells #[.int .i64 0, .int .i64 0, .int .i64 0, .int .i64 0] 25)
  have k1 := cell_al h1 (.cells #[.int .i64 0, .int .i64 0, .int .i64 0, .int .i64 0] 25)
  have k2 := cell_al h2 (.cells #[.int .i64 0, .int .i64 0, .int .i64 0, .int .i64 0] 25)
  have k3 := cell_al h3 (.cells #[.int .i64 0, .int .i64 0, .int .i64 0, .int .i64 0] 25)
  have HR := Lib.hid (Blk.new w 25 #[.int .i64 0, .int .i64 0, .int .i64 0, .int .i64 0])
  have HB := Lib.hid (show Below w.heap.size w (w.alloc (.cells #[.int .i64 0, .int .i64 0, .int .i64 0, .int .i64 0] 25)) from (Below.refl _ _).alloc (Nat.le_refl _) _)
  clear hn ha hb hd he h0 h1 h2 h3
  go_enter Try.func35, Try.ntmps35
  go_wp2_with fail
  generalize w.alloc (.cells #[.int .i64 0, .int .i64 0, .int .i64 0, .int .i64 0] 25) = W at *
  have HB0 := HB
  have f0 := HR.out.frozen 0
  have c0 := HR.out.cell 0
  have HB1 := HB
  have c1 := HR.out.cell 1
  have f1 := HR.out.frozen 1
  have c2 := HR.out.cell 2
  have f2 := HR.out.frozen 2
  have c3 := HR.out.cell 3
  have f3 := HR.out.frozen 3
  simp only [List.getElem?_toArray, List.getElem?_cons_zero, List.getElem?_cons_succ] at c0 c1 c2 c3
  go_region
  go_wp2_with fail
  exact bodyPost_ret (v := .agg #[.int .i64 (a : Int), .int .i64 (b : Int), .int .i64 (d : Int), .int .i64 (e : Int)]) (rect19_any_results _ rfl (Blk.drew (HR.out.set4 _ _ _ _ ))) rfl ⟨rfl, below_drawn (below_setc (below_setc (below_setc (below_setc HB1.out (Nat.le_refl _) 0 _) (Nat.le_refl _) 1 _) (Nat.le_refl _) 2 _) (Nat.le_refl _) 3 _) 1⟩
theorem point19_any_results {w : World} {q : Nat} {va vb : Int} (tmps : Array Value) (h2 : tmps.getD 2 undef = .pointer (some ⟨q, 0, none⟩)) (hq : Blk w q 29 #[.int .i64 va, .int .i64 vb]) :
    (results Try.f36 tmps).run Try.prog w = .ok (.agg #[.int .i64 va, .int .i64 vb]) w := by
  have c0 := hq.cell 0
  have c1 := hq.cell 1
  simp only [List.getElem?_toArray, List.getElem?_cons_zero, List.getElem?_cons_succ] at c0 c1
  rw [Array.getD_eq_getD_getElem?] at h2
  simp [results, Try.results36, go_sem, h2, asAddr, c0, c1]
set_option maxRecDepth 100000 in
set_option maxHeartbeats 4000000 in
theorem point19_any (w : World) (g o n c : Nat) (a b : Nat) (ha : a ≤ 4294967295) (hb : b ≤ 4294967295) (hn : 2 ≤ n) (h0 : w.cell? ⟨g, o, none⟩ = some (.int .u64 (a : Int))) (h1 : w.cell? ⟨g, o + 1, none⟩ = some (.int .u64 (b : Int))) :
    Calls Try.prog 36 #[.slice (some ⟨g, o, none⟩) n c] w fun e' w' => e' = .returned (.agg #[.int .i64 (a : Int), .int .i64 (b : Int)]) ∧ Below w.heap.size w w' := by
  have wa := wrapS ha
  have wb := wrapS hb
  have g0 : (0 : Int) < (n : Int) := by omega
  have q0 : 0 < n := by omega
  have g1 : (1 : Int) < (n : Int) := by omega
  have q1 : 1 < n := by omega
  have k0 := cell_al h0 (.cells #[.int .i64 0, .int .i64 0] 29)
  have k1 := cell_al h1 (.cells #[.int .i64 0, .int .i64 0] 29)
  have HR := Lib.hid (Blk.new w 29 #[.int .i64 0, .int .i64 0])
  have HB := Lib.hid (show Below w.heap.size w (w.alloc (.cells #[.int .i64 0, .int .i64 0] 29)) from (Below.refl _ _).alloc (Nat.le_refl _) _)
  clear hn ha hb h0 h1
  go_enter Try.func36, Try.ntmps36
  go_wp2_with fail
  generalize w.alloc (.cells #[.int .i64 0, .int .i64 0] 29) = W at *
  have HB0 := HB
  have f0 := HR.out.frozen 0
  have c0 := HR.out.cell 0
  have HB1 := HB
  have c1 := HR.out.cell 1
  have f1 := HR.out.frozen 1
  simp only [List.getElem?_toArray, List.getElem?_cons_zero, List.getElem?_cons_succ] at c0 c1
  go_region
  go_wp2_with fail
  exact bodyPost_ret (v := .agg #[.int .i64 (a : Int), .int .i64 (b : Int)]) (point19_any_results _ rfl (Blk.drew (HR.out.set2 _ _ ))) rfl ⟨rfl, below_drawn (below_setc (below_setc HB1.out (Nat.le_refl _) 0 _) (Nat.le_refl _) 1 _) 1⟩
end Go.Proofs.Ythlmldbgohnpnaa
