/- wire: the document's With, by contract. -/
import Derived.Test.YthlmldbgohnpnaaWrP
namespace Go.Proofs.Ythlmldbgohnpnaa
set_option linter.unusedVariables false
set_option linter.unusedSimpArgs false
open Go.RowKit
/-- A request is stored in its place. -/
theorem store_at {w w2 : World} {q : Nat} {r r0 : Rq} (hq : w.heap.size ≤ q) (hp : Blk w2 q TQ r0.cs) (hb : Below w.heap.size w w2) : ∃ w3, (stQ (.pointer (some ⟨q, 0, none⟩)) (.agg r.cs)).run Try.prog w2 = .ok () w3 ∧ Blk w3 q TQ r.cs ∧ Below w.heap.size w w3 := ⟨_, run_stQ0 hp, hp.setQ, below_sets hq _ _ _ hb⟩
theorem with_results {w : World} {q : Nat} {r : Rq} (tmps : Array Value) (h2 : tmps.getD 6 undef = .pointer (some ⟨q, 0, none⟩)) (hq : Blk w q TQ r.cs) :
    (results Try.f22 tmps).run Try.prog w = .ok (.agg r.cs) w := by
  have hl := run_ldV hq
  unfold ldV at hl
  simp only [results, Try.results22]
  rw [Array.getD_eq_getD_getElem?] at h2
  simp [h2, asAddr, hl]
section
attribute [local go_sem ↓] to_ldQ to_stQ
set_option maxRecDepth 100000 in
set_option maxHeartbeats 8000000 in
theorem with_1 (w : World) (r : Rq) (hop : r.op = 1) (t : Bs) (g c : Nat) (v0 v1 v2 v3 : Nat) (b0 : v0 ≤ 4294967295) (b1 : v1 ≤ 4294967295) (b2 : v2 ≤ 4294967295) (b3 : v3 ≤ 4294967295) (h0 : w.cell? ⟨g, 0, none⟩ = some (.int .u64 (v0 : Int))) (h1 : w.cell? ⟨g, 1, none⟩ = some (.int .u64 (v1 : Int))) (h2 : w.cell? ⟨g, 2, none⟩ = some (.int .u64 (v2 : Int))) (h3 : w.cell? ⟨g, 3, none⟩ = some (.int .u64 (v3 : Int))) (hc : 4 ≤ c) (hcm : c ≤ maxLen) :
    Calls Try.prog 22 #[.agg r.cs, .slice (some ⟨g, 0, none⟩) 4 c, .string (bs t)] w fun e w' => e = .returned (.agg ({ r with who := (v0 : Int), role := (v1 : Int), tier := (v2 : Int), quota := (v3 : Int) } : Rq).cs) ∧ Below w.heap.size w w' := by
  obtain ⟨a0, a1, a2, a3, a4, a5, a6, a7, a8, a9, a10, a11, a12, a13, a14, a15, a16, a17, a18, a19, a20, a21, a22, a23⟩ := r
  obtain rfl := hop
  obtain ⟨R, hR⟩ : ∃ R : Rq, R = ⟨1, a1, a2, a3, a4, (v0 : Int), (v1 : Int), (v2 : Int), (v3 : Int), a9, a10, a11, a12, a13, a14, a15, a16, a17, a18, a19, a20, a21, a22, a23⟩ := ⟨_, rfl⟩
  have HR := Lib.hid hR
  show Calls Try.prog 22 #[.agg #[.int .i64 1, .int .i64 a1, .int .i64 a2, .int .u64 (a3 : Int), .int .i64 a4, .int .i64 a5, .int .i64 a6, .int .i64 a7, .int .i64 a8, .string (bs a9), .int .i64 a10, .int .i64 a11, .int .i64 a12, .int .i64 a13, .int .i64 a14, .int .i64 a15, .int .i64 a16, .int .u64 (a17 : Int), .int .i64 a18, .int .u64 (a19 : Int), .int .i64 a20, .int .i64 a21, .int .i64 a22, .int .i64 a23], .slice (some ⟨g, 0, none⟩) 4 c, .string (bs t)] w fun e w' => e = .returned (.agg (⟨1, a1, a2, a3, a4, (v0 : Int), (v1 : Int), (v2 : Int), (v3 : Int), a9, a10, a11, a12, a13, a14, a15, a16, a17, a18, a19, a20, a21, a22, a23⟩ : Rq).cs) ∧ Below w.heap.size w w'
  rw [← hR]
  unfold maxLen at hcm
  have wv0 := wrapS b0
  have wv1 := wrapS b1
  have wv2 := wrapS b2
  have wv3 := wrapS b3
  have zg := World.block_lt_of_cell? w _ h0
  simp only at zg
  have hb2 := blk_two w TQ TQ #[.int .i64 1, .int .i64 a1, .int .i64 a2, .int .u64 (a3 : Int), .int .i64 a4, .int .i64 (v0 : Int), .int .i64 (v1 : Int), .int .i64 (v2 : Int), .int .i64 (v3 : Int), .string (bs a9), .int .i64 a10, .int .i64 a11, .int .i64 a12, .int .i64 a13, .int .i64 a14, .int .i64 a15, .int .i64 a16, .int .u64 (a17 : Int), .int .i64 a18, .int .u64 (a19 : Int), .int .i64 a20, .int .i64 a21, .int .i64 a22, .int .i64 a23] #[.int .i64 0, .int .i64 0, .int .i64 0, .int .u64 0, .int .i64 0, .int .i64 0, .int .i64 0, .int .i64 0, .int .i64 0, .string ⟨#[]⟩, .int .i64 0, .int .i64 0, .int .i64 0, .int .i64 0, .int .i64 0, .int .i64 0, .int .i64 0, .int .u64 0, .int .i64 0, .int .u64 0, .int .i64 0, .int .i64 0, .int .i64 0, .int .i64 0]
  have hp : Blk ((w.alloc (.cells #[.int .i64 1, .int .i64 a1, .int .i64 a2, .int .u64 (a3 : Int), .int .i64 a4, .int .i64 (v0 : Int), .int .i64 (v1 : Int), .int .i64 (v2 : Int), .int .i64 (v3 : Int), .string (bs a9), .int .i64 a10, .int .i64 a11, .int .i64 a12, .int .i64 a13, .int .i64 a14, .int .i64 a15, .int .i64 a16, .int .u64 (a17 : Int), .int .i64 a18, .int .u64 (a19 : Int), .int .i64 a20, .int .i64 a21, .int .i64 a22, .int .i64 a23] TQ)).alloc (.cells #[.int .i64 0, .int .i64 0, .int .i64 0, .int .u64 0, .int .i64 0, .int .i64 0, .int .i64 0, .int .i64 0, .int .i64 0, .string ⟨#[]⟩, .int .i64 0, .int .i64 0, .int .i64 0, .int .i64 0, .int .i64 0, .int .i64 0, .int .i64 0, .int .u64 0, .int .i64 0, .int .u64 0, .int .i64 0, .int .i64 0, .int .i64 0, .int .i64 0] TQ)) w.heap.size TQ R.cs := by rw [hR]; exact hb2.1
  have hz : Blk ((w.alloc (.cells #[.int .i64 1, .int .i64 a1, .int .i64 a2, .int .u64 (a3 : Int), .int .i64 a4, .int .i64 (v0 : Int), .int .i64 (v1 : Int), .int .i64 (v2 : Int), .int .i64 (v3 : Int), .string (bs a9), .int .i64 a10, .int .i64 a11, .int .i64 a12, .int .i64 a13, .int .i64 a14, .int .i64 a15, .int .i64 a16, .int .u64 (a17 : Int), .int .i64 a18, .int .u64 (a19 : Int), .int .i64 a20, .int .i64 a21, .int .i64 a22, .int .i64 a23] TQ)).alloc (.cells #[.int .i64 0, .int .i64 0, .int .i64 0, .int .u64 0, .int .i64 0, .int .i64 0, .int .i64 0, .int .i64 0, .int .i64 0, .string ⟨#[]⟩, .int .i64 0, .int .i64 0, .int .i64 0, .int .i64 0, .int .i64 0, .int .i64 0, .int .i64 0, .int .u64 0, .int .i64 0, .int .u64 0, .int .i64 0, .int .i64 0, .int .i64 0, .int .i64 0] TQ)) (w.heap.size + 1) TQ Rq.z.cs := hb2.2
  have hbl : Below w.heap.size w ((w.alloc (.cells #[.int .i64 1, .int .i64 a1, .int .i64 a2, .int .u64 (a3 : Int), .int .i64 a4, .int .i64 (v0 : Int), .int .i64 (v1 : Int), .int .i64 (v2 : Int), .int .i64 (v3 : Int), .string (bs a9), .int .i64 a10, .int .i64 a11, .int .i64 a12, .int .i64 a13, .int .i64 a14, .int .i64 a15, .int .i64 a16, .int .u64 (a17 : Int), .int .i64 a18, .int .u64 (a19 : Int), .int .i64 a20, .int .i64 a21, .int .i64 a22, .int .i64 a23] TQ)).alloc (.cells #[.int .i64 0, .int .i64 0, .int .i64 0, .int .u64 0, .int .i64 0, .int .i64 0, .int .i64 0, .int .i64 0, .int .i64 0, .string ⟨#[]⟩, .int .i64 0, .int .i64 0, .int .i64 0, .int .i64 0, .int .i64 0, .int .i64 0, .int .i64 0, .int .u64 0, .int .i64 0, .int .u64 0, .int .i64 0, .int .i64 0, .int .i64 0, .int .i64 0] TQ)) := ((Below.refl _ _).alloc (Nat.le_refl _) _).alloc (by simp) _
  have hld := run_ldQ hp
  obtain ⟨w3, hst, hp3, hb3⟩ := store_at (r := R) (by omega) hz hbl
  have HP3 := Lib.hid hp3
  have HB3 := Lib.hid hb3
  clear hb2 hp hz hbl hR hp3 hb3 b0 b1 b2 b3
  go_enter Try.func22, Try.ntmps22
  go_wp2_with fail
  exact bodyPost_ret (v := .agg R.cs) (with_results _ rfl HP3.out) rfl ⟨rfl, HB3.out⟩
set_option maxRecDepth 100000 in
set_option maxHeartbeats 8000000 in
theorem with_2 (w : World) (r : Rq) (hop : r.op = 2) (t : Bs) (g c : Nat) (v0 : Nat) (b0 : v0 ≤ 4294967295) (h0 : w.cell? ⟨g, 0, none⟩ = some (.int .u64 (v0 : Int))) (hc : 1 ≤ c) (hcm : c ≤ maxLen) :
    Calls Try.prog 22 #[.agg r.cs, .slice (some ⟨g, 0, none⟩) 1 c, .string (bs t)] w fun e w' => e = .returned (.agg ({ r with who := (v0 : Int) } : Rq).cs) ∧ Below w.heap.size w w' := by
  obtain ⟨a0, a1, a2, a3, a4, a5, a6, a7, a8, a9, a10, a11, a12, a13, a14, a15, a16, a17, a18, a19, a20, a21, a22, a23⟩ := r
  obtain rfl := hop
  obtain ⟨R, hR⟩ : ∃ R : Rq, R = ⟨2, a1, a2, a3, a4, (v0 : Int), a6, a7, a8, a9, a10, a11, a12, a13, a14, a15, a16, a17, a18, a19, a20, a21, a22, a23⟩ := ⟨_, rfl⟩
  have HR := Lib.hid hR
  show Calls Try.prog 22 #[.agg #[.int .i64 2, .int .i64 a1, .int .i64 a2, .int .u64 (a3 : Int), .int .i64 a4, .int .i64 a5, .int .i64 a6, .int .i64 a7, .int .i64 a8, .string (bs a9), .int .i64 a10, .int .i64 a11, .int .i64 a12, .int .i64 a13, .int .i64 a14, .int .i64 a15, .int .i64 a16, .int .u64 (a17 : Int), .int .i64 a18, .int .u64 (a19 : Int), .int .i64 a20, .int .i64 a21, .int .i64 a22, .int .i64 a23], .slice (some ⟨g, 0, none⟩) 1 c, .string (bs t)] w fun e w' => e = .returned (.agg (⟨2, a1, a2, a3, a4, (v0 : Int), a6, a7, a8, a9, a10, a11, a12, a13, a14, a15, a16, a17, a18, a19, a20, a21, a22, a23⟩ : Rq).cs) ∧ Below w.heap.size w w'
  rw [← hR]
  unfold maxLen at hcm
  have wv0 := wrapS b0
  have zg := World.block_lt_of_cell? w _ h0
  simp only at zg
  have hb2 := blk_two w TQ TQ #[.int .i64 2, .int .i64 a1, .int .i64 a2, .int .u64 (a3 : Int), .int .i64 a4, .int .i64 (v0 : Int), .int .i64 a6, .int .i64 a7, .int .i64 a8, .string (bs a9), .int .i64 a10, .int .i64 a11, .int .i64 a12, .int .i64 a13, .int .i64 a14, .int .i64 a15, .int .i64 a16, .int .u64 (a17 : Int), .int .i64 a18, .int .u64 (a19 : Int), .int .i64 a20, .int .i64 a21, .int .i64 a22, .int .i64 a23] #[.int .i64 0, .int .i64 0, .int .i64 0, .int .u64 0, .int .i64 0, .int .i64 0, .int .i64 0, .int .i64 0, .int .i64 0, .string ⟨#[]⟩, .int .i64 0, .int .i64 0, .int .i64 0, .int .i64 0, .int .i64 0, .int .i64 0, .int .i64 0, .int .u64 0, .int .i64 0, .int .u64 0, .int .i64 0, .int .i64 0, .int .i64 0, .int .i64 0]
  have hp : Blk ((w.alloc (.cells #[.int .i64 2, .int .i64 a1, .int .i64 a2, .int .u64 (a3 : Int), .int .i64 a4, .int .i64 (v0 : Int), .int .i64 a6, .int .i64 a7, .int .i64 a8, .string (bs a9), .int .i64 a10, .int .i64 a11, .int .i64 a12, .int .i64 a13, .int .i64 a14, .int .i64 a15, .int .i64 a16, .int .u64 (a17 : Int), .int .i64 a18, .int .u64 (a19 : Int), .int .i64 a20, .int .i64 a21, .int .i64 a22, .int .i64 a23] TQ)).alloc (.cells #[.int .i64 0, .int .i64 0, .int .i64 0, .int .u64 0, .int .i64 0, .int .i64 0, .int .i64 0, .int .i64 0, .int .i64 0, .string ⟨#[]⟩, .int .i64 0, .int .i64 0, .int .i64 0, .int .i64 0, .int .i64 0, .int .i64 0, .int .i64 0, .int .u64 0, .int .i64 0, .int .u64 0, .int .i64 0, .int .i64 0, .int .i64 0, .int .i64 0] TQ)) w.heap.size TQ R.cs := by rw [hR]; exact hb2.1
  have hz : Blk ((w.alloc (.cells #[.int .i64 2, .int .i64 a1, .int .i64 a2, .int .u64 (a3 : Int), .int .i64 a4, .int .i64 (v0 : Int), .int .i64 a6, .int .i64 a7, .int .i64 a8, .string (bs a9), .int .i64 a10, .int .i64 a11, .int .i64 a12, .int .i64 a13, .int .i64 a14, .int .i64 a15, .int .i64 a16, .int .u64 (a17 : Int), .int .i64 a18, .int .u64 (a19 : Int), .int .i64 a20, .int .i64 a21, .int .i64 a22, .int .i64 a23] TQ)).alloc (.cells #[.int .i64 0, .int .i64 0, .int .i64 0, .int .u64 0, .int .i64 0, .int .i64 0, .int .i64 0, .int .i64 0, .int .i64 0, .string ⟨#[]⟩, .int .i64 0, .int .i64 0, .int .i64 0, .int .i64 0, .int .i64 0, .int .i64 0, .int .i64 0, .int .u64 0, .int .i64 0, .int .u64 0, .int .i64 0, .int .i64 0, .int .i64 0, .int .i64 0] TQ)) (w.heap.size + 1) TQ Rq.z.cs := hb2.2
  have hbl : Below w.heap.size w ((w.alloc (.cells #[.int .i64 2, .int .i64 a1, .int .i64 a2, .int .u64 (a3 : Int), .int .i64 a4, .int .i64 (v0 : Int), .int .i64 a6, .int .i64 a7, .int .i64 a8, .string (bs a9), .int .i64 a10, .int .i64 a11, .int .i64 a12, .int .i64 a13, .int .i64 a14, .int .i64 a15, .int .i64 a16, .int .u64 (a17 : Int), .int .i64 a18, .int .u64 (a19 : Int), .int .i64 a20, .int .i64 a21, .int .i64 a22, .int .i64 a23] TQ)).alloc (.cells #[.int .i64 0, .int .i64 0, .int .i64 0, .int .u64 0, .int .i64 0, .int .i64 0, .int .i64 0, .int .i64 0, .int .i64 0, .string ⟨#[]⟩, .int .i64 0, .int .i64 0, .int .i64 0, .int .i64 0, .int .i64 0, .int .i64 0, .int .i64 0, .int .u64 0, .int .i64 0, .int .u64 0, .int .i64 0, .int .i64 0, .int .i64 0, .int .i64 0] TQ)) := ((Below.refl _ _).alloc (Nat.le_refl _) _).alloc (by simp) _
  have hld := run_ldQ hp
  obtain ⟨w3, hst, hp3, hb3⟩ := store_at (r := R) (by omega) hz hbl
  have HP3 := Lib.hid hp3
  have HB3 := Lib.hid hb3
  clear hb2 hp hz hbl hR hp3 hb3 b0
  go_enter Try.func22, Try.ntmps22
  go_wp2_with fail
  exact bodyPost_ret (v := .agg R.cs) (with_results _ rfl HP3.out) rfl ⟨rfl, HB3.out⟩
set_option maxRecDepth 100000 in
set_option maxHeartbeats 8000000 in
theorem with_3 (w : World) (r : Rq) (hop : r.op = 3) (t : Bs) (A : Option Addr) (n c : Nat) :
    Calls Try.prog 22 #[.agg r.cs, .slice A n c, .string (bs t)] w fun e w' => e = .returned (.agg ({ r with text := t } : Rq).cs) ∧ Below w.heap.size w w' := by
  obtain ⟨a0, a1, a2, a3, a4, a5, a6, a7, a8, a9, a10, a11, a12, a13, a14, a15, a16, a17, a18, a19, a20, a21, a22, a23⟩ := r
  obtain rfl := hop
  obtain ⟨R, hR⟩ : ∃ R : Rq, R = ⟨3, a1, a2, a3, a4, a5, a6, a7, a8, t, a10, a11, a12, a13, a14, a15, a16, a17, a18, a19, a20, a21, a22, a23⟩ := ⟨_, rfl⟩
  have HR := Lib.hid hR
  show Calls Try.prog 22 #[.agg #[.int .i64 3, .int .i64 a1, .int .i64 a2, .int .u64 (a3 : Int), .int .i64 a4, .int .i64 a5, .int .i64 a6, .int .i64 a7, .int .i64 a8, .string (bs a9), .int .i64 a10, .int .i64 a11, .int .i64 a12, .int .i64 a13, .int .i64 a14, .int .i64 a15, .int .i64 a16, .int .u64 (a17 : Int), .int .i64 a18, .int .u64 (a19 : Int), .int .i64 a20, .int .i64 a21, .int .i64 a22, .int .i64 a23], .slice A n c, .string (bs t)] w fun e w' => e = .returned (.agg (⟨3, a1, a2, a3, a4, a5, a6, a7, a8, t, a10, a11, a12, a13, a14, a15, a16, a17, a18, a19, a20, a21, a22, a23⟩ : Rq).cs) ∧ Below w.heap.size w w'
  rw [← hR]
  have hb2 := blk_two w TQ TQ #[.int .i64 3, .int .i64 a1, .int .i64 a2, .int .u64 (a3 : Int), .int .i64 a4, .int .i64 a5, .int .i64 a6, .int .i64 a7, .int .i64 a8, .string (bs t), .int .i64 a10, .int .i64 a11, .int .i64 a12, .int .i64 a13, .int .i64 a14, .int .i64 a15, .int .i64 a16, .int .u64 (a17 : Int), .int .i64 a18, .int .u64 (a19 : Int), .int .i64 a20, .int .i64 a21, .int .i64 a22, .int .i64 a23] #[.int .i64 0, .int .i64 0, .int .i64 0, .int .u64 0, .int .i64 0, .int .i64 0, .int .i64 0, .int .i64 0, .int .i64 0, .string ⟨#[]⟩, .int .i64 0, .int .i64 0, .int .i64 0, .int .i64 0, .int .i64 0, .int .i64 0, .int .i64 0, .int .u64 0, .int .i64 0, .int .u64 0, .int .i64 0, .int .i64 0, .int .i64 0, .int .i64 0]
  have hp : Blk ((w.alloc (.cells #[.int .i64 3, .int .i64 a1, .int .i64 a2, .int .u64 (a3 : Int), .int .i64 a4, .int .i64 a5, .int .i64 a6, .int .i64 a7, .int .i64 a8, .string (bs t), .int .i64 a10, .int .i64 a11, .int .i64 a12, .int .i64 a13, .int .i64 a14, .int .i64 a15, .int .i64 a16, .int .u64 (a17 : Int), .int .i64 a18, .int .u64 (a19 : Int), .int .i64 a20, .int .i64 a21, .int .i64 a22, .int .i64 a23] TQ)).alloc (.cells #[.int .i64 0, .int .i64 0, .int .i64 0, .int .u64 0, .int .i64 0, .int .i64 0, .int .i64 0, .int .i64 0, .int .i64 0, .string ⟨#[]⟩, .int .i64 0, .int .i64 0, .int .i64 0, .int .i64 0, .int .i64 0, .int .i64 0, .int .i64 0, .int .u64 0, .int .i64 0, .int .u64 0, .int .i64 0, .int .i64 0, .int .i64 0, .int .i64 0] TQ)) w.heap.size TQ R.cs := by rw [hR]; exact hb2.1
  have hz : Blk ((w.alloc (.cells #[.int .i64 3, .int .i64 a1, .int .i64 a2, .int .u64 (a3 : Int), .int .i64 a4, .int .i64 a5, .int .i64 a6, .int .i64 a7, .int .i64 a8, .string (bs t), .int .i64 a10, .int .i64 a11, .int .i64 a12, .int .i64 a13, .int .i64 a14, .int .i64 a15, .int .i64 a16, .int .u64 (a17 : Int), .int .i64 a18, .int .u64 (a19 : Int), .int .i64 a20, .int .i64 a21, .int .i64 a22, .int .i64 a23] TQ)).alloc (.cells #[.int .i64 0, .int .i64 0, .int .i64 0, .int .u64 0, .int .i64 0, .int .i64 0, .int .i64 0, .int .i64 0, .int .i64 0, .string ⟨#[]⟩, .int .i64 0, .int .i64 0, .int .i64 0, .int .i64 0, .int .i64 0, .int .i64 0, .int .i64 0, .int .u64 0, .int .i64 0, .int .u64 0, .int .i64 0, .int .i64 0, .int .i64 0, .int .i64 0] TQ)) (w.heap.size + 1) TQ Rq.z.cs := hb2.2
  have hbl : Below w.heap.size w ((w.alloc (.cells #[.int .i64 3, .int .i64 a1, .int .i64 a2, .int .u64 (a3 : Int), .int .i64 a4, .int .i64 a5, .int .i64 a6, .int .i64 a7, .int .i64 a8, .string (bs t), .int .i64 a10, .int .i64 a11, .int .i64 a12, .int .i64 a13, .int .i64 a14, .int .i64 a15, .int .i64 a16, .int .u64 (a17 : Int), .int .i64 a18, .int .u64 (a19 : Int), .int .i64 a20, .int .i64 a21, .int .i64 a22, .int .i64 a23] TQ)).alloc (.cells #[.int .i64 0, .int .i64 0, .int .i64 0, .int .u64 0, .int .i64 0, .int .i64 0, .int .i64 0, .int .i64 0, .int .i64 0, .string ⟨#[]⟩, .int .i64 0, .int .i64 0, .int .i64 0, .int .i64 0, .int .i64 0, .int .i64 0, .int .i64 0, .int .u64 0, .int .i64 0, .int .u64 0, .int .i64 0, .int .i64 0, .int .i64 0, .int .i64 0] TQ)) := ((Below.refl _ _).alloc (Nat.le_refl _) _).alloc (by simp) _
  have hld := run_ldQ hp
  obtain ⟨w3, hst, hp3, hb3⟩ := store_at (r := R) (by omega) hz hbl
  have HP3 := Lib.hid hp3
  have HB3 := Lib.hid hb3
  clear hb2 hp hz hbl hR hp3 hb3
  go_enter Try.func22, Try.ntmps22
  go_wp2_with fail
  exact bodyPost_ret (v := .agg R.cs) (with_results _ rfl HP3.out) rfl ⟨rfl, HB3.out⟩
set_option maxRecDepth 100000 in
set_option maxHeartbeats 8000000 in
theorem with_4 (w : World) (r : Rq) (hop : r.op = 4) (t : Bs) (g c : Nat) (v0 v1 v2 : Nat) (b0 : v0 ≤ 4294967295) (b1 : v1 ≤ 4294967295) (b2 : v2 ≤ 4294967295) (h0 : w.cell? ⟨g, 0, none⟩ = some (.int .u64 (v0 : Int))) (h1 : w.cell? ⟨g, 1, none⟩ = some (.int .u64 (v1 : Int))) (h2 : w.cell? ⟨g, 2, none⟩ = some (.int .u64 (v2 : Int))) (hc : 3 ≤ c) (hcm : c ≤ maxLen) :
    Calls Try.prog 22 #[.agg r.cs, .slice (some ⟨g, 0, none⟩) 3 c, .string (bs t)] w fun e w' => e = .returned (.agg ({ r with who := (v0 : Int), rights := (v1 : Int), til := (v2 : Int) } : Rq).cs) ∧ Below w.heap.size w w' := by
  obtain ⟨a0, a1, a2, a3, a4, a5, a6, a7, a8, a9, a10, a11, a12, a13, a14, a15, a16, a17, a18, a19, a20, a21, a22, a23⟩ := r
  obtain rfl := hop
  obtain ⟨R, hR⟩ : ∃ R : Rq, R = ⟨4, a1, a2, a3, a4, (v0 : Int), a6, a7, a8, a9, (v1 : Int), a11, a12, a13, a14, a15, (v2 : Int), a17, a18, a19, a20, a21, a22, a23⟩ := ⟨_, rfl⟩
  have HR := Lib.hid hR
  show Calls Try.prog 22 #[.agg #[.int .i64 4, .int .i64 a1, .int .i64 a2, .int .u64 (a3 : Int), .int .i64 a4, .int .i64 a5, .int .i64 a6, .int .i64 a7, .int .i64 a8, .string (bs a9), .int .i64 a10, .int .i64 a11, .int .i64 a12, .int .i64 a13, .int .i64 a14, .int .i64 a15, .int .i64 a16, .int .u64 (a17 : Int), .int .i64 a18, .int .u64 (a19 : Int), .int .i64 a20, .int .i64 a21, .int .i64 a22, .int .i64 a23], .slice (some ⟨g, 0, none⟩) 3 c, .string (bs t)] w fun e w' => e = .returned (.agg (⟨4, a1, a2, a3, a4, (v0 : Int), a6, a7, a8, a9, (v1 : Int), a11, a12, a13, a14, a15, (v2 : Int), a17, a18, a19, a20, a21, a22, a23⟩ : Rq).cs) ∧ Below w.heap.size w w'
  rw [← hR]
  unfold maxLen at hcm
  have wv0 := wrapS b0
  have wv1 := wrapS b1
  have wv2 := wrapS b2
  have zg := World.block_lt_of_cell? w _ h0
  simp only at zg
  have hb2 := blk_two w TQ TQ #[.int .i64 4, .int .i64 a1, .int .i64 a2, .int .u64 (a3 : Int), .int .i64 a4, .int .i64 (v0 : Int), .int .i64 a6, .int .i64 a7, .int .i64 a8, .string (bs a9), .int .i64 (v1 : Int), .int .i64 a11, .int .i64 a12, .int .i64 a13, .int .i64 a14, .int .i64 a15, .int .i64 (v2 : Int), .int .u64 (a17 : Int), .int .i64 a18, .int .u64 (a19 : Int), .int .i64 a20, .int .i64 a21, .int .i64 a22, .int .i64 a23] #[.int .i64 0, .int .i64 0, .int .i64 0, .int .u64 0, .int .i64 0, .int .i64 0, .int .i64 0, .int .i64 0, .int .i64 0, .string ⟨#[]⟩, .int .i64 0, .int .i64 0, .int .i64 0, .int .i64 0, .int .i64 0, .int .i64 0, .int .i64 0, .int .u64 0, .int .i64 0, .int .u64 0, .int .i64 0, .int .i64 0, .int .i64 0, .int .i64 0]
  have hp : Blk ((w.alloc (.cells #[.int .i64 4, .int .i64 a1, .int .i64 a2, .int .u64 (a3 : Int), .int .i64 a4, .int .i64 (v0 : Int), .int .i64 a6, .int .i64 a7, .int .i64 a8, .string (bs a9), .int .i64 (v1 : Int), .int .i64 a11, .int .i64 a12, .int .i64 a13, .int .i64 a14, .int .i64 a15, .int .i64 (v2 : Int), .int .u64 (a17 : Int), .int .i64 a18, .int .u64 (a19 : Int), .int .i64 a20, .int .i64 a21, .int .i64 a22, .int .i64 a23] TQ)).alloc (.cells #[.int .i64 0, .int .i64 0, .int .i64 0, .int .u64 0, .int .i64 0, .int .i64 0, .int .i64 0, .int .i64 0, .int .i64 0, .string ⟨#[]⟩, .int .i64 0, .int .i64 0, .int .i64 0, .int .i64 0, .int .i64 0, .int .i64 0, .int .i64 0, .int .u64 0, .int .i64 0, .int .u64 0, .int .i64 0, .int .i64 0, .int .i64 0, .int .i64 0] TQ)) w.heap.size TQ R.cs := by rw [hR]; exact hb2.1
  have hz : Blk ((w.alloc (.cells #[.int .i64 4, .int .i64 a1, .int .i64 a2, .int .u64 (a3 : Int), .int .i64 a4, .int .i64 (v0 : Int), .int .i64 a6, .int .i64 a7, .int .i64 a8, .string (bs a9), .int .i64 (v1 : Int), .int .i64 a11, .int .i64 a12, .int .i64 a13, .int .i64 a14, .int .i64 a15, .int .i64 (v2 : Int), .int .u64 (a17 : Int), .int .i64 a18, .int .u64 (a19 : Int), .int .i64 a20, .int .i64 a21, .int .i64 a22, .int .i64 a23] TQ)).alloc (.cells #[.int .i64 0, .int .i64 0, .int .i64 0, .int .u64 0, .int .i64 0, .int .i64 0, .int .i64 0, .int .i64 0, .int .i64 0, .string ⟨#[]⟩, .int .i64 0, .int .i64 0, .int .i64 0, .int .i64 0, .int .i64 0, .int .i64 0, .int .i64 0, .int .u64 0, .int .i64 0, .int .u64 0, .int .i64 0, .int .i64 0, .int .i64 0, .int .i64 0] TQ)) (w.heap.size + 1) TQ Rq.z.cs := hb2.2
  have hbl : Below w.heap.size w ((w.alloc (.cells #[.int .i64 4, .int .i64 a1, .int .i64 a2, .int .u64 (a3 : Int), .int .i64 a4, .int .i64 (v0 : Int), .int .i64 a6, .int .i64 a7, .int .i64 a8, .string (bs a9), .int .i64 (v1 : Int), .int .i64 a11, .int .i64 a12, .int .i64 a13, .int .i64 a14, .int .i64 a15, .int .i64 (v2 : Int), .int .u64 (a17 : Int), .int .i64 a18, .int .u64 (a19 : Int), .int .i64 a20, .int .i64 a21, .int .i64 a22, .int .i64 a23] TQ)).alloc (.cells #[.int .i64 0, .int .i64 0, .int .i64 0, .int .u64 0, .int .i64 0, .int .i64 0, .int .i64 0, .int .i64 0, .int .i64 0, .string ⟨#[]⟩, .int .i64 0, .int .i64 0, .int .i64 0, .int .i64 0, .int .i64 0, .int .i64 0, .int .i64 0, .int .u64 0, .int .i64 0, .int .u64 0, .int .i64 0, .int .i64 0, .int .i64 0, .int .i64 0] TQ)) := ((Below.refl _ _).alloc (Nat.le_refl _) _).alloc (by simp) _
  have hld := run_ldQ hp
  obtain ⟨w3, hst, hp3, hb3⟩ := store_at (r := R) (by omega) hz hbl
  have HP3 := Lib.hid hp3
  have HB3 := Lib.hid hb3
  clear hb2 hp hz hbl hR hp3 hb3 b0 b1 b2
  go_enter Try.func22, Try.ntmps22
  go_wp2_with fail
  exact bodyPost_ret (v := .agg R.cs) (with_results _ rfl HP3.out) rfl ⟨rfl, HB3.out⟩
set_option maxRecDepth 100000 in
set_option maxHeartbeats 8000000 in
theorem with_5 (w : World) (r : Rq) (hop : r.op = 5) (t : Bs) (g c : Nat) (v0 v1 v2 v3 v4 v5 v6 : Nat) (b0 : v0 ≤ 4294967295) (b1 : v1 ≤ 4294967295) (b2 : v2 ≤ 4294967295) (b3 : v3 ≤ 4294967295) (b4 : v4 ≤ 4294967295) (b5 : v5 ≤ 4294967295) (b6 : v6 ≤ 4294967295) (h0 : w.cell? ⟨g, 0, none⟩ = some (.int .u64 (v0 : Int))) (h1 : w.cell? ⟨g, 1, none⟩ = some (.int .u64 (v1 : Int))) (h2 : w.cell? ⟨g, 2, none⟩ = some (.int .u64 (v2 : Int))) (h3 : w.cell? ⟨g, 3, none⟩ = some (.int .u64 (v3 : Int))) (h4 : w.cell? ⟨g, 4, none⟩ = some (.int .u64 (v4 : Int))) (h5 : w.cell? ⟨g, 5, none⟩ = some (.int .u64 (v5 : Int))) (h6 : w.cell? ⟨g, 6, none⟩ = some (.int .u64 (v6 : Int))) (hc : 7 ≤ c) (hcm : c ≤ maxLen) :
    Calls Try.prog 22 #[.agg r.cs, .slice (some ⟨g, 0, none⟩) 7 c, .string (bs t)] w fun e w' => e = .returned (.agg ({ r with rights := (v0 : Int), zoom := (v1 : Int), x0 := (v2 : Int), y0 := (v3 : Int), x1 := (v4 : Int), y1 := (v5 : Int), til := (v6 : Int) } : Rq).cs) ∧ Below w.heap.size w w' := by
  obtain ⟨a0, a1, a2, a3, a4, a5, a6, a7, a8, a9, a10, a11, a12, a13, a14, a15, a16, a17, a18, a19, a20, a21, a22, a23⟩ := r
  obtain rfl := hop
  obtain ⟨R, hR⟩ : ∃ R : Rq, R = ⟨5, a1, a2, a3, a4, a5, a6, a7, a8, a9, (v0 : Int), (v1 : Int), (v2 : Int), (v3 : Int), (v4 : Int), (v5 : Int), (v6 : Int), a17, a18, a19, a20, a21, a22, a23⟩ := ⟨_, rfl⟩
  have HR := Lib.hid hR
  show Calls Try.prog 22 #[.agg #[.int .i64 5, .int .i64 a1, .int .i64 a2, .int .u64 (a3 : Int), .int .i64 a4, .int .i64 a5, .int .i64 a6, .int .i64 a7, .int .i64 a8, .string (bs a9), .int .i64 a10, .int .i64 a11, .int .i64 a12, .int .i64 a13, .int .i64 a14, .int .i64 a15, .int .i64 a16, .int .u64 (a17 : Int), .int .i64 a18, .int .u64 (a19 : Int), .int .i64 a20, .int .i64 a21, .int .i64 a22, .int .i64 a23], .slice (some ⟨g, 0, none⟩) 7 c, .string (bs t)] w fun e w' => e = .returned (.agg (⟨5, a1, a2, a3, a4, a5, a6, a7, a8, a9, (v0 : Int), (v1 : Int), (v2 : Int), (v3 : Int), (v4 : Int), (v5 : Int), (v6 : Int), a17, a18, a19, a20, a21, a22, a23⟩ : Rq).cs) ∧ Below w.heap.size w w'
  rw [← hR]
  unfold maxLen at hcm
  have wv0 := wrapS b0
  have wv1 := wrapS b1
  have wv2 := wrapS b2
  have wv3 := wrapS b3
  have wv4 := wrapS b4
  have wv5 := wrapS b5
  have wv6 := wrapS b6
  have zg := World.block_lt_of_cell? w _ h0
  simp only at zg
  have hbl : Below w.heap.size w ((w.alloc (.cells #[.int .i64 5, .int .i64 a1, .int .i64 a2, .int .u64 (a3 : Int), .int .i64 a4, .int .i64 a5, .int .i64 a6, .int .i64 a7, .int .i64 a8, .string (bs a9), .int .i64 (v0 : Int), .int .i64 (v1 : Int), .int .i64 a12, .int .i64 a13, .int .i64 a14, .int .i64 a15, .int .i64 a16, .int .u64 (a17 : Int), .int .i64 a18, .int .u64 (a19 : Int), .int .i64 a20, .int .i64 a21, .int .i64 a22, .int .i64 a23] TQ)).alloc (.cells #[.int .i64 0, .int .i64 0, .int .i64 0, .int .u64 0, .int .i64 0, .int .i64 0, .int .i64 0, .int .i64 0, .int .i64 0, .string ⟨#[]⟩, .int .i64 0, .int .i64 0, .int .i64 0, .int .i64 0, .int .i64 0, .int .i64 0, .int .i64 0, .int .u64 0, .int .i64 0, .int .u64 0, .int .i64 0, .int .i64 0, .int .i64 0, .int .i64 0] TQ)) := ((Below.refl _ _).alloc (Nat.le_refl _) _).alloc (by simp) _
  have hb2 := blk_two w TQ TQ #[.int .i64 5, .int .i64 a1, .int .i64 a2, .int .u64 (a3 : Int), .int .i64 a4, .int .i64 a5, .int .i64 a6, .int .i64 a7, .int .i64 a8, .string (bs a9), .int .i64 (v0 : Int), .int .i64 (v1 : Int), .int .i64 a12, .int .i64 a13, .int .i64 a14, .int .i64 a15, .int .i64 a16, .int .u64 (a17 : Int), .int .i64 a18, .int .u64 (a19 : Int), .int .i64 a20, .int .i64 a21, .int .i64 a22, .int .i64 a23] #[.int .i64 0, .int .i64 0, .int .i64 0, .int .u64 0, .int .i64 0, .int .i64 0, .int .i64 0, .int .i64 0, .int .i64 0, .string ⟨#[]⟩, .int .i64 0, .int .i64 0, .int .i64 0, .int .i64 0, .int .i64 0, .int .i64 0, .int .i64 0, .int .u64 0, .int .i64 0, .int .u64 0, .int .i64 0, .int .i64 0, .int .i64 0, .int .i64 0]
  have j0 := cell_al (cell_al h0 (.cells #[.int .i64 5, .int .i64 a1, .int .i64 a2, .int .u64 (a3 : Int), .int .i64 a4, .int .i64 a5, .int .i64 a6, .int .i64 a7, .int .i64 a8, .string (bs a9), .int .i64 (v0 : Int), .int .i64 (v1 : Int), .int .i64 a12, .int .i64 a13, .int .i64 a14, .int .i64 a15, .int .i64 a16, .int .u64 (a17 : Int), .int .i64 a18, .int .u64 (a19 : Int), .int .i64 a20, .int .i64 a21, .int .i64 a22, .int .i64 a23] TQ)) (.cells #[.int .i64 0, .int .i64 0, .int .i64 0, .int .u64 0, .int .i64 0, .int .i64 0, .int .i64 0, .int .i64 0, .int .i64 0, .string ⟨#[]⟩, .int .i64 0, .int .i64 0, .int .i64 0, .int .i64 0, .int .i64 0, .int .i64 0, .int .i64 0, .int .u64 0, .int .i64 0, .int .u64 0, .int .i64 0, .int .i64 0, .int .i64 0, .int .i64 0] TQ)
  have j1 := cell_al (cell_al h1 (.cells #[.int .i64 5, .int .i64 a1, .int .i64 a2, .int .u64 (a3 : Int), .int .i64 a4, .int .i64 a5, .int .i64 a6, .int .i64 a7, .int .i64 a8, .string (bs a9), .int .i64 (v0 : Int), .int .i64 (v1 : Int), .int .i64 a12, .int .i64 a13, .int .i64 a14, .int .i64 a15, .int .i64 a16, .int .u64 (a17 : Int), .int .i64 a18, .int .u64 (a19 : Int), .int .i64 a20, .int .i64 a21, .int .i64 a22, .int .i64 a23] TQ)) (.cells #[.int .i64 0, .int .i64 0, .int .i64 0, .int .u64 0, .int .i64 0, .int .i64 0, .int .i64 0, .int .i64 0, .int .i64 0, .string ⟨#[]⟩, .int .i64 0, .int .i64 0, .int .i64 0, .int .i64 0, .int .i64 0, .int .i64 0, .int .i64 0, .int .u64 0, .int .i64 0, .int .u64 0, .int .i64 0, .int .i64 0, .int .i64 0, .int .i64 0] TQ)
  have j2 := cell_al (cell_al h2 (.cells #[.int .i64 5, .int .i64 a1, .int .i64 a2, .int .u64 (a3 : Int), .int .i64 a4, .int .i64 a5, .int .i64 a6, .int .i64 a7, .int .i64 a8, .string (bs a9), .int .i64 (v0 : Int), .int .i64 (v1 : Int), .int .i64 a12, .int .i64 a13, .int .i64 a14, .int .i64 a15, .int .i64 a16, .int .u64 (a17 : Int), .int .i64 a18, .int .u64 (a19 : Int), .int .i64 a20, .int .i64 a21, .int .i64 a22, .int .i64 a23] TQ)) (.cells #[.int .i64 0, .int .i64 0, .int .i64 0, .int .u64 0, .int .i64 0, .int .i64 0, .int .i64 0, .int .i64 0, .int .i64 0, .string ⟨#[]⟩, .int .i64 0, .int .i64 0, .int .i64 0, .int .i64 0, .int .i64 0, .int .i64 0, .int .i64 0, .int .u64 0, .int .i64 0, .int .u64 0, .int .i64 0, .int .i64 0, .int .i64 0, .int .i64 0] TQ)
  have j3 := cell_al (cell_al h3 (.cells #[.int .i64 5, .int .i64 a1, .int .i64 a2, .int .u64 (a3 : Int), .int .i64 a4, .int .i64 a5, .int .i64 a6, .int .i64 a7, .int .i64 a8, .string (bs a9), .int .i64 (v0 : Int), .int .i64 (v1 : Int), .int .i64 a12, .int .i64 a13, .int .i64 a14, .int .i64 a15, .int .i64 a16, .int .u64 (a17 : Int), .int .i64 a18, .int .u64 (a19 : Int), .int .i64 a20, .int .i64 a21, .int .i64 a22, .int .i64 a23] TQ)) (.cells #[.int .i64 0, .int .i64 0, .int .i64 0, .int .u64 0, .int .i64 0, .int .i64 0, .int .i64 0, .int .i64 0, .int .i64 0, .string ⟨#[]⟩, .int .i64 0, .int .i64 0, .int .i64 0, .int .i64 0, .int .i64 0, .int .i64 0, .int .i64 0, .int .u64 0, .int .i64 0, .int .u64 0, .int .i64 0, .int .i64 0, .int .i64 0, .int .i64 0] TQ)
  have j4 := cell_al (cell_al h4 (.cells #[.int .i64 5, .int .i64 a1, .int .i64 a2, .int .u64 (a3 : Int), .int .i64 a4, .int .i64 a5, .int .i64 a6, .int .i64 a7, .int .i64 a8, .string (bs a9), .int .i64 (v0 : Int), .int .i64 (v1 : Int), .int .i64 a12, .int .i64 a13, .int .i64 a14, .int .i64 a15, .int .i64 a16, .int .u64 (a17 : Int), .int .i64 a18, .int .u64 (a19 : Int), .int .i64 a20, .int .i64 a21, .int .i64 a22, .int .i64 a23] TQ)) (.cells #[.int .i64 0, .int .i64 0, .int .i64 0, .int .u64 0, .int .i64 0, .int .i64 0, .int .i64 0, .int .i64 0, .int .i64 0, .string ⟨#[]⟩, .int .i64 0, .int .i64 0, .int .i64 0, .int .i64 0, .int .i64 0, .int .i64 0, .int .i64 0, .int .u64 0, .int .i64 0, .int .u64 0, .int .i64 0, .int .i64 0, .int .i64 0, .int .i64 0] TQ)
  have j5 := cell_al (cell_al h5 (.cells #[.int .i64 5, .int .i64 a1, .int .i64 a2, .int .u64 (a3 : Int), .int .i64 a4, .int .i64 a5, .int .i64 a6, .int .i64 a7, .int .i64 a8, .string (bs a9), .int .i64 (v0 : Int), .int .i64 (v1 : Int), .int .i64 a12, .int .i64 a13, .int .i64 a14, .int .i64 a15, .int .i64 a16, .int .u64 (a17 : Int), .int .i64 a18, .int .u64 (a19 : Int), .int .i64 a20, .int .i64 a21, .int .i64 a22, .int .i64 a23] TQ)) (.cells #[.int .i64 0, .int .i64 0, .int .i64 0, .int .u64 0, .int .i64 0, .int .i64 0, .int .i64 0, .int .i64 0, .int .i64 0, .string ⟨#[]⟩, .int .i64 0, .int .i64 0, .int .i64 0, .int .i64 0, .int .i64 0, .int .i64 0, .int .i64 0, .int .u64 0, .int .i64 0, .int .u64 0, .int .i64 0, .int .i64 0, .int .i64 0, .int .i64 0] TQ)
  have j6 := cell_al (cell_al h6 (.cells #[.int .i64 5, .int .i64 a1, .int .i64 a2, .int .u64 (a3 : Int), .int .i64 a4, .int .i64 a5, .int .i64 a6, .int .i64 a7, .int .i64 a8, .string (bs a9), .int .i64 (v0 : Int), .int .i64 (v1 : Int), .int .i64 a12, .int .i64 a13, .int .i64 a14, .int .i64 a15, .int .i64 a16, .int .u64 (a17 : Int), .int .i64 a18, .int .u64 (a19 : Int), .int .i64 a20, .int .i64 a21, .int .i64 a22, .int .i64 a23] TQ)) (.cells #[.int .i64 0, .int .i64 0, .int .i64 0, .int .u64 0, .int .i64 0, .int .i64 0, .int .i64 0, .int .i64 0, .int .i64 0, .string ⟨#[]⟩, .int .i64 0, .int .i64 0, .int .i64 0, .int .i64 0, .int .i64 0, .int .i64 0, .int .i64 0, .int .u64 0, .int .i64 0, .int .u64 0, .int .i64 0, .int .i64 0, .int .i64 0, .int .i64 0] TQ)
  have HCL := Lib.hid (rect19_any ((w.alloc (.cells #[.int .i64 5, .int .i64 a1, .int .i64 a2, .int .u64 (a3 : Int), .int .i64 a4, .int .i64 a5, .int .i64 a6, .int .i64 a7, .int .i64 a8, .string (bs a9), .int .i64 (v0 : Int), .int .i64 (v1 : Int), .int .i64 a12, .int .i64 a13, .int .i64 a14, .int .i64 a15, .int .i64 a16, .int .u64 (a17 : Int), .int .i64 a18, .int .u64 (a19 : Int), .int .i64 a20, .int .i64 a21, .int .i64 a22, .int .i64 a23] TQ)).alloc (.cells #[.int .i64 0, .int .i64 0, .int .i64 0, .int .u64 0, .int .i64 0, .int .i64 0, .int .i64 0, .int .i64 0, .int .i64 0, .string ⟨#[]⟩, .int .i64 0, .int .i64 0, .int .i64 0, .int .i64 0, .int .i64 0, .int .i64 0, .int .i64 0, .int .u64 0, .int .i64 0, .int .u64 0, .int .i64 0, .int .i64 0, .int .i64 0, .int .i64 0] TQ)) g 2 4 (c - 2) v2 v3 v4 v5 b2 b3 b4 b5 (by decide) j2 j3 j4 j5)
  have HBL := Lib.hid hbl
  have HB2 := Lib.hid hb2
  have J0 := Lib.hid j0
  have J1 := Lib.hid j1
  have J2 := Lib.hid j2
  have J3 := Lib.hid j3
  have J4 := Lib.hid j4
  have J5 := Lib.hid j5
  have J6 := Lib.hid j6
  have ZG := Lib.hid zg
  clear hbl hb2 j0 j1 j2 j3 j4 j5 j6 b0 b1 b2 b3 b4 b5 b6
  have hc6 : (6 : Int) ≤ (c : Int) := by omega
  go_enter Try.func22, Try.ntmps22
  go_wp2_with fail
  refine HCL.out.mono ?_
  rintro e w1 ⟨rfl, hb1⟩
  have hp1 := HB2.out.1.thru0 hb1
  have hz1 := HB2.out.2.thru0 hb1
  have c12 := hp1.cell 12
  have f12 := hp1.frozen 12
  have c13 := hp1.cell 13
  have f13 := hp1.frozen 13
  have c14 := hp1.cell 14
  have f14 := hp1.frozen 14
  have c15 := hp1.cell 15
  have f15 := hp1.frozen 15
  have c16 := hp1.cell 16
  have f16 := hp1.frozen 16
  have l6 : w1.cell? ⟨g, 6, none⟩ = _ := cell_block J6.out fun hl => hb1.block _ hl
  simp only [List.getElem?_toArray, List.getElem?_cons_zero, List.getElem?_cons_succ] at c12 c13 c14 c15 c16
  have hp : Blk (((((w1.setCell ⟨w.heap.size, 12, none⟩ (.int .i64 (v2 : Int))).setCell ⟨w.heap.size, 13, none⟩ (.int .i64 (v3 : Int))).setCell ⟨w.heap.size, 14, none⟩ (.int .i64 (v4 : Int))).setCell ⟨w.heap.size, 15, none⟩ (.int .i64 (v5 : Int))).setCell ⟨w.heap.size, 16, none⟩ (.int .i64 (v6 : Int))) w.heap.size TQ R.cs := by
    have := (((((hp1.set_ 12 (.int .i64 (v2 : Int))).set_ 13 (.int .i64 (v3 : Int))).set_ 14 (.int .i64 (v4 : Int))).set_ 15 (.int .i64 (v5 : Int))).set_ 16 (.int .i64 (v6 : Int)))
    rw [HR.out]
    exact this
  have hz : Blk (((((w1.setCell ⟨w.heap.size, 12, none⟩ (.int .i64 (v2 : Int))).setCell ⟨w.heap.size, 13, none⟩ (.int .i64 (v3 : Int))).setCell ⟨w.heap.size, 14, none⟩ (.int .i64 (v4 : Int))).setCell ⟨w.heap.size, 15, none⟩ (.int .i64 (v5 : Int))).setCell ⟨w.heap.size, 16, none⟩ (.int .i64 (v6 : Int))) (w.heap.size + 1) TQ Rq.z.cs := (((((hz1.far (p := ⟨w.heap.size, 12, none⟩) (by show w.heap.size + 1 ≠ w.heap.size; omega) (.int .i64 (v2 : Int))).far (p := ⟨w.heap.size, 13, none⟩) (by show w.heap.size + 1 ≠ w.heap.size; omega) (.int .i64 (v3 : Int))).far (p := ⟨w.heap.size, 14, none⟩) (by show w.heap.size + 1 ≠ w.heap.size; omega) (.int .i64 (v4 : Int))).far (p := ⟨w.heap.size, 15, none⟩) (by show w.heap.size + 1 ≠ w.heap.size; omega) (.int .i64 (v5 : Int))).far (p := ⟨w.heap.size, 16, none⟩) (by show w.heap.size + 1 ≠ w.heap.size; omega) (.int .i64 (v6 : Int)))
  have hbl : Below w.heap.size w (((((w1.setCell ⟨w.heap.size, 12, none⟩ (.int .i64 (v2 : Int))).setCell ⟨w.heap.size, 13, none⟩ (.int .i64 (v3 : Int))).setCell ⟨w.heap.size, 14, none⟩ (.int .i64 (v4 : Int))).setCell ⟨w.heap.size, 15, none⟩ (.int .i64 (v5 : Int))).setCell ⟨w.heap.size, 16, none⟩ (.int .i64 (v6 : Int))) := (below_setc (below_setc (below_setc (below_setc (below_setc (HBL.out.trans (hb1.mono HBL.out.size)) (Nat.le_refl _) 12 (.int .i64 (v2 : Int))) (Nat.le_refl _) 13 (.int .i64 (v3 : Int))) (Nat.le_refl _) 14 (.int .i64 (v4 : Int))) (Nat.le_refl _) 15 (.int .i64 (v5 : Int))) (Nat.le_refl _) 16 (.int .i64 (v6 : Int)))
  have hld := run_ldQ hp
  obtain ⟨w3, hst, hp3, hb3⟩ := store_at (r := R) (by omega) hz hbl
  have HP3 := Lib.hid hp3
  have HB3 := Lib.hid hb3
  clear hp hz hbl hp3 hb3 hb1 hp1 hz1 HCL hR
  have zq : g ≠ w.heap.size := by have := ZG.out; omega
  have zq2 : w.heap.size ≠ g := by omega
  go_wp2_with fail
  exact bodyPost_ret (v := .agg R.cs) (with_results _ rfl HP3.out) rfl ⟨rfl, HB3.out⟩
set_option maxRecDepth 100000 in
set_option maxHeartbeats 8000000 in
theorem with_6 (w : World) (r : Rq) (hop : r.op = 6) (t : Bs) (g c : Nat) (v0 : Nat) (h0 : w.cell? ⟨g, 0, none⟩ = some (.int .u64 (v0 : Int))) (hc : 1 ≤ c) (hcm : c ≤ maxLen) :
    Calls Try.prog 22 #[.agg r.cs, .slice (some ⟨g, 0, none⟩) 1 c, .string (bs t)] w fun e w' => e = .returned (.agg ({ r with oth := (v0 : Nat) } : Rq).cs) ∧ Below w.heap.size w w' := by
  obtain ⟨a0, a1, a2, a3, a4, a5, a6, a7, a8, a9, a10, a11, a12, a13, a14, a15, a16, a17, a18, a19, a20, a21, a22, a23⟩ := r
  obtain rfl := hop
  obtain ⟨R, hR⟩ : ∃ R : Rq, R = ⟨6, a1, a2, a3, a4, a5, a6, a7, a8, a9, a10, a11, a12, a13, a14, a15, a16, (v0 : Nat), a18, a19, a20, a21, a22, a23⟩ := ⟨_, rfl⟩
  have HR := Lib.hid hR
  show Calls Try.prog 22 #[.agg #[.int .i64 6, .int .i64 a1, .int .i64 a2, .int .u64 (a3 : Int), .int .i64 a4, .int .i64 a5, .int .i64 a6, .int .i64 a7, .int .i64 a8, .string (bs a9), .int .i64 a10, .int .i64 a11, .int .i64 a12, .int .i64 a13, .int .i64 a14, .int .i64 a15, .int .i64 a16, .int .u64 (a17 : Int), .int .i64 a18, .int .u64 (a19 : Int), .int .i64 a20, .int .i64 a21, .int .i64 a22, .int .i64 a23], .slice (some ⟨g, 0, none⟩) 1 c, .string (bs t)] w fun e w' => e = .returned (.agg (⟨6, a1, a2, a3, a4, a5, a6, a7, a8, a9, a10, a11, a12, a13, a14, a15, a16, (v0 : Nat), a18, a19, a20, a21, a22, a23⟩ : Rq).cs) ∧ Below w.heap.size w w'
  rw [← hR]
  unfold maxLen at hcm
  have zg := World.block_lt_of_cell? w _ h0
  simp only at zg
  have hb2 := blk_two w TQ TQ #[.int .i64 6, .int .i64 a1, .int .i64 a2, .int .u64 (a3 : Int), .int .i64 a4, .int .i64 a5, .int .i64 a6, .int .i64 a7, .int .i64 a8, .string (bs a9), .int .i64 a10, .int .i64 a11, .int .i64 a12, .int .i64 a13, .int .i64 a14, .int .i64 a15, .int .i64 a16, .int .u64 (v0 : Int), .int .i64 a18, .int .u64 (a19 : Int), .int .i64 a20, .int .i64 a21, .int .i64 a22, .int .i64 a23] #[.int .i64 0, .int .i64 0, .int .i64 0, .int .u64 0, .int .i64 0, .int .i64 0, .int .i64 0, .int .i64 0, .int .i64 0, .string ⟨#[]⟩, .int .i64 0, .int .i64 0, .int .i64 0, .int .i64 0, .int .i64 0, .int .i64 0, .int .i64 0, .int .u64 0, .int .i64 0, .int .u64 0, .int .i64 0, .int .i64 0, .int .i64 0, .int .i64 0]
  have hp : Blk ((w.alloc (.cells #[.int .i64 6, .int .i64 a1, .int .i64 a2, .int .u64 (a3 : Int), .int .i64 a4, .int .i64 a5, .int .i64 a6, .int .i64 a7, .int .i64 a8, .string (bs a9), .int .i64 a10, .int .i64 a11, .int .i64 a12, .int .i64 a13, .int .i64 a14, .int .i64 a15, .int .i64 a16, .int .u64 (v0 : Int), .int .i64 a18, .int .u64 (a19 : Int), .int .i64 a20, .int .i64 a21, .int .i64 a22, .int .i64 a23] TQ)).alloc (.cells #[.int .i64 0, .int .i64 0, .int .i64 0, .int .u64 0, .int .i64 0, .int .i64 0, .int .i64 0, .int .i64 0, .int .i64 0, .string ⟨#[]⟩, .int .i64 0, .int .i64 0, .int .i64 0, .int .i64 0, .int .i64 0, .int .i64 0, .int .i64 0, .int .u64 0, .int .i64 0, .int .u64 0, .int .i64 0, .int .i64 0, .int .i64 0, .int .i64 0] TQ)) w.heap.size TQ R.cs := by rw [hR]; exact hb2.1
  have hz : Blk ((w.alloc (.cells #[.int .i64 6, .int .i64 a1, .int .i64 a2, .int .u64 (a3 : Int), .int .i64 a4, .int .i64 a5, .int .i64 a6, .int .i64 a7, .int .i64 a8, .string (bs a9), .int .i64 a10, .int .i64 a11, .int .i64 a12, .int .i64 a13, .int .i64 a14, .int .i64 a15, .int .i64 a16, .int .u64 (v0 : Int), .int .i64 a18, .int .u64 (a19 : Int), .int .i64 a20, .int .i64 a21, .int .i64 a22, .int .i64 a23] TQ)).alloc (.cells #[.int .i64 0, .int .i64 0, .int .i64 0, .int .u64 0, .int .i64 0, .int .i64 0, .int .i64 0, .int .i64 0, .int .i64 0, .string ⟨#[]⟩, .int .i64 0, .int .i64 0, .int .i64 0, .int .i64 0, .int .i64 0, .int .i64 0, .int .i64 0, .int .u64 0, .int .i64 0, .int .u64 0, .int .i64 0, .int .i64 0, .int .i64 0, .int .i64 0] TQ)) (w.heap.size + 1) TQ Rq.z.cs := hb2.2
  have hbl : Below w.heap.size w ((w.alloc (.cells #[.int .i64 6, .int .i64 a1, .int .i64 a2, .int .u64 (a3 : Int), .int .i64 a4, .int .i64 a5, .int .i64 a6, .int .i64 a7, .int .i64 a8, .string (bs a9), .int .i64 a10, .int .i64 a11, .int .i64 a12, .int .i64 a13, .int .i64 a14, .int .i64 a15, .int .i64 a16, .int .u64 (v0 : Int), .int .i64 a18, .int .u64 (a19 : Int), .int .i64 a20, .int .i64 a21, .int .i64 a22, .int .i64 a23] TQ)).alloc (.cells #[.int .i64 0, .int .i64 0, .int .i64 0, .int .u64 0, .int .i64 0, .int .i64 0, .int .i64 0, .int .i64 0, .int .i64 0, .string ⟨#[]⟩, .int .i64 0, .int .i64 0, .int .i64 0, .int .i64 0, .int .i64 0, .int .i64 0, .int .i64 0, .int .u64 0, .int .i64 0, .int .u64 0, .int .i64 0, .int .i64 0, .int .i64 0, .int .i64 0] TQ)) := ((Below.refl _ _).alloc (Nat.le_refl _) _).alloc (by simp) _
  have hld := run_ldQ hp
  obtain ⟨w3, hst, hp3, hb3⟩ := store_at (r := R) (by omega) hz hbl
  have HP3 := Lib.hid hp3
  have HB3 := Lib.hid hb3
  clear hb2 hp hz hbl hR hp3 hb3
  go_enter Try.func22, Try.ntmps22
  go_wp2_with fail
  exact bodyPost_ret (v := .agg R.cs) (with_results _ rfl HP3.out) rfl ⟨rfl, HB3.out⟩
set_option maxRecDepth 100000 in
set_option maxHeartbeats 8000000 in
theorem with_7 (w : World) (r : Rq) (hop : r.op = 7) (t : Bs) (g c : Nat) (v0 v1 : Nat) (b0 : v0 ≤ 4294967295) (h0 : w.cell? ⟨g, 0, none⟩ = some (.int .u64 (v0 : Int))) (h1 : w.cell? ⟨g, 1, none⟩ = some (.int .u64 (v1 : Int))) (hc : 2 ≤ c) (hcm : c ≤ maxLen) :
    Calls Try.prog 22 #[.agg r.cs, .slice (some ⟨g, 0, none⟩) 2 c, .string (bs t)] w fun e w' => e = .returned (.agg ({ r with k := (v0 : Int), area := (v1 : Nat) } : Rq).cs) ∧ Below w.heap.size w w' := by
  obtain ⟨a0, a1, a2, a3, a4, a5, a6, a7, a8, a9, a10, a11, a12, a13, a14, a15, a16, a17, a18, a19, a20, a21, a22, a23⟩ := r
  obtain rfl := hop
  obtain ⟨R, hR⟩ : ∃ R : Rq, R = ⟨7, a1, a2, a3, a4, a5, a6, a7, a8, a9, a10, a11, a12, a13, a14, a15, a16, a17, (v0 : Int), (v1 : Nat), a20, a21, a22, a23⟩ := ⟨_, rfl⟩
  have HR := Lib.hid hR
  show Calls Try.prog 22 #[.agg #[.int .i64 7, .int .i64 a1, .int .i64 a2, .int .u64 (a3 : Int), .int .i64 a4, .int .i64 a5, .int .i64 a6, .int .i64 a7, .int .i64 a8, .string (bs a9), .int .i64 a10, .int .i64 a11, .int .i64 a12, .int .i64 a13, .int .i64 a14, .int .i64 a15, .int .i64 a16, .int .u64 (a17 : Int), .int .i64 a18, .int .u64 (a19 : Int), .int .i64 a20, .int .i64 a21, .int .i64 a22, .int .i64 a23], .slice (some ⟨g, 0, none⟩) 2 c, .string (bs t)] w fun e w' => e = .returned (.agg (⟨7, a1, a2, a3, a4, a5, a6, a7, a8, a9, a10, a11, a12, a13, a14, a15, a16, a17, (v0 : Int), (v1 : Nat), a20, a21, a22, a23⟩ : Rq).cs) ∧ Below w.heap.size w w'
  rw [← hR]
  unfold maxLen at hcm
  have wv0 := wrapS b0
  have zg := World.block_lt_of_cell? w _ h0
  simp only at zg
  have hb2 := blk_two w TQ TQ #[.int .i64 7, .int .i64 a1, .int .i64 a2, .int .u64 (a3 : Int), .int .i64 a4, .int .i64 a5, .int .i64 a6, .int .i64 a7, .int .i64 a8, .string (bs a9), .int .i64 a10, .int .i64 a11, .int .i64 a12, .int .i64 a13, .int .i64 a14, .int .i64 a15, .int .i64 a16, .int .u64 (a17 : Int), .int .i64 (v0 : Int), .int .u64 (v1 : Int), .int .i64 a20, .int .i64 a21, .int .i64 a22, .int .i64 a23] #[.int .i64 0, .int .i64 0, .int .i64 0, .int .u64 0, .int .i64 0, .int .i64 0, .int .i64 0, .int .i64 0, .int .i64 0, .string ⟨#[]⟩, .int .i64 0, .int .i64 0, .int .i64 0, .int .i64 0, .int .i64 0, .int .i64 0, .int .i64 0, .int .u64 0, .int .i64 0, .int .u64 0, .int .i64 0, .int .i64 0, .int .i64 0, .int .i64 0]
  have hp : Blk ((w.alloc (.cells #[.int .i64 7, .int .i64 a1, .int .i64 a2, .int .u64 (a3 : Int), .int .i64 a4, .int .i64 a5, .int .i64 a6, .int .i64 a7, .int .i64 a8, .string (bs a9), .int .i64 a10, .int .i64 a11, .int .i64 a12, .int .i64 a13, .int .i64 a14, .int .i64 a15, .int .i64 a16, .int .u64 (a17 : Int), .int .i64 (v0 : Int), .int .u64 (v1 : Int), .int .i64 a20, .int .i64 a21, .int .i64 a22, .int .i64 a23] TQ)).alloc (.cells #[.int .i64 0, .int .i64 0, .int .i64 0, .int .u64 0, .int .i64 0, .int .i64 0, .int .i64 0, .int .i64 0, .int .i64 0, .string ⟨#[]⟩, .int .i64 0, .int .i64 0, .int .i64 0, .int .i64 0, .int .i64 0, .int .i64 0, .int .i64 0, .int .u64 0, .int .i64 0, .int .u64 0, .int .i64 0, .int .i64 0, .int .i64 0, .int .i64 0] TQ)).drew w.heap.size TQ R.cs := by rw [hR]; exact hb2.1
  have hz : Blk ((w.alloc (.cells #[.int .i64 7, .int .i64 a1, .int .i64 a2, .int .u64 (a3 : Int), .int .i64 a4, .int .i64 a5, .int .i64 a6, .int .i64 a7, .int .i64 a8, .string (bs a9), .int .i64 a10, .int .i64 a11, .int .i64 a12, .int .i64 a13, .int .i64 a14, .int .i64 a15, .int .i64 a16, .int .u64 (a17 : Int), .int .i64 (v0 : Int), .int .u64 (v1 : Int), .int .i64 a20, .int .i64 a21, .int .i64 a22, .int .i64 a23] TQ)).alloc (.cells #[.int .i64 0, .int .i64 0, .int .i64 0, .int .u64 0, .int .i64 0, .int .i64 0, .int .i64 0, .int .i64 0, .int .i64 0, .string ⟨#[]⟩, .int .i64 0, .int .i64 0, .int .i64 0, .int .i64 0, .int .i64 0, .int .i64 0, .int .i64 0, .int .u64 0, .int .i64 0, .int .u64 0, .int .i64 0, .int .i64 0, .int .i64 0, .int .i64 0] TQ)).drew (w.heap.size + 1) TQ Rq.z.cs := hb2.2
  have hbl : Below w.heap.size w ((w.alloc (.cells #[.int .i64 7, .int .i64 a1, .int .i64 a2, .int .u64 (a3 : Int), .int .i64 a4, .int .i64 a5, .int .i64 a6, .int .i64 a7, .int .i64 a8, .string (bs a9), .int .i64 a10, .int .i64 a11, .int .i64 a12, .int .i64 a13, .int .i64 a14, .int .i64 a15, .int .i64 a16, .int .u64 (a17 : Int), .int .i64 (v0 : Int), .int .u64 (v1 : Int), .int .i64 a20, .int .i64 a21, .int .i64 a22, .int .i64 a23] TQ)).alloc (.cells #[.int .i64 0, .int .i64 0, .int .i64 0, .int .u64 0, .int .i64 0, .int .i64 0, .int .i64 0, .int .i64 0, .int .i64 0, .string ⟨#[]⟩, .int .i64 0, .int .i64 0, .int .i64 0, .int .i64 0, .int .i64 0, .int .i64 0, .int .i64 0, .int .u64 0, .int .i64 0, .int .u64 0, .int .i64 0, .int .i64 0, .int .i64 0, .int .i64 0] TQ)).drew := below_drawn (((Below.refl _ _).alloc (Nat.le_refl _) _).alloc (by simp) _) 1
  have hld := run_ldQ hp
  obtain ⟨w3, hst, hp3, hb3⟩ := store_at (r := R) (by omega) hz hbl
  have HP3 := Lib.hid hp3
  have HB3 := Lib.hid hb3
  clear hb2 hp hz hbl hR hp3 hb3 b0
  go_enter Try.func22, Try.ntmps22
  go_wp2_with fail
  go_region
  go_wp2_with fail
  exact bodyPost_ret (v := .agg R.cs) (with_results _ rfl HP3.out) rfl ⟨rfl, HB3.out⟩
set_option maxRecDepth 100000 in
set_option maxHeartbeats 8000000 in
theorem with_8 (w : World) (r : Rq) (hop : r.op = 8) (t : Bs) (g c : Nat) (v0 v1 v2 : Nat) (b0 : v0 ≤ 4294967295) (b1 : v1 ≤ 4294967295) (b2 : v2 ≤ 4294967295) (h0 : w.cell? ⟨g, 0, none⟩ = some (.int .u64 (v0 : Int))) (h1 : w.cell? ⟨g, 1, none⟩ = some (.int .u64 (v1 : Int))) (h2 : w.cell? ⟨g, 2, none⟩ = some (.int .u64 (v2 : Int))) (hc : 3 ≤ c) (hcm : c ≤ maxLen) :
    Calls Try.prog 22 #[.agg r.cs, .slice (some ⟨g, 0, none⟩) 3 c, .string (bs t)] w fun e w' => e = .returned (.agg ({ r with px := (v0 : Int), py := (v1 : Int), lab := (v2 : Int) } : Rq).cs) ∧ Below w.heap.size w w' := by
  obtain ⟨a0, a1, a2, a3, a4, a5, a6, a7, a8, a9, a10, a11, a12, a13, a14, a15, a16, a17, a18, a19, a20, a21, a22, a23⟩ := r
  obtain rfl := hop
  obtain ⟨R, hR⟩ : ∃ R : Rq, R = ⟨8, a1, a2, a3, a4, a5, a6, a7, a8, a9, a10, a11, a12, a13, a14, a15, a16, a17, a18, a19, (v0 : Int), (v1 : Int), (v2 : Int), a23⟩ := ⟨_, rfl⟩
  have HR := Lib.hid hR
  show Calls Try.prog 22 #[.agg #[.int .i64 8, .int .i64 a1, .int .i64 a2, .int .u64 (a3 : Int), .int .i64 a4, .int .i64 a5, .int .i64 a6, .int .i64 a7, .int .i64 a8, .string (bs a9), .int .i64 a10, .int .i64 a11, .int .i64 a12, .int .i64 a13, .int .i64 a14, .int .i64 a15, .int .i64 a16, .int .u64 (a17 : Int), .int .i64 a18, .int .u64 (a19 : Int), .int .i64 a20, .int .i64 a21, .int .i64 a22, .int .i64 a23], .slice (some ⟨g, 0, none⟩) 3 c, .string (bs t)] w fun e w' => e = .returned (.agg (⟨8, a1, a2, a3, a4, a5, a6, a7, a8, a9, a10, a11, a12, a13, a14, a15, a16, a17, a18, a19, (v0 : Int), (v1 : Int), (v2 : Int), a23⟩ : Rq).cs) ∧ Below w.heap.size w w'
  rw [← hR]
  unfold maxLen at hcm
  have wv0 := wrapS b0
  have wv1 := wrapS b1
  have wv2 := wrapS b2
  have zg := World.block_lt_of_cell? w _ h0
  simp only at zg
  have hbl : Below w.heap.size w ((w.alloc (.cells #[.int .i64 8, .int .i64 a1, .int .i64 a2, .int .u64 (a3 : Int), .int .i64 a4, .int .i64 a5, .int .i64 a6, .int .i64 a7, .int .i64 a8, .string (bs a9), .int .i64 a10, .int .i64 a11, .int .i64 a12, .int .i64 a13, .int .i64 a14, .int .i64 a15, .int .i64 a16, .int .u64 (a17 : Int), .int .i64 a18, .int .u64 (a19 : Int), .int .i64 a20, .int .i64 a21, .int .i64 a22, .int .i64 a23] TQ)).alloc (.cells #[.int .i64 0, .int .i64 0, .int .i64 0, .int .u64 0, .int .i64 0, .int .i64 0, .int .i64 0, .int .i64 0, .int .i64 0, .string ⟨#[]⟩, .int .i64 0, .int .i64 0, .int .i64 0, .int .i64 0, .int .i64 0, .int .i64 0, .int .i64 0, .int .u64 0, .int .i64 0, .int .u64 0, .int .i64 0, .int .i64 0, .int .i64 0, .int .i64 0] TQ)) := ((Below.refl _ _).alloc (Nat.le_refl _) _).alloc (by simp) _
  have hb2 := blk_two w TQ TQ #[.int .i64 8, .int .i64 a1, .int .i64 a2, .int .u64 (a3 : Int), .int .i64 a4, .int .i64 a5, .int .i64 a6, .int .i64 a7, .int .i64 a8, .string (bs a9), .int .i64 a10, .int .i64 a11, .int .i64 a12, .int .i64 a13, .int .i64 a14, .int .i64 a15, .int .i64 a16, .int .u64 (a17 : Int), .int .i64 a18, .int .u64 (a19 : Int), .int .i64 a20, .int .i64 a21, .int .i64 a22, .int .i64 a23] #[.int .i64 0, .int .i64 0, .int .i64 0, .int .u64 0, .int .i64 0, .int .i64 0, .int .i64 0, .int .i64 0, .int .i64 0, .string ⟨#[]⟩, .int .i64 0, .int .i64 0, .int .i64 0, .int .i64 0, .int .i64 0, .int .i64 0, .int .i64 0, .int .u64 0, .int .i64 0, .int .u64 0, .int .i64 0, .int .i64 0, .int .i64 0, .int .i64 0]
  have j0 := cell_al (cell_al h0 (.cells #[.int .i64 8, .int .i64 a1, .int .i64 a2, .int .u64 (a3 : Int), .int .i64 a4, .int .i64 a5, .int .i64 a6, .int .i64 a7, .int .i64 a8, .string (bs a9), .int .i64 a10, .int .i64 a11, .int .i64 a12, .int .i64 a13, .int .i64 a14, .int .i64 a15, .int .i64 a16, .int .u64 (a17 : Int), .int .i64 a18, .int .u64 (a19 : Int), .int .i64 a20, .int .i64 a21, .int .i64 a22, .int .i64 a23] TQ)) (.cells #[.int .i64 0, .int .i64 0, .int .i64 0, .int .u64 0, .int .i64 0, .int .i64 0, .int .i64 0, .int .i64 0, .int .i64 0, .string ⟨#[]⟩, .int .i64 0, .int .i64 0, .int .i64 0, .int .i64 0, .int .i64 0, .int .i64 0, .int .i64 0, .int .u64 0, .int .i64 0, .int .u64 0, .int .i64 0, .int .i64 0, .int .i64 0, .int .i64 0] TQ)
  have j1 := cell_al (cell_al h1 (.cells #[.int .i64 8, .int .i64 a1, .int .i64 a2, .int .u64 (a3 : Int), .int .i64 a4, .int .i64 a5, .int .i64 a6, .int .i64 a7, .int .i64 a8, .string (bs a9), .int .i64 a10, .int .i64 a11, .int .i64 a12, .int .i64 a13, .int .i64 a14, .int .i64 a15, .int .i64 a16, .int .u64 (a17 : Int), .int .i64 a18, .int .u64 (a19 : Int), .int .i64 a20, .int .i64 a21, .int .i64 a22, .int .i64 a23] TQ)) (.cells #[.int .i64 0, .int .i64 0, .int .i64 0, .int .u64 0, .int .i64 0, .int .i64 0, .int .i64 0, .int .i64 0, .int .i64 0, .string ⟨#[]⟩, .int .i64 0, .int .i64 0, .int .i64 0, .int .i64 0, .int .i64 0, .int .i64 0, .int .i64 0, .int .u64 0, .int .i64 0, .int .u64 0, .int .i64 0, .int .i64 0, .int .i64 0, .int .i64 0] TQ)
  have j2 := cell_al (cell_al h2 (.cells #[.int .i64 8, .int .i64 a1, .int .i64 a2, .int .u64 (a3 : Int), .int .i64 a4, .int .i64 a5, .int .i64 a6, .int .i64 a7, .int .i64 a8, .string (bs a9), .int .i64 a10, .int .i64 a11, .int .i64 a12, .int .i64 a13, .int .i64 a14, .int .i64 a15, .int .i64 a16, .int .u64 (a17 : Int), .int .i64 a18, .int .u64 (a19 : Int), .int .i64 a20, .int .i64 a21, .int .i64 a22, .int .i64 a23] TQ)) (.cells #[.int .i64 0, .int .i64 0, .int .i64 0, .int .u64 0, .int .i64 0, .int .i64 0, .int .i64 0, .int .i64 0, .int .i64 0, .string ⟨#[]⟩, .int .i64 0, .int .i64 0, .int .i64 0, .int .i64 0, .int .i64 0, .int .i64 0, .int .i64 0, .int .u64 0, .int .i64 0, .int .u64 0, .int .i64 0, .int .i64 0, .int .i64 0, .int .i64 0] TQ)
  have HCL := Lib.hid (point19_any ((w.alloc (.cells #[.int .i64 8, .int .i64 a1, .int .i64 a2, .int .u64 (a3 : Int), .int .i64 a4, .int .i64 a5, .int .i64 a6, .int .i64 a7, .int .i64 a8, .string (bs a9), .int .i64 a10, .int .i64 a11, .int .i64 a12, .int .i64 a13, .int .i64 a14, .int .i64 a15, .int .i64 a16, .int .u64 (a17 : Int), .int .i64 a18, .int .u64 (a19 : Int), .int .i64 a20, .int .i64 a21, .int .i64 a22, .int .i64 a23] TQ)).alloc (.cells #[.int .i64 0, .int .i64 0, .int .i64 0, .int .u64 0, .int .i64 0, .int .i64 0, .int .i64 0, .int .i64 0, .int .i64 0, .string ⟨#[]⟩, .int .i64 0, .int .i64 0, .int .i64 0, .int .i64 0, .int .i64 0, .int .i64 0, .int .i64 0, .int .u64 0, .int .i64 0, .int .u64 0, .int .i64 0, .int .i64 0, .int .i64 0, .int .i64 0] TQ)) g 0 3 c v0 v1 b0 b1 (by decide) j0 j1)
  have HBL := Lib.hid hbl
  have HB2 := Lib.hid hb2
  have J0 := Lib.hid j0
  have J1 := Lib.hid j1
  have J2 := Lib.hid j2
  have ZG := Lib.hid zg
  clear hbl hb2 j0 j1 j2 b0 b1 b2
  go_enter Try.func22, Try.ntmps22
  go_wp2_with fail
  refine HCL.out.mono ?_
  rintro e w1 ⟨rfl, hb1⟩
  have hp1 := HB2.out.1.thru0 hb1
  have hz1 := HB2.out.2.thru0 hb1
  have c20 := hp1.cell 20
  have f20 := hp1.frozen 20
  have c21 := hp1.cell 21
  have f21 := hp1.frozen 21
  have c22 := hp1.cell 22
  have f22 := hp1.frozen 22
  have l2 : w1.cell? ⟨g, 2, none⟩ = _ := cell_block J2.out fun hl => hb1.block _ hl
  simp only [List.getElem?_toArray, List.getElem?_cons_zero, List.getElem?_cons_succ] at c20 c21 c22
  have hp : Blk (((w1.setCell ⟨w.heap.size, 20, none⟩ (.int .i64 (v0 : Int))).setCell ⟨w.heap.size, 21, none⟩ (.int .i64 (v1 : Int))).setCell ⟨w.heap.size, 22, none⟩ (.int .i64 (v2 : Int))) w.heap.size TQ R.cs := by
    have := (((hp1.set_ 20 (.int .i64 (v0 : Int))).set_ 21 (.int .i64 (v1 : Int))).set_ 22 (.int .i64 (v2 : Int)))
    rw [HR.out]
    exact this
  have hz : Blk (((w1.setCell ⟨w.heap.size, 20, none⟩ (.int .i64 (v0 : Int))).setCell ⟨w.heap.size, 21, none⟩ (.int .i64 (v1 : Int))).setCell ⟨w.heap.size, 22, none⟩ (.int .i64 (v2 : Int))) (w.heap.size + 1) TQ Rq.z.cs := (((hz1.far (p := ⟨w.heap.size, 20, none⟩) (by show w.heap.size + 1 ≠ w.heap.size; omega) (.int .i64 (v0 : Int))).far (p := ⟨w.heap.size, 21, none⟩) (by show w.heap.size + 1 ≠ w.heap.size; omega) (.int .i64 (v1 : Int))).far (p := ⟨w.heap.size, 22, none⟩) (by show w.heap.size + 1 ≠ w.heap.size; omega) (.int .i64 (v2 : Int)))
  have hbl : Below w.heap.size w (((w1.setCell ⟨w.heap.size, 20, none⟩ (.int .i64 (v0 : Int))).setCell ⟨w.heap.size, 21, none⟩ (.int .i64 (v1 : Int))).setCell ⟨w.heap.size, 22, none⟩ (.int .i64 (v2 : Int))) := (below_setc (below_setc (below_setc (HBL.out.trans (hb1.mono HBL.out.size)) (Nat.le_refl _) 20 (.int .i64 (v0 : Int))) (Nat.le_refl _) 21 (.int .i64 (v1 : Int))) (Nat.le_refl _) 22 (.int .i64 (v2 : Int)))
  have hld := run_ldQ hp
  obtain ⟨w3, hst, hp3, hb3⟩ := store_at (r := R) (by omega) hz hbl
  have HP3 := Lib.hid hp3
  have HB3 := Lib.hid hb3
  clear hp hz hbl hp3 hb3 hb1 hp1 hz1 HCL hR
  have zq : g ≠ w.heap.size := by have := ZG.out; omega
  have zq2 : w.heap.size ≠ g := by omega
  go_wp2_with fail
  exact bodyPost_ret (v := .agg R.cs) (with_results _ rfl HP3.out) rfl ⟨rfl, HB3.out⟩
set_option maxRecDepth 100000 in
set_option maxHeartbeats 8000000 in
theorem with_9 (w : World) (r : Rq) (hop : r.op = 9) (t : Bs) (A : Option Addr) (n c : Nat) :
    Calls Try.prog 22 #[.agg r.cs, .slice A n c, .string (bs t)] w fun e w' => e = .returned (.agg (r : Rq).cs) ∧ Below w.heap.size w w' := by
  obtain ⟨a0, a1, a2, a3, a4, a5, a6, a7, a8, a9, a10, a11, a12, a13, a14, a15, a16, a17, a18, a19, a20, a21, a22, a23⟩ := r
  obtain rfl := hop
  obtain ⟨R, hR⟩ : ∃ R : Rq, R = ⟨9, a1, a2, a3, a4, a5, a6, a7, a8, a9, a10, a11, a12, a13, a14, a15, a16, a17, a18, a19, a20, a21, a22, a23⟩ := ⟨_, rfl⟩
  have HR := Lib.hid hR
  show Calls Try.prog 22 #[.agg #[.int .i64 9, .int .i64 a1, .int .i64 a2, .int .u64 (a3 : Int), .int .i64 a4, .int .i64 a5, .int .i64 a6, .int .i64 a7, .int .i64 a8, .string (bs a9), .int .i64 a10, .int .i64 a11, .int .i64 a12, .int .i64 a13, .int .i64 a14, .int .i64 a15, .int .i64 a16, .int .u64 (a17 : Int), .int .i64 a18, .int .u64 (a19 : Int), .int .i64 a20, .int .i64 a21, .int .i64 a22, .int .i64 a23], .slice A n c, .string (bs t)] w fun e w' => e = .returned (.agg (⟨9, a1, a2, a3, a4, a5, a6, a7, a8, a9, a10, a11, a12, a13, a14, a15, a16, a17, a18, a19, a20, a21, a22, a23⟩ : Rq).cs) ∧ Below w.heap.size w w'
  rw [← hR]
  have hb2 := blk_two w TQ TQ #[.int .i64 9, .int .i64 a1, .int .i64 a2, .int .u64 (a3 : Int), .int .i64 a4, .int .i64 a5, .int .i64 a6, .int .i64 a7, .int .i64 a8, .string (bs a9), .int .i64 a10, .int .i64 a11, .int .i64 a12, .int .i64 a13, .int .i64 a14, .int .i64 a15, .int .i64 a16, .int .u64 (a17 : Int), .int .i64 a18, .int .u64 (a19 : Int), .int .i64 a20, .int .i64 a21, .int .i64 a22, .int .i64 a23] #[.int .i64 0, .int .i64 0, .int .i64 0, .int .u64 0, .int .i64 0, .int .i64 0, .int .i64 0, .int .i64 0, .int .i64 0, .string ⟨#[]⟩, .int .i64 0, .int .i64 0, .int .i64 0, .int .i64 0, .int .i64 0, .int .i64 0, .int .i64 0, .int .u64 0, .int .i64 0, .int .u64 0, .int .i64 0, .int .i64 0, .int .i64 0, .int .i64 0]
  have hp : Blk ((w.alloc (.cells #[.int .i64 9, .int .i64 a1, .int .i64 a2, .int .u64 (a3 : Int), .int .i64 a4, .int .i64 a5, .int .i64 a6, .int .i64 a7, .int .i64 a8, .string (bs a9), .int .i64 a10, .int .i64 a11, .int .i64 a12, .int .i64 a13, .int .i64 a14, .int .i64 a15, .int .i64 a16, .int .u64 (a17 : Int), .int .i64 a18, .int .u64 (a19 : Int), .int .i64 a20, .int .i64 a21, .int .i64 a22, .int .i64 a23] TQ)).alloc (.cells #[.int .i64 0, .int .i64 0, .int .i64 0, .int .u64 0, .int .i64 0, .int .i64 0, .int .i64 0, .int .i64 0, .int .i64 0, .string ⟨#[]⟩, .int .i64 0, .int .i64 0, .int .i64 0, .int .i64 0, .int .i64 0, .int .i64 0, .int .i64 0, .int .u64 0, .int .i64 0, .int .u64 0, .int .i64 0, .int .i64 0, .int .i64 0, .int .i64 0] TQ)) w.heap.size TQ R.cs := by rw [hR]; exact hb2.1
  have hz : Blk ((w.alloc (.cells #[.int .i64 9, .int .i64 a1, .int .i64 a2, .int .u64 (a3 : Int), .int .i64 a4, .int .i64 a5, .int .i64 a6, .int .i64 a7, .int .i64 a8, .string (bs a9), .int .i64 a10, .int .i64 a11, .int .i64 a12, .int .i64 a13, .int .i64 a14, .int .i64 a15, .int .i64 a16, .int .u64 (a17 : Int), .int .i64 a18, .int .u64 (a19 : Int), .int .i64 a20, .int .i64 a21, .int .i64 a22, .int .i64 a23] TQ)).alloc (.cells #[.int .i64 0, .int .i64 0, .int .i64 0, .int .u64 0, .int .i64 0, .int .i64 0, .int .i64 0, .int .i64 0, .int .i64 0, .string ⟨#[]⟩, .int .i64 0, .int .i64 0, .int .i64 0, .int .i64 0, .int .i64 0, .int .i64 0, .int .i64 0, .int .u64 0, .int .i64 0, .int .u64 0, .int .i64 0, .int .i64 0, .int .i64 0, .int .i64 0] TQ)) (w.heap.size + 1) TQ Rq.z.cs := hb2.2
  have hbl : Below w.heap.size w ((w.alloc (.cells #[.int .i64 9, .int .i64 a1, .int .i64 a2, .int .u64 (a3 : Int), .int .i64 a4, .int .i64 a5, .int .i64 a6, .int .i64 a7, .int .i64 a8, .string (bs a9), .int .i64 a10, .int .i64 a11, .int .i64 a12, .int .i64 a13, .int .i64 a14, .int .i64 a15, .int .i64 a16, .int .u64 (a17 : Int), .int .i64 a18, .int .u64 (a19 : Int), .int .i64 a20, .int .i64 a21, .int .i64 a22, .int .i64 a23] TQ)).alloc (.cells #[.int .i64 0, .int .i64 0, .int .i64 0, .int .u64 0, .int .i64 0, .int .i64 0, .int .i64 0, .int .i64 0, .int .i64 0, .string ⟨#[]⟩, .int .i64 0, .int .i64 0, .int .i64 0, .int .i64 0, .int .i64 0, .int .i64 0, .int .i64 0, .int .u64 0, .int .i64 0, .int .u64 0, .int .i64 0, .int .i64 0, .int .i64 0, .int .i64 0] TQ)) := ((Below.refl _ _).alloc (Nat.le_refl _) _).alloc (by simp) _
  have hld := run_ldQ hp
  obtain ⟨w3, hst, hp3, hb3⟩ := store_at (r := R) (by omega) hz hbl
  have HP3 := Lib.hid hp3
  have HB3 := Lib.hid hb3
  clear hb2 hp hz hbl hR hp3 hb3
  go_enter Try.func22, Try.ntmps22
  go_wp2_with fail
  exact bodyPost_ret (v := .agg R.cs) (with_results _ rfl HP3.out) rfl ⟨rfl, HB3.out⟩
set_option maxRecDepth 100000 in
set_option maxHeartbeats 8000000 in
theorem with_10 (w : World) (r : Rq) (hop : r.op = 10) (t : Bs) (A : Option Addr) (n c : Nat) :
    Calls Try.prog 22 #[.agg r.cs, .slice A n c, .string (bs t)] w fun e w' => e = .returned (.agg (r : Rq).cs) ∧ Below w.heap.size w w' := by
  obtain ⟨a0, a1, a2, a3, a4, a5, a6, a7, a8, a9, a10, a11, a12, a13, a14, a15, a16, a17, a18, a19, a20, a21, a22, a23⟩ := r
  obtain rfl := hop
  obtain ⟨R, hR⟩ : ∃ R : Rq, R = ⟨10, a1, a2, a3, a4, a5, a6, a7, a8, a9, a10, a11, a12, a13, a14, a15, a16, a17, a18, a19, a20, a21, a22, a23⟩ := ⟨_, rfl⟩
  have HR := Lib.hid hR
  show Calls Try.prog 22 #[.agg #[.int .i64 10, .int .i64 a1, .int .i64 a2, .int .u64 (a3 : Int), .int .i64 a4, .int .i64 a5, .int .i64 a6, .int .i64 a7, .int .i64 a8, .string (bs a9), .int .i64 a10, .int .i64 a11, .int .i64 a12, .int .i64 a13, .int .i64 a14, .int .i64 a15, .int .i64 a16, .int .u64 (a17 : Int), .int .i64 a18, .int .u64 (a19 : Int), .int .i64 a20, .int .i64 a21, .int .i64 a22, .int .i64 a23], .slice A n c, .string (bs t)] w fun e w' => e = .returned (.agg (⟨10, a1, a2, a3, a4, a5, a6, a7, a8, a9, a10, a11, a12, a13, a14, a15, a16, a17, a18, a19, a20, a21, a22, a23⟩ : Rq).cs) ∧ Below w.heap.size w w'
  rw [← hR]
  have hb2 := blk_two w TQ TQ #[.int .i64 10, .int .i64 a1, .int .i64 a2, .int .u64 (a3 : Int), .int .i64 a4, .int .i64 a5, .int .i64 a6, .int .i64 a7, .int .i64 a8, .string (bs a9), .int .i64 a10, .int .i64 a11, .int .i64 a12, .int .i64 a13, .int .i64 a14, .int .i64 a15, .int .i64 a16, .int .u64 (a17 : Int), .int .i64 a18, .int .u64 (a19 : Int), .int .i64 a20, .int .i64 a21, .int .i64 a22, .int .i64 a23] #[.int .i64 0, .int .i64 0, .int .i64 0, .int .u64 0, .int .i64 0, .int .i64 0, .int .i64 0, .int .i64 0, .int .i64 0, .string ⟨#[]⟩, .int .i64 0, .int .i64 0, .int .i64 0, .int .i64 0, .int .i64 0, .int .i64 0, .int .i64 0, .int .u64 0, .int .i64 0, .int .u64 0, .int .i64 0, .int .i64 0, .int .i64 0, .int .i64 0]
  have hp : Blk ((w.alloc (.cells #[.int .i64 10, .int .i64 a1, .int .i64 a2, .int .u64 (a3 : Int), .int .i64 a4, .int .i64 a5, .int .i64 a6, .int .i64 a7, .int .i64 a8, .string (bs a9), .int .i64 a10, .int .i64 a11, .int .i64 a12, .int .i64 a13, .int .i64 a14, .int .i64 a15, .int .i64 a16, .int .u64 (a17 : Int), .int .i64 a18, .int .u64 (a19 : Int), .int .i64 a20, .int .i64 a21, .int .i64 a22, .int .i64 a23] TQ)).alloc (.cells #[.int .i64 0, .int .i64 0, .int .i64 0, .int .u64 0, .int .i64 0, .int .i64 0, .int .i64 0, .int .i64 0, .int .i64 0, .string ⟨#[]⟩, .int .i64 0, .int .i64 0, .int .i64 0, .int .i64 0, .int .i64 0, .int .i64 0, .int .i64 0, .int .u64 0, .int .i64 0, .int .u64 0, .int .i64 0, .int .i64 0, .int .i64 0, .int .i64 0] TQ)) w.heap.size TQ R.cs := by rw [hR]; exact hb2.1
  have hz : Blk ((w.alloc (.cells #[.int .i64 10, .int .i64 a1, .int .i64 a2, .int .u64 (a3 : Int), .int .i64 a4, .int .i64 a5, .int .i64 a6, .int .i64 a7, .int .i64 a8, .string (bs a9), .int .i64 a10, .int .i64 a11, .int .i64 a12, .int .i64 a13, .int .i64 a14, .int .i64 a15, .int .i64 a16, .int .u64 (a17 : Int), .int .i64 a18, .int .u64 (a19 : Int), .int .i64 a20, .int .i64 a21, .int .i64 a22, .int .i64 a23] TQ)).alloc (.cells #[.int .i64 0, .int .i64 0, .int .i64 0, .int .u64 0, .int .i64 0, .int .i64 0, .int .i64 0, .int .i64 0, .int .i64 0, .string ⟨#[]⟩, .int .i64 0, .int .i64 0, .int .i64 0, .int .i64 0, .int .i64 0, .int .i64 0, .int .i64 0, .int .u64 0, .int .i64 0, .int .u64 0, .int .i64 0, .int .i64 0, .int .i64 0, .int .i64 0] TQ)) (w.heap.size + 1) TQ Rq.z.cs := hb2.2
  have hbl : Below w.heap.size w ((w.alloc (.cells #[.int .i64 10, .int .i64 a1, .int .i64 a2, .int .u64 (a3 : Int), .int .i64 a4, .int .i64 a5, .int .i64 a6, .int .i64 a7, .int .i64 a8, .string (bs a9), .int .i64 a10, .int .i64 a11, .int .i64 a12, .int .i64 a13, .int .i64 a14, .int .i64 a15, .int .i64 a16, .int .u64 (a17 : Int), .int .i64 a18, .int .u64 (a19 : Int), .int .i64 a20, .int .i64 a21, .int .i64 a22, .int .i64 a23] TQ)).alloc (.cells #[.int .i64 0, .int .i64 0, .int .i64 0, .int .u64 0, .int .i64 0, .int .i64 0, .int .i64 0, .int .i64 0, .int .i64 0, .string ⟨#[]⟩, .int .i64 0, .int .i64 0, .int .i64 0, .int .i64 0, .int .i64 0, .int .i64 0, .int .i64 0, .int .u64 0, .int .i64 0, .int .u64 0, .int .i64 0, .int .i64 0, .int .i64 0, .int .i64 0] TQ)) := ((Below.refl _ _).alloc (Nat.le_refl _) _).alloc (by simp) _
  have hld := run_ldQ hp
  obtain ⟨w3, hst, hp3, hb3⟩ := store_at (r := R) (by omega) hz hbl
  have HP3 := Lib.hid hp3
  have HB3 := Lib.hid hb3
  clear hb2 hp hz hbl hR hp3 hb3
  go_enter Try.func22, Try.ntmps22
  go_wp2_with fail
  exact bodyPost_ret (v := .agg R.cs) (with_results _ rfl HP3.out) rfl ⟨rfl, HB3.out⟩
set_option maxRecDepth 100000 in
set_option maxHeartbeats 8000000 in
theorem with_11 (w : World) (r : Rq) (hop : r.op = 11) (t : Bs) (A : Option Addr) (n c : Nat) :
    Calls Try.prog 22 #[.agg r.cs, .slice A n c, .string (bs t)] w fun e w' => e = .returned (.agg (r : Rq).cs) ∧ Below w.heap.size w w' := by
  obtain ⟨a0, a1, a2, a3, a4, a5, a6, a7, a8, a9, a10, a11, a12, a13, a14, a15, a16, a17, a18, a19, a20, a21, a22, a23⟩ := r
  obtain rfl := hop
  obtain ⟨R, hR⟩ : ∃ R : Rq, R = ⟨11, a1, a2, a3, a4, a5, a6, a7, a8, a9, a10, a11, a12, a13, a14, a15, a16, a17, a18, a19, a20, a21, a22, a23⟩ := ⟨_, rfl⟩
  have HR := Lib.hid hR
  show Calls Try.prog 22 #[.agg #[.int .i64 11, .int .i64 a1, .int .i64 a2, .int .u64 (a3 : Int), .int .i64 a4, .int .i64 a5, .int .i64 a6, .int .i64 a7, .int .i64 a8, .string (bs a9), .int .i64 a10, .int .i64 a11, .int .i64 a12, .int .i64 a13, .int .i64 a14, .int .i64 a15, .int .i64 a16, .int .u64 (a17 : Int), .int .i64 a18, .int .u64 (a19 : Int), .int .i64 a20, .int .i64 a21, .int .i64 a22, .int .i64 a23], .slice A n c, .string (bs t)] w fun e w' => e = .returned (.agg (⟨11, a1, a2, a3, a4, a5, a6, a7, a8, a9, a10, a11, a12, a13, a14, a15, a16, a17, a18, a19, a20, a21, a22, a23⟩ : Rq).cs) ∧ Below w.heap.size w w'
  rw [← hR]
  have hb2 := blk_two w TQ TQ #[.int .i64 11, .int .i64 a1, .int .i64 a2, .int .u64 (a3 : Int), .int .i64 a4, .int .i64 a5, .int .i64 a6, .int .i64 a7, .int .i64 a8, .string (bs a9), .int .i64 a10, .int .i64 a11, .int .i64 a12, .int .i64 a13, .int .i64 a14, .int .i64 a15, .int .i64 a16, .int .u64 (a17 : Int), .int .i64 a18, .int .u64 (a19 : Int), .int .i64 a20, .int .i64 a21, .int .i64 a22, .int .i64 a23] #[.int .i64 0, .int .i64 0, .int .i64 0, .int .u64 0, .int .i64 0, .int .i64 0, .int .i64 0, .int .i64 0, .int .i64 0, .string ⟨#[]⟩, .int .i64 0, .int .i64 0, .int .i64 0, .int .i64 0, .int .i64 0, .int .i64 0, .int .i64 0, .int .u64 0, .int .i64 0, .int .u64 0, .int .i64 0, .int .i64 0, .int .i64 0, .int .i64 0]
  have hp : Blk ((w.alloc (.cells #[.int .i64 11, .int .i64 a1, .int .i64 a2, .int .u64 (a3 : Int), .int .i64 a4, .int .i64 a5, .int .i64 a6, .int .i64 a7, .int .i64 a8, .string (bs a9), .int .i64 a10, .int .i64 a11, .int .i64 a12, .int .i64 a13, .int .i64 a14, .int .i64 a15, .int .i64 a16, .int .u64 (a17 : Int), .int .i64 a18, .int .u64 (a19 : Int), .int .i64 a20, .int .i64 a21, .int .i64 a22, .int .i64 a23] TQ)).alloc (.cells #[.int .i64 0, .int .i64 0, .int .i64 0, .int .u64 0, .int .i64 0, .int .i64 0, .int .i64 0, .int .i64 0, .int .i64 0, .string ⟨#[]⟩, .int .i64 0, .int .i64 0, .int .i64 0, .int .i64 0, .int .i64 0, .int .i64 0, .int .i64 0, .int .u64 0, .int .i64 0, .int .u64 0, .int .i64 0, .int .i64 0, .int .i64 0, .int .i64 0] TQ)) w.heap.size TQ R.cs := by rw [hR]; exact hb2.1
  have hz : Blk ((w.alloc (.cells #[.int .i64 11, .int .i64 a1, .int .i64 a2, .int .u64 (a3 : Int), .int .i64 a4, .int .i64 a5, .int .i64 a6, .int .i64 a7, .int .i64 a8, .string (bs a9), .int .i64 a10, .int .i64 a11, .int .i64 a12, .int .i64 a13, .int .i64 a14, .int .i64 a15, .int .i64 a16, .int .u64 (a17 : Int), .int .i64 a18, .int .u64 (a19 : Int), .int .i64 a20, .int .i64 a21, .int .i64 a22, .int .i64 a23] TQ)).alloc (.cells #[.int .i64 0, .int .i64 0, .int .i64 0, .int .u64 0, .int .i64 0, .int .i64 0, .int .i64 0, .int .i64 0, .int .i64 0, .string ⟨#[]⟩, .int .i64 0, .int .i64 0, .int .i64 0, .int .i64 0, .int .i64 0, .int .i64 0, .int .i64 0, .int .u64 0, .int .i64 0, .int .u64 0, .int .i64 0, .int .i64 0, .int .i64 0, .int .i64 0] TQ)) (w.heap.size + 1) TQ Rq.z.cs := hb2.2
  have hbl : Below w.heap.size w ((w.alloc (.cells #[.int .i64 11, .int .i64 a1, .int .i64 a2, .int .u64 (a3 : Int), .int .i64 a4, .int .i64 a5, .int .i64 a6, .int .i64 a7, .int .i64 a8, .string (bs a9), .int .i64 a10, .int .i64 a11, .int .i64 a12, .int .i64 a13, .int .i64 a14, .int .i64 a15, .int .i64 a16, .int .u64 (a17 : Int), .int .i64 a18, .int .u64 (a19 : Int), .int .i64 a20, .int .i64 a21, .int .i64 a22, .int .i64 a23] TQ)).alloc (.cells #[.int .i64 0, .int .i64 0, .int .i64 0, .int .u64 0, .int .i64 0, .int .i64 0, .int .i64 0, .int .i64 0, .int .i64 0, .string ⟨#[]⟩, .int .i64 0, .int .i64 0, .int .i64 0, .int .i64 0, .int .i64 0, .int .i64 0, .int .i64 0, .int .u64 0, .int .i64 0, .int .u64 0, .int .i64 0, .int .i64 0, .int .i64 0, .int .i64 0] TQ)) := ((Below.refl _ _).alloc (Nat.le_refl _) _).alloc (by simp) _
  have hld := run_ldQ hp
  obtain ⟨w3, hst, hp3, hb3⟩ := store_at (r := R) (by omega) hz hbl
  have HP3 := Lib.hid hp3
  have HB3 := Lib.hid hb3
  clear hb2 hp hz hbl hR hp3 hb3
  go_enter Try.func22, Try.ntmps22
  go_wp2_with fail
  exact bodyPost_ret (v := .agg R.cs) (with_results _ rfl HP3.out) rfl ⟨rfl, HB3.out⟩
set_option maxRecDepth 100000 in
set_option maxHeartbeats 8000000 in
theorem with_12 (w : World) (r : Rq) (hop : r.op = 12) (t : Bs) (A : Option Addr) (n c : Nat) :
    Calls Try.prog 22 #[.agg r.cs, .slice A n c, .string (bs t)] w fun e w' => e = .returned (.agg (r : Rq).cs) ∧ Below w.heap.size w w' := by
  obtain ⟨a0, a1, a2, a3, a4, a5, a6, a7, a8, a9, a10, a11, a12, a13, a14, a15, a16, a17, a18, a19, a20, a21, a22, a23⟩ := r
  obtain rfl := hop
  obtain ⟨R, hR⟩ : ∃ R : Rq, R = ⟨12, a1, a2, a3, a4, a5, a6, a7, a8, a9, a10, a11, a12, a13, a14, a15, a16, a17, a18, a19, a20, a21, a22, a23⟩ := ⟨_, rfl⟩
  have HR := Lib.hid hR
  show Calls Try.prog 22 #[.agg #[.int .i64 12, .int .i64 a1, .int .i64 a2, .int .u64 (a3 : Int), .int .i64 a4, .int .i64 a5, .int .i64 a6, .int .i64 a7, .int .i64 a8, .string (bs a9), .int .i64 a10, .int .i64 a11, .int .i64 a12, .int .i64 a13, .int .i64 a14, .int .i64 a15, .int .i64 a16, .int .u64 (a17 : Int), .int .i64 a18, .int .u64 (a19 : Int), .int .i64 a20, .int .i64 a21, .int .i64 a22, .int .i64 a23], .slice A n c, .string (bs t)] w fun e w' => e = .returned (.agg (⟨12, a1, a2, a3, a4, a5, a6, a7, a8, a9, a10, a11, a12, a13, a14, a15, a16, a17, a18, a19, a20, a21, a22, a23⟩ : Rq).cs) ∧ Below w.heap.size w w'
  rw [← hR]
  have hb2 := blk_two w TQ TQ #[.int .i64 12, .int .i64 a1, .int .i64 a2, .int .u64 (a3 : Int), .int .i64 a4, .int .i64 a5, .int .i64 a6, .int .i64 a7, .int .i64 a8, .string (bs a9), .int .i64 a10, .int .i64 a11, .int .i64 a12, .int .i64 a13, .int .i64 a14, .int .i64 a15, .int .i64 a16, .int .u64 (a17 : Int), .int .i64 a18, .int .u64 (a19 : Int), .int .i64 a20, .int .i64 a21, .int .i64 a22, .int .i64 a23] #[.int .i64 0, .int .i64 0, .int .i64 0, .int .u64 0, .int .i64 0, .int .i64 0, .int .i64 0, .int .i64 0, .int .i64 0, .string ⟨#[]⟩, .int .i64 0, .int .i64 0, .int .i64 0, .int .i64 0, .int .i64 0, .int .i64 0, .int .i64 0, .int .u64 0, .int .i64 0, .int .u64 0, .int .i64 0, .int .i64 0, .int .i64 0, .int .i64 0]
  have hp : Blk ((w.alloc (.cells #[.int .i64 12, .int .i64 a1, .int .i64 a2, .int .u64 (a3 : Int), .int .i64 a4, .int .i64 a5, .int .i64 a6, .int .i64 a7, .int .i64 a8, .string (bs a9), .int .i64 a10, .int .i64 a11, .int .i64 a12, .int .i64 a13, .int .i64 a14, .int .i64 a15, .int .i64 a16, .int .u64 (a17 : Int), .int .i64 a18, .int .u64 (a19 : Int), .int .i64 a20, .int .i64 a21, .int .i64 a22, .int .i64 a23] TQ)).alloc (.cells #[.int .i64 0, .int .i64 0, .int .i64 0, .int .u64 0, .int .i64 0, .int .i64 0, .int .i64 0, .int .i64 0, .int .i64 0, .string ⟨#[]⟩, .int .i64 0, .int .i64 0, .int .i64 0, .int .i64 0, .int .i64 0, .int .i64 0, .int .i64 0, .int .u64 0, .int .i64 0, .int .u64 0, .int .i64 0, .int .i64 0, .int .i64 0, .int .i64 0] TQ)) w.heap.size TQ R.cs := by rw [hR]; exact hb2.1
  have hz : Blk ((w.alloc (.cells #[.int .i64 12, .int .i64 a1, .int .i64 a2, .int .u64 (a3 : Int), .int .i64 a4, .int .i64 a5, .int .i64 a6, .int .i64 a7, .int .i64 a8, .string (bs a9), .int .i64 a10, .int .i64 a11, .int .i64 a12, .int .i64 a13, .int .i64 a14, .int .i64 a15, .int .i64 a16, .int .u64 (a17 : Int), .int .i64 a18, .int .u64 (a19 : Int), .int .i64 a20, .int .i64 a21, .int .i64 a22, .int .i64 a23] TQ)).alloc (.cells #[.int .i64 0, .int .i64 0, .int .i64 0, .int .u64 0, .int .i64 0, .int .i64 0, .int .i64 0, .int .i64 0, .int .i64 0, .string ⟨#[]⟩, .int .i64 0, .int .i64 0, .int .i64 0, .int .i64 0, .int .i64 0, .int .i64 0, .int .i64 0, .int .u64 0, .int .i64 0, .int .u64 0, .int .i64 0, .int .i64 0, .int .i64 0, .int .i64 0] TQ)) (w.heap.size + 1) TQ Rq.z.cs := hb2.2
  have hbl : Below w.heap.size w ((w.alloc (.cells #[.int .i64 12, .int .i64 a1, .int .i64 a2, .int .u64 (a3 : Int), .int .i64 a4, .int .i64 a5, .int .i64 a6, .int .i64 a7, .int .i64 a8, .string (bs a9), .int .i64 a10, .int .i64 a11, .int .i64 a12, .int .i64 a13, .int .i64 a14, .int .i64 a15, .int .i64 a16, .int .u64 (a17 : Int), .int .i64 a18, .int .u64 (a19 : Int), .int .i64 a20, .int .i64 a21, .int .i64 a22, .int .i64 a23] TQ)).alloc (.cells #[.int .i64 0, .int .i64 0, .int .i64 0, .int .u64 0, .int .i64 0, .int .i64 0, .int .i64 0, .int .i64 0, .int .i64 0, .string ⟨#[]⟩, .int .i64 0, .int .i64 0, .int .i64 0, .int .i64 0, .int .i64 0, .int .i64 0, .int .i64 0, .int .u64 0, .int .i64 0, .int .u64 0, .int .i64 0, .int .i64 0, .int .i64 0, .int .i64 0] TQ)) := ((Below.refl _ _).alloc (Nat.le_refl _) _).alloc (by simp) _
  have hld := run_ldQ hp
  obtain ⟨w3, hst, hp3, hb3⟩ := store_at (r := R) (by omega) hz hbl
  have HP3 := Lib.hid hp3
  have HB3 := Lib.hid hb3
  clear hb2 hp hz hbl hR hp3 hb3
  go_enter Try.func22, Try.ntmps22
  go_wp2_with fail
  exact bodyPost_ret (v := .agg R.cs) (with_results _ rfl HP3.out) rfl ⟨rfl, HB3.out⟩
set_option maxRecDepth 100000 in
set_option maxHeartbeats 8000000 in
theorem with_13 (w : World) (r : Rq) (hop : r.op = 13) (t : Bs) (g c : Nat) (v0 v1 v2 v3 : Nat) (b0 : v0 ≤ 4294967295) (b1 : v1 ≤ 4294967295) (b2 : v2 ≤ 4294967295) (b3 : v3 ≤ 4294967295) (h0 : w.cell? ⟨g, 0, none⟩ = some (.int .u64 (v0 : Int))) (h1 : w.cell? ⟨g, 1, none⟩ = some (.int .u64 (v1 : Int))) (h2 : w.cell? ⟨g, 2, none⟩ = some (.int .u64 (v2 : Int))) (h3 : w.cell? ⟨g, 3, none⟩ = some (.int .u64 (v3 : Int))) (hc : 4 ≤ c) (hcm : c ≤ maxLen) :
    Calls Try.prog 22 #[.agg r.cs, .slice (some ⟨g, 0, none⟩) 4 c, .string (bs t)] w fun e w' => e = .returned (.agg ({ r with x0 := (v0 : Int), y0 := (v1 : Int), x1 := (v2 : Int), y1 := (v3 : Int) } : Rq).cs) ∧ Below w.heap.size w w' := by
  obtain ⟨a0, a1, a2, a3, a4, a5, a6, a7, a8, a9, a10, a11, a12, a13, a14, a15, a16, a17, a18, a19, a20, a21, a22, a23⟩ := r
  obtain rfl := hop
  obtain ⟨R, hR⟩ : ∃ R : Rq, R = ⟨13, a1, a2, a3, a4, a5, a6, a7, a8, a9, a10, a11, (v0 : Int), (v1 : Int), (v2 : Int), (v3 : Int), a16, a17, a18, a19, a20, a21, a22, a23⟩ := ⟨_, rfl⟩
  have HR := Lib.hid hR
  show Calls Try.prog 22 #[.agg #[.int .i64 13, .int .i64 a1, .int .i64 a2, .int .u64 (a3 : Int), .int .i64 a4, .int .i64 a5, .int .i64 a6, .int .i64 a7, .int .i64 a8, .string (bs a9), .int .i64 a10, .int .i64 a11, .int .i64 a12, .int .i64 a13, .int .i64 a14, .int .i64 a15, .int .i64 a16, .int .u64 (a17 : Int), .int .i64 a18, .int .u64 (a19 : Int), .int .i64 a20, .int .i64 a21, .int .i64 a22, .int .i64 a23], .slice (some ⟨g, 0, none⟩) 4 c, .string (bs t)] w fun e w' => e = .returned (.agg (⟨13, a1, a2, a3, a4, a5, a6, a7, a8, a9, a10, a11, (v0 : Int), (v1 : Int), (v2 : Int), (v3 : Int), a16, a17, a18, a19, a20, a21, a22, a23⟩ : Rq).cs) ∧ Below w.heap.size w w'
  rw [← hR]
  unfold maxLen at hcm
  have wv0 := wrapS b0
  have wv1 := wrapS b1
  have wv2 := wrapS b2
  have wv3 := wrapS b3
  have zg := World.block_lt_of_cell? w _ h0
  simp only at zg
  have hbl : Below w.heap.size w ((w.alloc (.cells #[.int .i64 13, .int .i64 a1, .int .i64 a2, .int .u64 (a3 : Int), .int .i64 a4, .int .i64 a5, .int .i64 a6, .int .i64 a7, .int .i64 a8, .string (bs a9), .int .i64 a10, .int .i64 a11, .int .i64 a12, .int .i64 a13, .int .i64 a14, .int .i64 a15, .int .i64 a16, .int .u64 (a17 : Int), .int .i64 a18, .int .u64 (a19 : Int), .int .i64 a20, .int .i64 a21, .int .i64 a22, .int .i64 a23] TQ)).alloc (.cells #[.int .i64 0, .int .i64 0, .int .i64 0, .int .u64 0, .int .i64 0, .int .i64 0, .int .i64 0, .int .i64 0, .int .i64 0, .string ⟨#[]⟩, .int .i64 0, .int .i64 0, .int .i64 0, .int .i64 0, .int .i64 0, .int .i64 0, .int .i64 0, .int .u64 0, .int .i64 0, .int .u64 0, .int .i64 0, .int .i64 0, .int .i64 0, .int .i64 0] TQ)) := ((Below.refl _ _).alloc (Nat.le_refl _) _).alloc (by simp) _
  have hb2 := blk_two w TQ TQ #[.int .i64 13, .int .i64 a1, .int .i64 a2, .int .u64 (a3 : Int), .int .i64 a4, .int .i64 a5, .int .i64 a6, .int .i64 a7, .int .i64 a8, .string (bs a9), .int .i64 a10, .int .i64 a11, .int .i64 a12, .int .i64 a13, .int .i64 a14, .int .i64 a15, .int .i64 a16, .int .u64 (a17 : Int), .int .i64 a18, .int .u64 (a19 : Int), .int .i64 a20, .int .i64 a21, .int .i64 a22, .int .i64 a23] #[.int .i64 0, .int .i64 0, .int .i64 0, .int .u64 0, .int .i64 0, .int .i64 0, .int .i64 0, .int .i64 0, .int .i64 0, .string ⟨#[]⟩, .int .i64 0, .int .i64 0, .int .i64 0, .int .i64 0, .int .i64 0, .int .i64 0, .int .i64 0, .int .u64 0, .int .i64 0, .int .u64 0, .int .i64 0, .int .i64 0, .int .i64 0, .int .i64 0]
  have j0 := cell_al (cell_al h0 (.cells #[.int .i64 13, .int .i64 a1, .int .i64 a2, .int .u64 (a3 : Int), .int .i64 a4, .int .i64 a5, .int .i64 a6, .int .i64 a7, .int .i64 a8, .string (bs a9), .int .i64 a10, .int .i64 a11, .int .i64 a12, .int .i64 a13, .int .i64 a14, .int .i64 a15, .int .i64 a16, .int .u64 (a17 : Int), .int .i64 a18, .int .u64 (a19 : Int), .int .i64 a20, .int .i64 a21, .int .i64 a22, .int .i64 a23] TQ)) (.cells #[.int .i64 0, .int .i64 0, .int .i64 0, .int .u64 0, .int .i64 0, .int .i64 0, .int .i64 0, .int .i64 0, .int .i64 0, .string ⟨#[]⟩, .int .i64 0, .int .i64 0, .int .i64 0, .int .i64 0, .int .i64 0, .int .i64 0, .int .i64 0, .int .u64 0, .int .i64 0, .int .u64 0, .int .i64 0, .int .i64 0, .int .i64 0, .int .i64 0] TQ)
  have j1 := cell_al (cell_al h1 (.cells #[.int .i64 13, .int .i64 a1, .int .i64 a2, .int .u64 (a3 : Int), .int .i64 a4, .int .i64 a5, .int .i64 a6, .int .i64 a7, .int .i64 a8, .string (bs a9), .int .i64 a10, .int .i64 a11, .int .i64 a12, .int .i64 a13, .int .i64 a14, .int .i64 a15, .int .i64 a16, .int .u64 (a17 : Int), .int .i64 a18, .int .u64 (a19 : Int), .int .i64 a20, .int .i64 a21, .int .i64 a22, .int .i64 a23] TQ)) (.cells #[.int .i64 0, .int .i64 0, .int .i64 0, .int .u64 0, .int .i64 0, .int .i64 0, .int .i64 0, .int .i64 0, .int .i64 0, .string ⟨#[]⟩, .int .i64 0, .int .i64 0, .int .i64 0, .int .i64 0, .int .i64 0, .int .i64 0, .int .i64 0, .int .u64 0, .int .i64 0, .int .u64 0, .int .i64 0, .int .i64 0, .int .i64 0, .int .i64 0] TQ)
  have j2 := cell_al (cell_al h2 (.cells #[.int .i64 13, .int .i64 a1, .int .i64 a2, .int .u64 (a3 : Int), .int .i64 a4, .int .i64 a5, .int .i64 a6, .int .i64 a7, .int .i64 a8, .string (bs a9), .int .i64 a10, .int .i64 a11, .int .i64 a12, .int .i64 a13, .int .i64 a14, .int .i64 a15, .int .i64 a16, .int .u64 (a17 : Int), .int .i64 a18, .int .u64 (a19 : Int), .int .i64 a20, .int .i64 a21, .int .i64 a22, .int .i64 a23] TQ)) (.cells #[.int .i64 0, .int .i64 0, .int .i64 0, .int .u64 0, .int .i64 0, .int .i64 0, .int .i64 0, .int .i64 0, .int .i64 0, .string ⟨#[]⟩, .int .i64 0, .int .i64 0, .int .i64 0, .int .i64 0, .int .i64 0, .int .i64 0, .int .i64 0, .int .u64 0, .int .i64 0, .int .u64 0, .int .i64 0, .int .i64 0, .int .i64 0, .int .i64 0] TQ)
  have j3 := cell_al (cell_al h3 (.cells #[.int .i64 13, .int .i64 a1, .int .i64 a2, .int .u64 (a3 : Int), .int .i64 a4, .int .i64 a5, .int .i64 a6, .int .i64 a7, .int .i64 a8, .string (bs a9), .int .i64 a10, .int .i64 a11, .int .i64 a12, .int .i64 a13, .int .i64 a14, .int .i64 a15, .int .i64 a16, .int .u64 (a17 : Int), .int .i64 a18, .int .u64 (a19 : Int), .int .i64 a20, .int .i64 a21, .int .i64 a22, .int .i64 a23] TQ)) (.cells #[.int .i64 0, .int .i64 0, .int .i64 0, .int .u64 0, .int .i64 0, .int .i64 0, .int .i64 0, .int .i64 0, .int .i64 0, .string ⟨#[]⟩, .int .i64 0, .int .i64 0, .int .i64 0, .int .i64 0, .int .i64 0, .int .i64 0, .int .i64 0, .int .u64 0, .int .i64 0, .int .u64 0, .int .i64 0, .int .i64 0, .int .i64 0, .int .i64 0] TQ)
  have HCL := Lib.hid (rect19_any ((w.alloc (.cells #[.int .i64 13, .int .i64 a1, .int .i64 a2, .int .u64 (a3 : Int), .int .i64 a4, .int .i64 a5, .int .i64 a6, .int .i64 a7, .int .i64 a8, .string (bs a9), .int .i64 a10, .int .i64 a11, .int .i64 a12, .int .i64 a13, .int .i64 a14, .int .i64 a15, .int .i64 a16, .int .u64 (a17 : Int), .int .i64 a18, .int .u64 (a19 : Int), .int .i64 a20, .int .i64 a21, .int .i64 a22, .int .i64 a23] TQ)).alloc (.cells #[.int .i64 0, .int .i64 0, .int .i64 0, .int .u64 0, .int .i64 0, .int .i64 0, .int .i64 0, .int .i64 0, .int .i64 0, .string ⟨#[]⟩, .int .i64 0, .int .i64 0, .int .i64 0, .int .i64 0, .int .i64 0, .int .i64 0, .int .i64 0, .int .u64 0, .int .i64 0, .int .u64 0, .int .i64 0, .int .i64 0, .int .i64 0, .int .i64 0] TQ)) g 0 4 c v0 v1 v2 v3 b0 b1 b2 b3 (by decide) j0 j1 j2 j3)
  have HBL := Lib.hid hbl
  have HB2 := Lib.hid hb2
  have J0 := Lib.hid j0
  have J1 := Lib.hid j1
  have J2 := Lib.hid j2
  have J3 := Lib.hid j3
  have ZG := Lib.hid zg
  clear hbl hb2 j0 j1 j2 j3 b0 b1 b2 b3
  go_enter Try.func22, Try.ntmps22
  go_wp2_with fail
  refine HCL.out.mono ?_
  rintro e w1 ⟨rfl, hb1⟩
  have hp1 := HB2.out.1.thru0 hb1
  have hz1 := HB2.out.2.thru0 hb1
  have c12 := hp1.cell 12
  have f12 := hp1.frozen 12
  have c13 := hp1.cell 13
  have f13 := hp1.frozen 13
  have c14 := hp1.cell 14
  have f14 := hp1.frozen 14
  have c15 := hp1.cell 15
  have f15 := hp1.frozen 15
  simp only [List.getElem?_toArray, List.getElem?_cons_zero, List.getElem?_cons_succ] at c12 c13 c14 c15
  have hp : Blk ((((w1.setCell ⟨w.heap.size, 12, none⟩ (.int .i64 (v0 : Int))).setCell ⟨w.heap.size, 13, none⟩ (.int .i64 (v1 : Int))).setCell ⟨w.heap.size, 14, none⟩ (.int .i64 (v2 : Int))).setCell ⟨w.heap.size, 15, none⟩ (.int .i64 (v3 : Int))) w.heap.size TQ R.cs := by
    have := ((((hp1.set_ 12 (.int .i64 (v0 : Int))).set_ 13 (.int .i64 (v1 : Int))).set_ 14 (.int .i64 (v2 : Int))).set_ 15 (.int .i64 (v3 : Int)))
    rw [HR.out]
    exact this
  have hz : Blk ((((w1.setCell ⟨w.heap.size, 12, none⟩ (.int .i64 (v0 : Int))).setCell ⟨w.heap.size, 13, none⟩ (.int .i64 (v1 : Int))).setCell ⟨w.heap.size, 14, none⟩ (.int .i64 (v2 : Int))).setCell ⟨w.heap.size, 15, none⟩ (.int .i64 (v3 : Int))) (w.heap.size + 1) TQ Rq.z.cs := ((((hz1.far (p := ⟨w.heap.size, 12, none⟩) (by show w.heap.size + 1 ≠ w.heap.size; omega) (.int .i64 (v0 : Int))).far (p := ⟨w.heap.size, 13, none⟩) (by show w.heap.size + 1 ≠ w.heap.size; omega) (.int .i64 (v1 : Int))).far (p := ⟨w.heap.size, 14, none⟩) (by show w.heap.size + 1 ≠ w.heap.size; omega) (.int .i64 (v2 : Int))).far (p := ⟨w.heap.size, 15, none⟩) (by show w.heap.size + 1 ≠ w.heap.size; omega) (.int .i64 (v3 : Int)))
  have hbl : Below w.heap.size w ((((w1.setCell ⟨w.heap.size, 12, none⟩ (.int .i64 (v0 : Int))).setCell ⟨w.heap.size, 13, none⟩ (.int .i64 (v1 : Int))).setCell ⟨w.heap.size, 14, none⟩ (.int .i64 (v2 : Int))).setCell ⟨w.heap.size, 15, none⟩ (.int .i64 (v3 : Int))) := (below_setc (below_setc (below_setc (below_setc (HBL.out.trans (hb1.mono HBL.out.size)) (Nat.le_refl _) 12 (.int .i64 (v0 : Int))) (Nat.le_refl _) 13 (.int .i64 (v1 : Int))) (Nat.le_refl _) 14 (.int .i64 (v2 : Int))) (Nat.le_refl _) 15 (.int .i64 (v3 : Int)))
  have hld := run_ldQ hp
  obtain ⟨w3, hst, hp3, hb3⟩ := store_at (r := R) (by omega) hz hbl
  have HP3 := Lib.hid hp3
  have HB3 := Lib.hid hb3
  clear hp hz hbl hp3 hb3 hb1 hp1 hz1 HCL hR
  have zq : g ≠ w.heap.size := by have := ZG.out; omega
  have zq2 : w.heap.size ≠ g := by omega
  go_wp2_with fail
  exact bodyPost_ret (v := .agg R.cs) (with_results _ rfl HP3.out) rfl ⟨rfl, HB3.out⟩
set_option maxRecDepth 100000 in
set_option maxHeartbeats 8000000 in
theorem with_14 (w : World) (r : Rq) (hop : r.op = 14) (t : Bs) (g c : Nat) (v0 v1 : Nat) (b0 : v0 ≤ 4294967295) (b1 : v1 ≤ 4294967295) (h0 : w.cell? ⟨g, 0, none⟩ = some (.int .u64 (v0 : Int))) (h1 : w.cell? ⟨g, 1, none⟩ = some (.int .u64 (v1 : Int))) (hc : 2 ≤ c) (hcm : c ≤ maxLen) :
    Calls Try.prog 22 #[.agg r.cs, .slice (some ⟨g, 0, none⟩) 2 c, .string (bs t)] w fun e w' => e = .returned (.agg ({ r with px := (v0 : Int), py := (v1 : Int) } : Rq).cs) ∧ Below w.heap.size w w' := by
  obtain ⟨a0, a1, a2, a3, a4, a5, a6, a7, a8, a9, a10, a11, a12, a13, a14, a15, a16, a17, a18, a19, a20, a21, a22, a23⟩ := r
  obtain rfl := hop
  obtain ⟨R, hR⟩ : ∃ R : Rq, R = ⟨14, a1, a2, a3, a4, a5, a6, a7, a8, a9, a10, a11, a12, a13, a14, a15, a16, a17, a18, a19, (v0 : Int), (v1 : Int), a22, a23⟩ := ⟨_, rfl⟩
  have HR := Lib.hid hR
  show Calls Try.prog 22 #[.agg #[.int .i64 14, .int .i64 a1, .int .i64 a2, .int .u64 (a3 : Int), .int .i64 a4, .int .i64 a5, .int .i64 a6, .int .i64 a7, .int .i64 a8, .string (bs a9), .int .i64 a10, .int .i64 a11, .int .i64 a12, .int .i64 a13, .int .i64 a14, .int .i64 a15, .int .i64 a16, .int .u64 (a17 : Int), .int .i64 a18, .int .u64 (a19 : Int), .int .i64 a20, .int .i64 a21, .int .i64 a22, .int .i64 a23], .slice (some ⟨g, 0, none⟩) 2 c, .string (bs t)] w fun e w' => e = .returned (.agg (⟨14, a1, a2, a3, a4, a5, a6, a7, a8, a9, a10, a11, a12, a13, a14, a15, a16, a17, a18, a19, (v0 : Int), (v1 : Int), a22, a23⟩ : Rq).cs) ∧ Below w.heap.size w w'
  rw [← hR]
  unfold maxLen at hcm
  have wv0 := wrapS b0
  have wv1 := wrapS b1
  have zg := World.block_lt_of_cell? w _ h0
  simp only at zg
  have hbl : Below w.heap.size w ((w.alloc (.cells #[.int .i64 14, .int .i64 a1, .int .i64 a2, .int .u64 (a3 : Int), .int .i64 a4, .int .i64 a5, .int .i64 a6, .int .i64 a7, .int .i64 a8, .string (bs a9), .int .i64 a10, .int .i64 a11, .int .i64 a12, .int .i64 a13, .int .i64 a14, .int .i64 a15, .int .i64 a16, .int .u64 (a17 : Int), .int .i64 a18, .int .u64 (a19 : Int), .int .i64 a20, .int .i64 a21, .int .i64 a22, .int .i64 a23] TQ)).alloc (.cells #[.int .i64 0, .int .i64 0, .int .i64 0, .int .u64 0, .int .i64 0, .int .i64 0, .int .i64 0, .int .i64 0, .int .i64 0, .string ⟨#[]⟩, .int .i64 0, .int .i64 0, .int .i64 0, .int .i64 0, .int .i64 0, .int .i64 0, .int .i64 0, .int .u64 0, .int .i64 0, .int .u64 0, .int .i64 0, .int .i64 0, .int .i64 0, .int .i64 0] TQ)) := ((Below.refl _ _).alloc (Nat.le_refl _) _).alloc (by simp) _
  have hb2 := blk_two w TQ TQ #[.int .i64 14, .int .i64 a1, .int .i64 a2, .int .u64 (a3 : Int), .int .i64 a4, .int .i64 a5, .int .i64 a6, .int .i64 a7, .int .i64 a8, .string (bs a9), .int .i64 a10, .int .i64 a11, .int .i64 a12, .int .i64 a13, .int .i64 a14, .int .i64 a15, .int .i64 a16, .int .u64 (a17 : Int), .int .i64 a18, .int .u64 (a19 : Int), .int .i64 a20, .int .i64 a21, .int .i64 a22, .int .i64 a23] #[.int .i64 0, .int .i64 0, .int .i64 0, .int .u64 0, .int .i64 0, .int .i64 0, .int .i64 0, .int .i64 0, .int .i64 0, .string ⟨#[]⟩, .int .i64 0, .int .i64 0, .int .i64 0, .int .i64 0, .int .i64 0, .int .i64 0, .int .i64 0, .int .u64 0, .int .i64 0, .int .u64 0, .int .i64 0, .int .i64 0, .int .i64 0, .int .i64 0]
  have j0 := cell_al (cell_al h0 (.cells #[.int .i64 14, .int .i64 a1, .int .i64 a2, .int .u64 (a3 : Int), .int .i64 a4, .int .i64 a5, .int .i64 a6, .int .i64 a7, .int .i64 a8, .string (bs a9), .int .i64 a10, .int .i64 a11, .int .i64 a12, .int .i64 a13, .int .i64 a14, .int .i64 a15, .int .i64 a16, .int .u64 (a17 : Int), .int .i64 a18, .int .u64 (a19 : Int), .int .i64 a20, .int .i64 a21, .int .i64 a22, .int .i64 a23] TQ)) (.cells #[.int .i64 0, .int .i64 0, .int .i64 0, .int .u64 0, .int .i64 0, .int .i64 0, .int .i64 0, .int .i64 0, .int .i64 0, .string ⟨#[]⟩, .int .i64 0, .int .i64 0, .int .i64 0, .int .i64 0, .int .i64 0, .int .i64 0, .int .i64 0, .int .u64 0, .int .i64 0, .int .u64 0, .int .i64 0, .int .i64 0, .int .i64 0, .int .i64 0] TQ)
  have j1 := cell_al (cell_al h1 (.cells #[.int .i64 14, .int .i64 a1, .int .i64 a2, .int .u64 (a3 : Int), .int .i64 a4, .int .i64 a5, .int .i64 a6, .int .i64 a7, .int .i64 a8, .string (bs a9), .int .i64 a10, .int .i64 a11, .int .i64 a12, .int .i64 a13, .int .i64 a14, .int .i64 a15, .int .i64 a16, .int .u64 (a17 : Int), .int .i64 a18, .int .u64 (a19 : Int), .int .i64 a20, .int .i64 a21, .int .i64 a22, .int .i64 a23] TQ)) (.cells #[.int .i64 0, .int .i64 0, .int .i64 0, .int .u64 0, .int .i64 0, .int .i64 0, .int .i64 0, .int .i64 0, .int .i64 0, .string ⟨#[]⟩, .int .i64 0, .int .i64 0, .int .i64 0, .int .i64 0, .int .i64 0, .int .i64 0, .int .i64 0, .int .u64 0, .int .i64 0, .int .u64 0, .int .i64 0, .int .i64 0, .int .i64 0, .int .i64 0] TQ)
  have HCL := Lib.hid (point19_any ((w.alloc (.cells #[.int .i64 14, .int .i64 a1, .int .i64 a2, .int .u64 (a3 : Int), .int .i64 a4, .int .i64 a5, .int .i64 a6, .int .i64 a7, .int .i64 a8, .string (bs a9), .int .i64 a10, .int .i64 a11, .int .i64 a12, .int .i64 a13, .int .i64 a14, .int .i64 a15, .int .i64 a16, .int .u64 (a17 : Int), .int .i64 a18, .int .u64 (a19 : Int), .int .i64 a20, .int .i64 a21, .int .i64 a22, .int .i64 a23] TQ)).alloc (.cells #[.int .i64 0, .int .i64 0, .int .i64 0, .int .u64 0, .int .i64 0, .int .i64 0, .int .i64 0, .int .i64 0, .int .i64 0, .string ⟨#[]⟩, .int .i64 0, .int .i64 0, .int .i64 0, .int .i64 0, .int .i64 0, .int .i64 0, .int .i64 0, .int .u64 0, .int .i64 0, .int .u64 0, .int .i64 0, .int .i64 0, .int .i64 0, .int .i64 0] TQ)) g 0 2 c v0 v1 b0 b1 (by decide) j0 j1)
  have HBL := Lib.hid hbl
  have HB2 := Lib.hid hb2
  have J0 := Lib.hid j0
  have J1 := Lib.hid j1
  have ZG := Lib.hid zg
  clear hbl hb2 j0 j1 b0 b1
  go_enter Try.func22, Try.ntmps22
  go_wp2_with fail
  refine HCL.out.mono ?_
  rintro e w1 ⟨rfl, hb1⟩
  have hp1 := HB2.out.1.thru0 hb1
  have hz1 := HB2.out.2.thru0 hb1
  have c20 := hp1.cell 20
  have f20 := hp1.frozen 20
  have c21 := hp1.cell 21
  have f21 := hp1.frozen 21
  simp only [List.getElem?_toArray, List.getElem?_cons_zero, List.getElem?_cons_succ] at c20 c21
  have hp : Blk ((w1.setCell ⟨w.heap.size, 20, none⟩ (.int .i64 (v0 : Int))).setCell ⟨w.heap.size, 21, none⟩ (.int .i64 (v1 : Int))) w.heap.size TQ R.cs := by
    have := ((hp1.set_ 20 (.int .i64 (v0 : Int))).set_ 21 (.int .i64 (v1 : Int)))
    rw [HR.out]
    exact this
  have hz : Blk ((w1.setCell ⟨w.heap.size, 20, none⟩ (.int .i64 (v0 : Int))).setCell ⟨w.heap.size, 21, none⟩ (.int .i64 (v1 : Int))) (w.heap.size + 1) TQ Rq.z.cs := ((hz1.far (p := ⟨w.heap.size, 20, none⟩) (by show w.heap.size + 1 ≠ w.heap.size; omega) (.int .i64 (v0 : Int))).far (p := ⟨w.heap.size, 21, none⟩) (by show w.heap.size + 1 ≠ w.heap.size; omega) (.int .i64 (v1 : Int)))
  have hbl : Below w.heap.size w ((w1.setCell ⟨w.heap.size, 20, none⟩ (.int .i64 (v0 : Int))).setCell ⟨w.heap.size, 21, none⟩ (.int .i64 (v1 : Int))) := (below_setc (below_setc (HBL.out.trans (hb1.mono HBL.out.size)) (Nat.le_refl _) 20 (.int .i64 (v0 : Int))) (Nat.le_refl _) 21 (.int .i64 (v1 : Int)))
  have hld := run_ldQ hp
  obtain ⟨w3, hst, hp3, hb3⟩ := store_at (r := R) (by omega) hz hbl
  have HP3 := Lib.hid hp3
  have HB3 := Lib.hid hb3
  clear hp hz hbl hp3 hb3 hb1 hp1 hz1 HCL hR
  have zq : g ≠ w.heap.size := by have := ZG.out; omega
  have zq2 : w.heap.size ≠ g := by omega
  go_wp2_with fail
  exact bodyPost_ret (v := .agg R.cs) (with_results _ rfl HP3.out) rfl ⟨rfl, HB3.out⟩
set_option maxRecDepth 100000 in
set_option maxHeartbeats 8000000 in
theorem with_15 (w : World) (r : Rq) (hop : r.op = 15) (t : Bs) (g c : Nat) (v0 v1 v2 v3 : Nat) (b0 : v0 ≤ 4294967295) (b1 : v1 ≤ 4294967295) (b2 : v2 ≤ 4294967295) (b3 : v3 ≤ 4294967295) (h0 : w.cell? ⟨g, 0, none⟩ = some (.int .u64 (v0 : Int))) (h1 : w.cell? ⟨g, 1, none⟩ = some (.int .u64 (v1 : Int))) (h2 : w.cell? ⟨g, 2, none⟩ = some (.int .u64 (v2 : Int))) (h3 : w.cell? ⟨g, 3, none⟩ = some (.int .u64 (v3 : Int))) (hc : 4 ≤ c) (hcm : c ≤ maxLen) :
    Calls Try.prog 22 #[.agg r.cs, .slice (some ⟨g, 0, none⟩) 4 c, .string (bs t)] w fun e w' => e = .returned (.agg ({ r with x0 := (v0 : Int), y0 := (v1 : Int), x1 := (v2 : Int), y1 := (v3 : Int) } : Rq).cs) ∧ Below w.heap.size w w' := by
  obtain ⟨a0, a1, a2, a3, a4, a5, a6, a7, a8, a9, a10, a11, a12, a13, a14, a15, a16, a17, a18, a19, a20, a21, a22, a23⟩ := r
  obtain rfl := hop
  obtain ⟨R, hR⟩ : ∃ R : Rq, R = ⟨15, a1, a2, a3, a4, a5, a6, a7, a8, a9, a10, a11, (v0 : Int), (v1 : Int), (v2 : Int), (v3 : Int), a16, a17, a18, a19, a20, a21, a22, a23⟩ := ⟨_, rfl⟩
  have HR := Lib.hid hR
  show Calls Try.prog 22 #[.agg #[.int .i64 15, .int .i64 a1, .int .i64 a2, .int .u64 (a3 : Int), .int .i64 a4, .int .i64 a5, .int .i64 a6, .int .i64 a7, .int .i64 a8, .string (bs a9), .int .i64 a10, .int .i64 a11, .int .i64 a12, .int .i64 a13, .int .i64 a14, .int .i64 a15, .int .i64 a16, .int .u64 (a17 : Int), .int .i64 a18, .int .u64 (a19 : Int), .int .i64 a20, .int .i64 a21, .int .i64 a22, .int .i64 a23], .slice (some ⟨g, 0, none⟩) 4 c, .string (bs t)] w fun e w' => e = .returned (.agg (⟨15, a1, a2, a3, a4, a5, a6, a7, a8, a9, a10, a11, (v0 : Int), (v1 : Int), (v2 : Int), (v3 : Int), a16, a17, a18, a19, a20, a21, a22, a23⟩ : Rq).cs) ∧ Below w.heap.size w w'
  rw [← hR]
  unfold maxLen at hcm
  have wv0 := wrapS b0
  have wv1 := wrapS b1
  have wv2 := wrapS b2
  have wv3 := wrapS b3
  have zg := World.block_lt_of_cell? w _ h0
  simp only at zg
  have hbl : Below w.heap.size w ((w.alloc (.cells #[.int .i64 15, .int .i64 a1, .int .i64 a2, .int .u64 (a3 : Int), .int .i64 a4, .int .i64 a5, .int .i64 a6, .int .i64 a7, .int .i64 a8, .string (bs a9), .int .i64 a10, .int .i64 a11, .int .i64 a12, .int .i64 a13, .int .i64 a14, .int .i64 a15, .int .i64 a16, .int .u64 (a17 : Int), .int .i64 a18, .int .u64 (a19 : Int), .int .i64 a20, .int .i64 a21, .int .i64 a22, .int .i64 a23] TQ)).alloc (.cells #[.int .i64 0, .int .i64 0, .int .i64 0, .int .u64 0, .int .i64 0, .int .i64 0, .int .i64 0, .int .i64 0, .int .i64 0, .string ⟨#[]⟩, .int .i64 0, .int .i64 0, .int .i64 0, .int .i64 0, .int .i64 0, .int .i64 0, .int .i64 0, .int .u64 0, .int .i64 0, .int .u64 0, .int .i64 0, .int .i64 0, .int .i64 0, .int .i64 0] TQ)) := ((Below.refl _ _).alloc (Nat.le_refl _) _).alloc (by simp) _
  have hb2 := blk_two w TQ TQ #[.int .i64 15, .int .i64 a1, .int .i64 a2, .int .u64 (a3 : Int), .int .i64 a4, .int .i64 a5, .int .i64 a6, .int .i64 a7, .int .i64 a8, .string (bs a9), .int .i64 a10, .int .i64 a11, .int .i64 a12, .int .i64 a13, .int .i64 a14, .int .i64 a15, .int .i64 a16, .int .u64 (a17 : Int), .int .i64 a18, .int .u64 (a19 : Int), .int .i64 a20, .int .i64 a21, .int .i64 a22, .int .i64 a23] #[.int .i64 0, .int .i64 0, .int .i64 0, .int .u64 0, .int .i64 0, .int .i64 0, .int .i64 0, .int .i64 0, .int .i64 0, .string ⟨#[]⟩, .int .i64 0, .int .i64 0, .int .i64 0, .int .i64 0, .int .i64 0, .int .i64 0, .int .i64 0, .int .u64 0, .int .i64 0, .int .u64 0, .int .i64 0, .int .i64 0, .int .i64 0, .int .i64 0]
  have j0 := cell_al (cell_al h0 (.cells #[.int .i64 15, .int .i64 a1, .int .i64 a2, .int .u64 (a3 : Int), .int .i64 a4, .int .i64 a5, .int .i64 a6, .int .i64 a7, .int .i64 a8, .string (bs a9), .int .i64 a10, .int .i64 a11, .int .i64 a12, .int .i64 a13, .int .i64 a14, .int .i64 a15, .int .i64 a16, .int .u64 (a17 : Int), .int .i64 a18, .int .u64 (a19 : Int), .int .i64 a20, .int .i64 a21, .int .i64 a22, .int .i64 a23] TQ)) (.cells #[.int .i64 0, .int .i64 0, .int .i64 0, .int .u64 0, .int .i64 0, .int .i64 0, .int .i64 0, .int .i64 0, .int .i64 0, .string ⟨#[]⟩, .int .i64 0, .int .i64 0, .int .i64 0, .int .i64 0, .int .i64 0, .int .i64 0, .int .i64 0, .int .u64 0, .int .i64 0, .int .u64 0, .int .i64 0, .int .i64 0, .int .i64 0, .int .i64 0] TQ)
  have j1 := cell_al (cell_al h1 (.cells #[.int .i64 15, .int .i64 a1, .int .i64 a2, .int .u64 (a3 : Int), .int .i64 a4, .int .i64 a5, .int .i64 a6, .int .i64 a7, .int .i64 a8, .string (bs a9), .int .i64 a10, .int .i64 a11, .int .i64 a12, .int .i64 a13, .int .i64 a14, .int .i64 a15, .int .i64 a16, .int .u64 (a17 : Int), .int .i64 a18, .int .u64 (a19 : Int), .int .i64 a20, .int .i64 a21, .int .i64 a22, .int .i64 a23] TQ)) (.cells #[.int .i64 0, .int .i64 0, .int .i64 0, .int .u64 0, .int .i64 0, .int .i64 0, .int .i64 0, .int .i64 0, .int .i64 0, .string ⟨#[]⟩, .int .i64 0, .int .i64 0, .int .i64 0, .int .i64 0, .int .i64 0, .int .i64 0, .int .i64 0, .int .u64 0, .int .i64 0, .int .u64 0, .int .i64 0, .int .i64 0, .int .i64 0, .int .i64 0] TQ)
  have j2 := cell_al (cell_al h2 (.cells #[.int .i64 15, .int .i64 a1, .int .i64 a2, .int .u64 (a3 : Int), .int .i64 a4, .int .i64 a5, .int .i64 a6, .int .i64 a7, .int .i64 a8, .string (bs a9), .int .i64 a10, .int .i64 a11, .int .i64 a12, .int .i64 a13, .int .i64 a14, .int .i64 a15, .int .i64 a16, .int .u64 (a17 : Int), .int .i64 a18, .int .u64 (a19 : Int), .int .i64 a20, .int .i64 a21, .int .i64 a22, .int .i64 a23] TQ)) (.cells #[.int .i64 0, .int .i64 0, .int .i64 0, .int .u64 0, .int .i64 0, .int .i64 0, .int .i64 0, .int .i64 0, .int .i64 0, .string ⟨#[]⟩, .int .i64 0, .int .i64 0, .int .i64 0, .int .i64 0, .int .i64 0, .int .i64 0, .int .i64 0, .int .u64 0, .int .i64 0, .int .u64 0, .int .i64 0, .int .i64 0, .int .i64 0, .int .i64 0] TQ)
  have j3 := cell_al (cell_al h3 (.cells #[.int .i64 15, .int .i64 a1, .int .i64 a2, .int .u64 (a3 : Int), .int .i64 a4, .int .i64 a5, .int .i64 a6, .int .i64 a7, .int .i64 a8, .string (bs a9), .int .i64 a10, .int .i64 a11, .int .i64 a12, .int .i64 a13, .int .i64 a14, .int .i64 a15, .int .i64 a16, .int .u64 (a17 : Int), .int .i64 a18, .int .u64 (a19 : Int), .int .i64 a20, .int .i64 a21, .int .i64 a22, .int .i64 a23] TQ)) (.cells #[.int .i64 0, .int .i64 0, .int .i64 0, .int .u64 0, .int .i64 0, .int .i64 0, .int .i64 0, .int .i64 0, .int .i64 0, .string ⟨#[]⟩, .int .i64 0, .int .i64 0, .int .i64 0, .int .i64 0, .int .i64 0, .int .i64 0, .int .i64 0, .int .u64 0, .int .i64 0, .int .u64 0, .int .i64 0, .int .i64 0, .int .i64 0, .int .i64 0] TQ)
  have HCL := Lib.hid (rect19_any ((w.alloc (.cells #[.int .i64 15, .int .i64 a1, .int .i64 a2, .int .u64 (a3 : Int), .int .i64 a4, .int .i64 a5, .int .i64 a6, .int .i64 a7, .int .i64 a8, .string (bs a9), .int .i64 a10, .int .i64 a11, .int .i64 a12, .int .i64 a13, .int .i64 a14, .int .i64 a15, .int .i64 a16, .int .u64 (a17 : Int), .int .i64 a18, .int .u64 (a19 : Int), .int .i64 a20, .int .i64 a21, .int .i64 a22, .int .i64 a23] TQ)).alloc (.cells #[.int .i64 0, .int .i64 0, .int .i64 0, .int .u64 0, .int .i64 0, .int .i64 0, .int .i64 0, .int .i64 0, .int .i64 0, .string ⟨#[]⟩, .int .i64 0, .int .i64 0, .int .i64 0, .int .i64 0, .int .i64 0, .int .i64 0, .int .i64 0, .int .u64 0, .int .i64 0, .int .u64 0, .int .i64 0, .int .i64 0, .int .i64 0, .int .i64 0] TQ)) g 0 4 c v0 v1 v2 v3 b0 b1 b2 b3 (by decide) j0 j1 j2 j3)
  have HBL := Lib.hid hbl
  have HB2 := Lib.hid hb2
  have J0 := Lib.hid j0
  have J1 := Lib.hid j1
  have J2 := Lib.hid j2
  have J3 := Lib.hid j3
  have ZG := Lib.hid zg
  clear hbl hb2 j0 j1 j2 j3 b0 b1 b2 b3
  go_enter Try.func22, Try.ntmps22
  go_wp2_with fail
  refine HCL.out.mono ?_
  rintro e w1 ⟨rfl, hb1⟩
  have hp1 := HB2.out.1.thru0 hb1
  have hz1 := HB2.out.2.thru0 hb1
  have c12 := hp1.cell 12
  have f12 := hp1.frozen 12
  have c13 := hp1.cell 13
  have f13 := hp1.frozen 13
  have c14 := hp1.cell 14
  have f14 := hp1.frozen 14
  have c15 := hp1.cell 15
  have f15 := hp1.frozen 15
  simp only [List.getElem?_toArray, List.getElem?_cons_zero, List.getElem?_cons_succ] at c12 c13 c14 c15
  have hp : Blk ((((w1.setCell ⟨w.heap.size, 12, none⟩ (.int .i64 (v0 : Int))).setCell ⟨w.heap.size, 13, none⟩ (.int .i64 (v1 : Int))).setCell ⟨w.heap.size, 14, none⟩ (.int .i64 (v2 : Int))).setCell ⟨w.heap.size, 15, none⟩ (.int .i64 (v3 : Int))) w.heap.size TQ R.cs := by
    have := ((((hp1.set_ 12 (.int .i64 (v0 : Int))).set_ 13 (.int .i64 (v1 : Int))).set_ 14 (.int .i64 (v2 : Int))).set_ 15 (.int .i64 (v3 : Int)))
    rw [HR.out]
    exact this
  have hz : Blk ((((w1.setCell ⟨w.heap.size, 12, none⟩ (.int .i64 (v0 : Int))).setCell ⟨w.heap.size, 13, none⟩ (.int .i64 (v1 : Int))).setCell ⟨w.heap.size, 14, none⟩ (.int .i64 (v2 : Int))).setCell ⟨w.heap.size, 15, none⟩ (.int .i64 (v3 : Int))) (w.heap.size + 1) TQ Rq.z.cs := ((((hz1.far (p := ⟨w.heap.size, 12, none⟩) (by show w.heap.size + 1 ≠ w.heap.size; omega) (.int .i64 (v0 : Int))).far (p := ⟨w.heap.size, 13, none⟩) (by show w.heap.size + 1 ≠ w.heap.size; omega) (.int .i64 (v1 : Int))).far (p := ⟨w.heap.size, 14, none⟩) (by show w.heap.size + 1 ≠ w.heap.size; omega) (.int .i64 (v2 : Int))).far (p := ⟨w.heap.size, 15, none⟩) (by show w.heap.size + 1 ≠ w.heap.size; omega) (.int .i64 (v3 : Int)))
  have hbl : Below w.heap.size w ((((w1.setCell ⟨w.heap.size, 12, none⟩ (.int .i64 (v0 : Int))).setCell ⟨w.heap.size, 13, none⟩ (.int .i64 (v1 : Int))).setCell ⟨w.heap.size, 14, none⟩ (.int .i64 (v2 : Int))).setCell ⟨w.heap.size, 15, none⟩ (.int .i64 (v3 : Int))) := (below_setc (below_setc (below_setc (below_setc (HBL.out.trans (hb1.mono HBL.out.size)) (Nat.le_refl _) 12 (.int .i64 (v0 : Int))) (Nat.le_refl _) 13 (.int .i64 (v1 : Int))) (Nat.le_refl _) 14 (.int .i64 (v2 : Int))) (Nat.le_refl _) 15 (.int .i64 (v3 : Int)))
  have hld := run_ldQ hp
  obtain ⟨w3, hst, hp3, hb3⟩ := store_at (r := R) (by omega) hz hbl
  have HP3 := Lib.hid hp3
  have HB3 := Lib.hid hb3
  clear hp hz hbl hp3 hb3 hb1 hp1 hz1 HCL hR
  have zq : g ≠ w.heap.size := by have := ZG.out; omega
  have zq2 : w.heap.size ≠ g := by omega
  go_wp2_with fail
  exact bodyPost_ret (v := .agg R.cs) (with_results _ rfl HP3.out) rfl ⟨rfl, HB3.out⟩
set_option maxRecDepth 100000 in
set_option maxHeartbeats 8000000 in
theorem with_16 (w : World) (r : Rq) (hop : r.op = 16) (t : Bs) (g c : Nat) (v0 v1 : Nat) (b0 : v0 ≤ 4294967295) (b1 : v1 ≤ 4294967295) (h0 : w.cell? ⟨g, 0, none⟩ = some (.int .u64 (v0 : Int))) (h1 : w.cell? ⟨g, 1, none⟩ = some (.int .u64 (v1 : Int))) (hc : 2 ≤ c) (hcm : c ≤ maxLen) :
    Calls Try.prog 22 #[.agg r.cs, .slice (some ⟨g, 0, none⟩) 2 c, .string (bs t)] w fun e w' => e = .returned (.agg ({ r with px := (v0 : Int), py := (v1 : Int) } : Rq).cs) ∧ Below w.heap.size w w' := by
  obtain ⟨a0, a1, a2, a3, a4, a5, a6, a7, a8, a9, a10, a11, a12, a13, a14, a15, a16, a17, a18, a19, a20, a21, a22, a23⟩ := r
  obtain rfl := hop
  obtain ⟨R, hR⟩ : ∃ R : Rq, R = ⟨16, a1, a2, a3, a4, a5, a6, a7, a8, a9, a10, a11, a12, a13, a14, a15, a16, a17, a18, a19, (v0 : Int), (v1 : Int), a22, a23⟩ := ⟨_, rfl⟩
  have HR := Lib.hid hR
  show Calls Try.prog 22 #[.agg #[.int .i64 16, .int .i64 a1, .int .i64 a2, .int .u64 (a3 : Int), .int .i64 a4, .int .i64 a5, .int .i64 a6, .int .i64 a7, .int .i64 a8, .string (bs a9), .int .i64 a10, .int .i64 a11, .int .i64 a12, .int .i64 a13, .int .i64 a14, .int .i64 a15, .int .i64 a16, .int .u64 (a17 : Int), .int .i64 a18, .int .u64 (a19 : Int), .int .i64 a20, .int .i64 a21, .int .i64 a22, .int .i64 a23], .slice (some ⟨g, 0, none⟩) 2 c, .string (bs t)] w fun e w' => e = .returned (.agg (⟨16, a1, a2, a3, a4, a5, a6, a7, a8, a9, a10, a11, a12, a13, a14, a15, a16, a17, a18, a19, (v0 : Int), (v1 : Int), a22, a23⟩ : Rq).cs) ∧ Below w.heap.size w w'
  rw [← hR]
  unfold maxLen at hcm
  have wv0 := wrapS b0
  have wv1 := wrapS b1
  have zg := World.block_lt_of_cell? w _ h0
  simp only at zg
  have hbl : Below w.heap.size w ((w.alloc (.cells #[.int .i64 16, .int .i64 a1, .int .i64 a2, .int .u64 (a3 : Int), .int .i64 a4, .int .i64 a5, .int .i64 a6, .int .i64 a7, .int .i64 a8, .string (bs a9), .int .i64 a10, .int .i64 a11, .int .i64 a12, .int .i64 a13, .int .i64 a14, .int .i64 a15, .int .i64 a16, .int .u64 (a17 : Int), .int .i64 a18, .int .u64 (a19 : Int), .int .i64 a20, .int .i64 a21, .int .i64 a22, .int .i64 a23] TQ)).alloc (.cells #[.int .i64 0, .int .i64 0, .int .i64 0, .int .u64 0, .int .i64 0, .int .i64 0, .int .i64 0, .int .i64 0, .int .i64 0, .string ⟨#[]⟩, .int .i64 0, .int .i64 0, .int .i64 0, .int .i64 0, .int .i64 0, .int .i64 0, .int .i64 0, .int .u64 0, .int .i64 0, .int .u64 0, .int .i64 0, .int .i64 0, .int .i64 0, .int .i64 0] TQ)) := ((Below.refl _ _).alloc (Nat.le_refl _) _).alloc (by simp) _
  have hb2 := blk_two w TQ TQ #[.int .i64 16, .int .i64 a1, .int .i64 a2, .int .u64 (a3 : Int), .int .i64 a4, .int .i64 a5, .int .i64 a6, .int .i64 a7, .int .i64 a8, .string (bs a9), .int .i64 a10, .int .i64 a11, .int .i64 a12, .int .i64 a13, .int .i64 a14, .int .i64 a15, .int .i64 a16, .int .u64 (a17 : Int), .int .i64 a18, .int .u64 (a19 : Int), .int .i64 a20, .int .i64 a21, .int .i64 a22, .int .i64 a23] #[.int .i64 0, .int .i64 0, .int .i64 0, .int .u64 0, .int .i64 0, .int .i64 0, .int .i64 0, .int .i64 0, .int .i64 0, .string ⟨#[]⟩, .int .i64 0, .int .i64 0, .int .i64 0, .int .i64 0, .int .i64 0, .int .i64 0, .int .i64 0, .int .u64 0, .int .i64 0, .int .u64 0, .int .i64 0, .int .i64 0, .int .i64 0, .int .i64 0]
  have j0 := cell_al (cell_al h0 (.cells #[.int .i64 16, .int .i64 a1, .int .i64 a2, .int .u64 (a3 : Int), .int .i64 a4, .int .i64 a5, .int .i64 a6, .int .i64 a7, .int .i64 a8, .string (bs a9), .int .i64 a10, .int .i64 a11, .int .i64 a12, .int .i64 a13, .int .i64 a14, .int .i64 a15, .int .i64 a16, .int .u64 (a17 : Int), .int .i64 a18, .int .u64 (a19 : Int), .int .i64 a20, .int .i64 a21, .int .i64 a22, .int .i64 a23] TQ)) (.cells #[.int .i64 0, .int .i64 0, .int .i64 0, .int .u64 0, .int .i64 0, .int .i64 0, .int .i64 0, .int .i64 0, .int .i64 0, .string ⟨#[]⟩, .int .i64 0, .int .i64 0, .int .i64 0, .int .i64 0, .int .i64 0, .int .i64 0, .int .i64 0, .int .u64 0, .int .i64 0, .int .u64 0, .int .i64 0, .int .i64 0, .int .i64 0, .int .i64 0] TQ)
  have j1 := cell_al (cell_al h1 (.cells #[.int .i64 16, .int .i64 a1, .int .i64 a2, .int .u64 (a3 : Int), .int .i64 a4, .int .i64 a5, .int .i64 a6, .int .i64 a7, .int .i64 a8, .string (bs a9), .int .i64 a10, .int .i64 a11, .int .i64 a12, .int .i64 a13, .int .i64 a14, .int .i64 a15, .int .i64 a16, .int .u64 (a17 : Int), .int .i64 a18, .int .u64 (a19 : Int), .int .i64 a20, .int .i64 a21, .int .i64 a22, .int .i64 a23] TQ)) (.cells #[.int .i64 0, .int .i64 0, .int .i64 0, .int .u64 0, .int .i64 0, .int .i64 0, .int .i64 0, .int .i64 0, .int .i64 0, .string ⟨#[]⟩, .int .i64 0, .int .i64 0, .int .i64 0, .int .i64 0, .int .i64 0, .int .i64 0, .int .i64 0, .int .u64 0, .int .i64 0, .int .u64 0, .int .i64 0, .int .i64 0, .int .i64 0, .int .i64 0] TQ)
  have HCL := Lib.hid (point19_any ((w.alloc (.cells #[.int .i64 16, .int .i64 a1, .int .i64 a2, .int .u64 (a3 : Int), .int .i64 a4, .int .i64 a5, .int .i64 a6, .int .i64 a7, .int .i64 a8, .string (bs a9), .int .i64 a10, .int .i64 a11, .int .i64 a12, .int .i64 a13, .int .i64 a14, .int .i64 a15, .int .i64 a16, .int .u64 (a17 : Int), .int .i64 a18, .int .u64 (a19 : Int), .int .i64 a20, .int .i64 a21, .int .i64 a22, .int .i64 a23] TQ)).alloc (.cells #[.int .i64 0, .int .i64 0, .int .i64 0, .int .u64 0, .int .i64 0, .int .i64 0, .int .i64 0, .int .i64 0, .int .i64 0, .string ⟨#[]⟩, .int .i64 0, .int .i64 0, .int .i64 0, .int .i64 0, .int .i64 0, .int .i64 0, .int .i64 0, .int .u64 0, .int .i64 0, .int .u64 0, .int .i64 0, .int .i64 0, .int .i64 0, .int .i64 0] TQ)) g 0 2 c v0 v1 b0 b1 (by decide) j0 j1)
  have HBL := Lib.hid hbl
  have HB2 := Lib.hid hb2
  have J0 := Lib.hid j0
  have J1 := Lib.hid j1
  have ZG := Lib.hid zg
  clear hbl hb2 j0 j1 b0 b1
  go_enter Try.func22, Try.ntmps22
  go_wp2_with fail
  refine HCL.out.mono ?_
  rintro e w1 ⟨rfl, hb1⟩
  have hp1 := HB2.out.1.thru0 hb1
  have hz1 := HB2.out.2.thru0 hb1
  have c20 := hp1.cell 20
  have f20 := hp1.frozen 20
  have c21 := hp1.cell 21
  have f21 := hp1.frozen 21
  simp only [List.getElem?_toArray, List.getElem?_cons_zero, List.getElem?_cons_succ] at c20 c21
  have hp : Blk ((w1.setCell ⟨w.heap.size, 20, none⟩ (.int .i64 (v0 : Int))).setCell ⟨w.heap.size, 21, none⟩ (.int .i64 (v1 : Int))) w.heap.size TQ R.cs := by
    have := ((hp1.set_ 20 (.int .i64 (v0 : Int))).set_ 21 (.int .i64 (v1 : Int)))
    rw [HR.out]
    exact this
  have hz : Blk ((w1.setCell ⟨w.heap.size, 20, none⟩ (.int .i64 (v0 : Int))).setCell ⟨w.heap.size, 21, none⟩ (.int .i64 (v1 : Int))) (w.heap.size + 1) TQ Rq.z.cs := ((hz1.far (p := ⟨w.heap.size, 20, none⟩) (by show w.heap.size + 1 ≠ w.heap.size; omega) (.int .i64 (v0 : Int))).far (p := ⟨w.heap.size, 21, none⟩) (by show w.heap.size + 1 ≠ w.heap.size; omega) (.int .i64 (v1 : Int)))
  have hbl : Below w.heap.size w ((w1.setCell ⟨w.heap.size, 20, none⟩ (.int .i64 (v0 : Int))).setCell ⟨w.heap.size, 21, none⟩ (.int .i64 (v1 : Int))) := (below_setc (below_setc (HBL.out.trans (hb1.mono HBL.out.size)) (Nat.le_refl _) 20 (.int .i64 (v0 : Int))) (Nat.le_refl _) 21 (.int .i64 (v1 : Int)))
  have hld := run_ldQ hp
  obtain ⟨w3, hst, hp3, hb3⟩ := store_at (r := R) (by omega) hz hbl
  have HP3 := Lib.hid hp3
  have HB3 := Lib.hid hb3
  clear hp hz hbl hp3 hb3 hb1 hp1 hz1 HCL hR
  have zq : g ≠ w.heap.size := by have := ZG.out; omega
  have zq2 : w.heap.size ≠ g := by omega
  go_wp2_with fail
  exact bodyPost_ret (v := .agg R.cs) (with_results _ rfl HP3.out) rfl ⟨rfl, HB3.out⟩
set_option maxRecDepth 100000 in
set_option maxHeartbeats 8000000 in
theorem with_17 (w : World) (r : Rq) (hop : r.op = 17) (t : Bs) (g c : Nat) (v0 : Nat) (b0 : v0 ≤ 4294967295) (h0 : w.cell? ⟨g, 0, none⟩ = some (.int .u64 (v0 : Int))) (hc : 1 ≤ c) (hcm : c ≤ maxLen) :
    Calls Try.prog 22 #[.agg r.cs, .slice (some ⟨g, 0, none⟩) 1 c, .string (bs t)] w fun e w' => e = .returned (.agg ({ r with fro := (v0 : Int) } : Rq).cs) ∧ Below w.heap.size w w' := by
  obtain ⟨a0, a1, a2, a3, a4, a5, a6, a7, a8, a9, a10, a11, a12, a13, a14, a15, a16, a17, a18, a19, a20, a21, a22, a23⟩ := r
  obtain rfl := hop
  obtain ⟨R, hR⟩ : ∃ R : Rq, R = ⟨17, a1, a2, a3, a4, a5, a6, a7, a8, a9, a10, a11, a12, a13, a14, a15, a16, a17, a18, a19, a20, a21, a22, (v0 : Int)⟩ := ⟨_, rfl⟩
  have HR := Lib.hid hR
  show Calls Try.prog 22 #[.agg #[.int .i64 17, .int .i64 a1, .int .i64 a2, .int .u64 (a3 : Int), .int .i64 a4, .int .i64 a5, .int .i64 a6, .int .i64 a7, .int .i64 a8, .string (bs a9), .int .i64 a10, .int .i64 a11, .int .i64 a12, .int .i64 a13, .int .i64 a14, .int .i64 a15, .int .i64 a16, .int .u64 (a17 : Int), .int .i64 a18, .int .u64 (a19 : Int), .int .i64 a20, .int .i64 a21, .int .i64 a22, .int .i64 a23], .slice (some ⟨g, 0, none⟩) 1 c, .string (bs t)] w fun e w' => e = .returned (.agg (⟨17, a1, a2, a3, a4, a5, a6, a7, a8, a9, a10, a11, a12, a13, a14, a15, a16, a17, a18, a19, a20, a21, a22, (v0 : Int)⟩ : Rq).cs) ∧ Below w.heap.size w w'
  rw [← hR]
  unfold maxLen at hcm
  have wv0 := wrapS b0
  have zg := World.block_lt_of_cell? w _ h0
  simp only at zg
  have hb2 := blk_two w TQ TQ #[.int .i64 17, .int .i64 a1, .int .i64 a2, .int .u64 (a3 : Int), .int .i64 a4, .int .i64 a5, .int .i64 a6, .int .i64 a7, .int .i64 a8, .string (bs a9), .int .i64 a10, .int .i64 a11, .int .i64 a12, .int .i64 a13, .int .i64 a14, .int .i64 a15, .int .i64 a16, .int .u64 (a17 : Int), .int .i64 a18, .int .u64 (a19 : Int), .int .i64 a20, .int .i64 a21, .int .i64 a22, .int .i64 (v0 : Int)] #[.int .i64 0, .int .i64 0, .int .i64 0, .int .u64 0, .int .i64 0, .int .i64 0, .int .i64 0, .int .i64 0, .int .i64 0, .string ⟨#[]⟩, .int .i64 0, .int .i64 0, .int .i64 0, .int .i64 0, .int .i64 0, .int .i64 0, .int .i64 0, .int .u64 0, .int .i64 0, .int .u64 0, .int .i64 0, .int .i64 0, .int .i64 0, .int .i64 0]
  have hp : Blk ((w.alloc (.cells #[.int .i64 17, .int .i64 a1, .int .i64 a2, .int .u64 (a3 : Int), .int .i64 a4, .int .i64 a5, .int .i64 a6, .int .i64 a7, .int .i64 a8, .string (bs a9), .int .i64 a10, .int .i64 a11, .int .i64 a12, .int .i64 a13, .int .i64 a14, .int .i64 a15, .int .i64 a16, .int .u64 (a17 : Int), .int .i64 a18, .int .u64 (a19 : Int), .int .i64 a20, .int .i64 a21, .int .i64 a22, .int .i64 (v0 : Int)] TQ)).alloc (.cells #[.int .i64 0, .int .i64 0, .int .i64 0, .int .u64 0, .int .i64 0, .int .i64 0, .int .i64 0, .int .i64 0, .int .i64 0, .string ⟨#[]⟩, .int .i64 0, .int .i64 0, .int .i64 0, .int .i64 0, .int .i64 0, .int .i64 0, .int .i64 0, .int .u64 0, .int .i64 0, .int .u64 0, .int .i64 0, .int .i64 0, .int .i64 0, .int .i64 0] TQ)) w.heap.size TQ R.cs := by rw [hR]; exact hb2.1
  have hz : Blk ((w.alloc (.cells #[.int .i64 17, .int .i64 a1, .int .i64 a2, .int .u64 (a3 : Int), .int .i64 a4, .int .i64 a5, .int .i64 a6, .int .i64 a7, .int .i64 a8, .string (bs a9), .int .i64 a10, .int .i64 a11, .int .i64 a12, .int .i64 a13, .int .i64 a14, .int .i64 a15, .int .i64 a16, .int .u64 (a17 : Int), .int .i64 a18, .int .u64 (a19 : Int), .int .i64 a20, .int .i64 a21, .int .i64 a22, .int .i64 (v0 : Int)] TQ)).alloc (.cells #[.int .i64 0, .int .i64 0, .int .i64 0, .int .u64 0, .int .i64 0, .int .i64 0, .int .i64 0, .int .i64 0, .int .i64 0, .string ⟨#[]⟩, .int .i64 0, .int .i64 0, .int .i64 0, .int .i64 0, .int .i64 0, .int .i64 0, .int .i64 0, .int .u64 0, .int .i64 0, .int .u64 0, .int .i64 0, .int .i64 0, .int .i64 0, .int .i64 0] TQ)) (w.heap.size + 1) TQ Rq.z.cs := hb2.2
  have hbl : Below w.heap.size w ((w.alloc (.cells #[.int .i64 17, .int .i64 a1, .int .i64 a2, .int .u64 (a3 : Int), .int .i64 a4, .int .i64 a5, .int .i64 a6, .int .i64 a7, .int .i64 a8, .string (bs a9), .int .i64 a10, .int .i64 a11, .int .i64 a12, .int .i64 a13, .int .i64 a14, .int .i64 a15, .int .i64 a16, .int .u64 (a17 : Int), .int .i64 a18, .int .u64 (a19 : Int), .int .i64 a20, .int .i64 a21, .int .i64 a22, .int .i64 (v0 : Int)] TQ)).alloc (.cells #[.int .i64 0, .int .i64 0, .int .i64 0, .int .u64 0, .int .i64 0, .int .i64 0, .int .i64 0, .int .i64 0, .int .i64 0, .string ⟨#[]⟩, .int .i64 0, .int .i64 0, .int .i64 0, .int .i64 0, .int .i64 0, .int .i64 0, .int .i64 0, .int .u64 0, .int .i64 0, .int .u64 0, .int .i64 0, .int .i64 0, .int .i64 0, .int .i64 0] TQ)) := ((Below.refl _ _).alloc (Nat.le_refl _) _).alloc (by simp) _
  have hld := run_ldQ hp
  obtain ⟨w3, hst, hp3, hb3⟩ := store_at (r := R) (by omega) hz hbl
  have HP3 := Lib.hid hp3
  have HB3 := Lib.hid hb3
  clear hb2 hp hz hbl hR hp3 hb3 b0
  go_enter Try.func22, Try.ntmps22
  go_wp2_with fail
  exact bodyPost_ret (v := .agg R.cs) (with_results _ rfl HP3.out) rfl ⟨rfl, HB3.out⟩
set_option maxRecDepth 100000 in
set_option maxHeartbeats 8000000 in
theorem with_18 (w : World) (r : Rq) (hop : r.op = 18) (t : Bs) (A : Option Addr) (n c : Nat) :
    Calls Try.prog 22 #[.agg r.cs, .slice A n c, .string (bs t)] w fun e w' => e = .returned (.agg (r : Rq).cs) ∧ Below w.heap.size w w' := by
  obtain ⟨a0, a1, a2, a3, a4, a5, a6, a7, a8, a9, a10, a11, a12, a13, a14, a15, a16, a17, a18, a19, a20, a21, a22, a23⟩ := r
  obtain rfl := hop
  obtain ⟨R, hR⟩ : ∃ R : Rq, R = ⟨18, a1, a2, a3, a4, a5, a6, a7, a8, a9, a10, a11, a12, a13, a14, a15, a16, a17, a18, a19, a20, a21, a22, a23⟩ := ⟨_, rfl⟩
  have HR := Lib.hid hR
  show Calls Try.prog 22 #[.agg #[.int .i64 18, .int .i64 a1, .int .i64 a2, .int .u64 (a3 : Int), .int .i64 a4, .int .i64 a5, .int .i64 a6, .int .i64 a7, .int .i64 a8, .string (bs a9), .int .i64 a10, .int .i64 a11, .int .i64 a12, .int .i64 a13, .int .i64 a14, .int .i64 a15, .int .i64 a16, .int .u64 (a17 : Int), .int .i64 a18, .int .u64 (a19 : Int), .int .i64 a20, .int .i64 a21, .int .i64 a22, .int .i64 a23], .slice A n c, .string (bs t)] w fun e w' => e = .returned (.agg (⟨18, a1, a2, a3, a4, a5, a6, a7, a8, a9, a10, a11, a12, a13, a14, a15, a16, a17, a18, a19, a20, a21, a22, a23⟩ : Rq).cs) ∧ Below w.heap.size w w'
  rw [← hR]
  have hb2 := blk_two w TQ TQ #[.int .i64 18, .int .i64 a1, .int .i64 a2, .int .u64 (a3 : Int), .int .i64 a4, .int .i64 a5, .int .i64 a6, .int .i64 a7, .int .i64 a8, .string (bs a9), .int .i64 a10, .int .i64 a11, .int .i64 a12, .int .i64 a13, .int .i64 a14, .int .i64 a15, .int .i64 a16, .int .u64 (a17 : Int), .int .i64 a18, .int .u64 (a19 : Int), .int .i64 a20, .int .i64 a21, .int .i64 a22, .int .i64 a23] #[.int .i64 0, .int .i64 0, .int .i64 0, .int .u64 0, .int .i64 0, .int .i64 0, .int .i64 0, .int .i64 0, .int .i64 0, .string ⟨#[]⟩, .int .i64 0, .int .i64 0, .int .i64 0, .int .i64 0, .int .i64 0, .int .i64 0, .int .i64 0, .int .u64 0, .int .i64 0, .int .u64 0, .int .i64 0, .int .i64 0, .int .i64 0, .int .i64 0]
  have hp : Blk ((w.alloc (.cells #[.int .i64 18, .int .i64 a1, .int .i64 a2, .int .u64 (a3 : Int), .int .i64 a4, .int .i64 a5, .int .i64 a6, .int .i64 a7, .int .i64 a8, .string (bs a9), .int .i64 a10, .int .i64 a11, .int .i64 a12, .int .i64 a13, .int .i64 a14, .int .i64 a15, .int .i64 a16, .int .u64 (a17 : Int), .int .i64 a18, .int .u64 (a19 : Int), .int .i64 a20, .int .i64 a21, .int .i64 a22, .int .i64 a23] TQ)).alloc (.cells #[.int .i64 0, .int .i64 0, .int .i64 0, .int .u64 0, .int .i64 0, .int .i64 0, .int .i64 0, .int .i64 0, .int .i64 0, .string ⟨#[]⟩, .int .i64 0, .int .i64 0, .int .i64 0, .int .i64 0, .int .i64 0, .int .i64 0, .int .i64 0, .int .u64 0, .int .i64 0, .int .u64 0, .int .i64 0, .int .i64 0, .int .i64 0, .int .i64 0] TQ)) w.heap.size TQ R.cs := by rw [hR]; exact hb2.1
  have hz : Blk ((w.alloc (.cells #[.int .i64 18, .int .i64 a1, .int .i64 a2, .int .u64 (a3 : Int), .int .i64 a4, .int .i64 a5, .int .i64 a6, .int .i64 a7, .int .i64 a8, .string (bs a9), .int .i64 a10, .int .i64 a11, .int .i64 a12, .int .i64 a13, .int .i64 a14, .int .i64 a15, .int .i64 a16, .int .u64 (a17 : Int), .int .i64 a18, .int .u64 (a19 : Int), .int .i64 a20, .int .i64 a21, .int .i64 a22, .int .i64 a23] TQ)).alloc (.cells #[.int .i64 0, .int .i64 0, .int .i64 0, .int .u64 0, .int .i64 0, .int .i64 0, .int .i64 0, .int .i64 0, .int .i64 0, .string ⟨#[]⟩, .int .i64 0, .int .i64 0, .int .i64 0, .int .i64 0, .int .i64 0, .int .i64 0, .int .i64 0, .int .u64 0, .int .i64 0, .int .u64 0, .int .i64 0, .int .i64 0, .int .i64 0, .int .i64 0] TQ)) (w.heap.size + 1) TQ Rq.z.cs := hb2.2
  have hbl : Below w.heap.size w ((w.alloc (.cells #[.int .i64 18, .int .i64 a1, .int .i64 a2, .int .u64 (a3 : Int), .int .i64 a4, .int .i64 a5, .int .i64 a6, .int .i64 a7, .int .i64 a8, .string (bs a9), .int .i64 a10, .int .i64 a11, .int .i64 a12, .int .i64 a13, .int .i64 a14, .int .i64 a15, .int .i64 a16, .int .u64 (a17 : Int), .int .i64 a18, .int .u64 (a19 : Int), .int .i64 a20, .int .i64 a21, .int .i64 a22, .int .i64 a23] TQ)).alloc (.cells #[.int .i64 0, .int .i64 0, .int .i64 0, .int .u64 0, .int .i64 0, .int .i64 0, .int .i64 0, .int .i64 0, .int .i64 0, .string ⟨#[]⟩, .int .i64 0, .int .i64 0, .int .i64 0, .int .i64 0, .int .i64 0, .int .i64 0, .int .i64 0, .int .u64 0, .int .i64 0, .int .u64 0, .int .i64 0, .int .i64 0, .int .i64 0, .int .i64 0] TQ)) := ((Below.refl _ _).alloc (Nat.le_refl _) _).alloc (by simp) _
  have hld := run_ldQ hp
  obtain ⟨w3, hst, hp3, hb3⟩ := store_at (r := R) (by omega) hz hbl
  have HP3 := Lib.hid hp3
  have HB3 := Lib.hid hb3
  clear hb2 hp hz hbl hR hp3 hb3
  go_enter Try.func22, Try.ntmps22
  go_wp2_with fail
  exact bodyPost_ret (v := .agg R.cs) (with_results _ rfl HP3.out) rfl ⟨rfl, HB3.out⟩
set_option maxRecDepth 100000 in
set_option maxHeartbeats 8000000 in
theorem with_19 (w : World) (r : Rq) (hop : r.op = 19) (t : Bs) (g c : Nat) (v0 v1 : Nat) (b0 : v0 ≤ 4294967295) (b1 : v1 ≤ 4294967295) (h0 : w.cell? ⟨g, 0, none⟩ = some (.int .u64 (v0 : Int))) (h1 : w.cell? ⟨g, 1, none⟩ = some (.int .u64 (v1 : Int))) (hc : 2 ≤ c) (hcm : c ≤ maxLen) :
    Calls Try.prog 22 #[.agg r.cs, .slice (some ⟨g, 0, none⟩) 2 c, .string (bs t)] w fun e w' => e = .returned (.agg ({ r with who := (v0 : Int), quota := (v1 : Int) } : Rq).cs) ∧ Below w.heap.size w w' := by
  obtain ⟨a0, a1, a2, a3, a4, a5, a6, a7, a8, a9, a10, a11, a12, a13, a14, a15, a16, a17, a18, a19, a20, a21, a22, a23⟩ := r
  obtain rfl := hop
  obtain ⟨R, hR⟩ : ∃ R : Rq, R = ⟨19, a1, a2, a3, a4, (v0 : Int), a6, a7, (v1 : Int), a9, a10, a11, a12, a13, a14, a15, a16, a17, a18, a19, a20, a21, a22, a23⟩ := ⟨_, rfl⟩
  have HR := Lib.hid hR
  show Calls Try.prog 22 #[.agg #[.int .i64 19, .int .i64 a1, .int .i64 a2, .int .u64 (a3 : Int), .int .i64 a4, .int .i64 a5, .int .i64 a6, .int .i64 a7, .int .i64 a8, .string (bs a9), .int .i64 a10, .int .i64 a11, .int .i64 a12, .int .i64 a13, .int .i64 a14, .int .i64 a15, .int .i64 a16, .int .u64 (a17 : Int), .int .i64 a18, .int .u64 (a19 : Int), .int .i64 a20, .int .i64 a21, .int .i64 a22, .int .i64 a23], .slice (some ⟨g, 0, none⟩) 2 c, .string (bs t)] w fun e w' => e = .returned (.agg (⟨19, a1, a2, a3, a4, (v0 : Int), a6, a7, (v1 : Int), a9, a10, a11, a12, a13, a14, a15, a16, a17, a18, a19, a20, a21, a22, a23⟩ : Rq).cs) ∧ Below w.heap.size w w'
  rw [← hR]
  unfold maxLen at hcm
  have wv0 := wrapS b0
  have wv1 := wrapS b1
  have zg := World.block_lt_of_cell? w _ h0
  simp only at zg
  have hb2 := blk_two w TQ TQ #[.int .i64 19, .int .i64 a1, .int .i64 a2, .int .u64 (a3 : Int), .int .i64 a4, .int .i64 (v0 : Int), .int .i64 a6, .int .i64 a7, .int .i64 (v1 : Int), .string (bs a9), .int .i64 a10, .int .i64 a11, .int .i64 a12, .int .i64 a13, .int .i64 a14, .int .i64 a15, .int .i64 a16, .int .u64 (a17 : Int), .int .i64 a18, .int .u64 (a19 : Int), .int .i64 a20, .int .i64 a21, .int .i64 a22, .int .i64 a23] #[.int .i64 0, .int .i64 0, .int .i64 0, .int .u64 0, .int .i64 0, .int .i64 0, .int .i64 0, .int .i64 0, .int .i64 0, .string ⟨#[]⟩, .int .i64 0, .int .i64 0, .int .i64 0, .int .i64 0, .int .i64 0, .int .i64 0, .int .i64 0, .int .u64 0, .int .i64 0, .int .u64 0, .int .i64 0, .int .i64 0, .int .i64 0, .int .i64 0]
  have hp : Blk ((w.alloc (.cells #[.int .i64 19, .int .i64 a1, .int .i64 a2, .int .u64 (a3 : Int), .int .i64 a4, .int .i64 (v0 : Int), .int .i64 a6, .int .i64 a7, .int .i64 (v1 : Int), .string (bs a9), .int .i64 a10, .int .i64 a11, .int .i64 a12, .int .i64 a13, .int .i64 a14, .int .i64 a15, .int .i64 a16, .int .u64 (a17 : Int), .int .i64 a18, .int .u64 (a19 : Int), .int .i64 a20, .int .i64 a21, .int .i64 a22, .int .i64 a23] TQ)).alloc (.cells #[.int .i64 0, .int .i64 0, .int .i64 0, .int .u64 0, .int .i64 0, .int .i64 0, .int .i64 0, .int .i64 0, .int .i64 0, .string ⟨#[]⟩, .int .i64 0, .int .i64 0, .int .i64 0, .int .i64 0, .int .i64 0, .int .i64 0, .int .i64 0, .int .u64 0, .int .i64 0, .int .u64 0, .int .i64 0, .int .i64 0, .int .i64 0, .int .i64 0] TQ)) w.heap.size TQ R.cs := by rw [hR]; exact hb2.1
  have hz : Blk ((w.alloc (.cells #[.int .i64 19, .int .i64 a1, .int .i64 a2, .int .u64 (a3 : Int), .int .i64 a4, .int .i64 (v0 : Int), .int .i64 a6, .int .i64 a7, .int .i64 (v1 : Int), .string (bs a9), .int .i64 a10, .int .i64 a11, .int .i64 a12, .int .i64 a13, .int .i64 a14, .int .i64 a15, .int .i64 a16, .int .u64 (a17 : Int), .int .i64 a18, .int .u64 (a19 : Int), .int .i64 a20, .int .i64 a21, .int .i64 a22, .int .i64 a23] TQ)).alloc (.cells #[.int .i64 0, .int .i64 0, .int .i64 0, .int .u64 0, .int .i64 0, .int .i64 0, .int .i64 0, .int .i64 0, .int .i64 0, .string ⟨#[]⟩, .int .i64 0, .int .i64 0, .int .i64 0, .int .i64 0, .int .i64 0, .int .i64 0, .int .i64 0, .int .u64 0, .int .i64 0, .int .u64 0, .int .i64 0, .int .i64 0, .int .i64 0, .int .i64 0] TQ)) (w.heap.size + 1) TQ Rq.z.cs := hb2.2
  have hbl : Below w.heap.size w ((w.alloc (.cells #[.int .i64 19, .int .i64 a1, .int .i64 a2, .int .u64 (a3 : Int), .int .i64 a4, .int .i64 (v0 : Int), .int .i64 a6, .int .i64 a7, .int .i64 (v1 : Int), .string (bs a9), .int .i64 a10, .int .i64 a11, .int .i64 a12, .int .i64 a13, .int .i64 a14, .int .i64 a15, .int .i64 a16, .int .u64 (a17 : Int), .int .i64 a18, .int .u64 (a19 : Int), .int .i64 a20, .int .i64 a21, .int .i64 a22, .int .i64 a23] TQ)).alloc (.cells #[.int .i64 0, .int .i64 0, .int .i64 0, .int .u64 0, .int .i64 0, .int .i64 0, .int .i64 0, .int .i64 0, .int .i64 0, .string ⟨#[]⟩, .int .i64 0, .int .i64 0, .int .i64 0, .int .i64 0, .int .i64 0, .int .i64 0, .int .i64 0, .int .u64 0, .int .i64 0, .int .u64 0, .int .i64 0, .int .i64 0, .int .i64 0, .int .i64 0] TQ)) := ((Below.refl _ _).alloc (Nat.le_refl _) _).alloc (by simp) _
  have hld := run_ldQ hp
  obtain ⟨w3, hst, hp3, hb3⟩ := store_at (r := R) (by omega) hz hbl
  have HP3 := Lib.hid hp3
  have HB3 := Lib.hid hb3
  clear hb2 hp hz hbl hR hp3 hb3 b0 b1
  go_enter Try.func22, Try.ntmps22
  go_wp2_with fail
  exact bodyPost_ret (v := .agg R.cs) (with_results _ rfl HP3.out) rfl ⟨rfl, HB3.out⟩
end
end Go.Proofs.Ythlmldbgohnpnaa
