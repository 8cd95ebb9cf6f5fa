/- Texts: RuI, RuJ, RuK, RuL, RuM, RuN. -/
import Derived.Test.YtkpmeelbjldcoaaGreatDoorZbRuAM
import Derived.Deep.RegionHeld3
import Derived.Test.YtkpmeelbjldcoaaGreatDoorZbPoV
import Derived.Test.YtkpmeelbjldcoaaGreatDoorZbRu5
namespace Go.Proofs.YtkpmeelbjldcoaaGreatDoor
section
set_option linter.unusedVariables false
set_option linter.unusedSimpArgs false
open Go.RowKit Go.Maps
attribute [local go_sem ↓] to_ld44
attribute [local go_sem] run_ld24
theorem But.drew2 {r : Nat} {a w : World} (h : But r a w) : But r a w.drew := ⟨h.os, h.tape, h.output, h.size, h.block⟩
theorem Blk.butD {r g : Nat} {t : TypeId} {cs : Array Value} {w w' : World} (h : Blk w g t cs) (hb : But r w.drew w') (hr : g ≠ r) : Blk w' g t cs := Blk.but (w := w.drew) h hb hr
theorem But.set3F {r g : Nat} {a w : World} (h : But r a w) (hg : a.heap.size ≤ g) (x y z : Value) : But r a (((w.setCell ⟨g, 0, none⟩ x).setCell ⟨g, 1, none⟩ y).setCell ⟨g, 2, none⟩ z) := by
  have hb : Below a.heap.size w (((w.setCell ⟨g, 0, none⟩ x).setCell ⟨g, 1, none⟩ y).setCell ⟨g, 2, none⟩ z) := (((Below.refl _ _).setCell (p := ⟨g, 0, none⟩) hg x).setCell (p := ⟨g, 1, none⟩) hg y).setCell (p := ⟨g, 2, none⟩) hg z
  exact ⟨hb.os.trans h.os, hb.tape.trans h.tape, hb.output.trans h.output, Nat.le_trans h.size hb.size, fun i hi hr => (hb.block i hi).trans (h.block i hi hr)⟩
theorem three_far (w : World) (g : Nat) (x y z : Value) (k : Nat) (h : k ≠ g) : (((w.setCell ⟨g, 0, none⟩ x).setCell ⟨g, 1, none⟩ y).setCell ⟨g, 2, none⟩ z).heap[k]? = w.heap[k]? := by
  rw [Below.heap_setCell _ ⟨g, 2, none⟩ _ _ h, Below.heap_setCell _ ⟨g, 1, none⟩ _ _ h, Below.heap_setCell _ ⟨g, 0, none⟩ _ _ h]
theorem CkAt.ilt {T : List Value} {w : World} {q mo : Nat} {rv : Value} {bx : Int} {B C : Nat} {I : Int → Option Nat} {N : Int → Bs → Option (Dc × RV)} (h : CkAt B C T w q mo rv bx I N) (j : Int) (b : Nat) (hb : I j = some b) : b < w.heap.size := by
  obtain ⟨n, H, -, x, -⟩ := h.inn j b (h.low j b hb).1 hb
  exact x.lt
/-- A checker, where another's block was stored into. -/
theorem CkAt.far {T : List Value} {w w' : World} {q mo g : Nat} {rv : Value} {bx : Int} {B C : Nat} {I : Int → Option Nat} {N : Int → Bs → Option (Dc × RV)} (h : CkAt B C T w q mo rv bx I N) (hq : g ≠ q) (hm : g ≠ mo) (hi : ∀ j b, I j = some b → g ≠ b) (hk : ∀ k, k < w.heap.size → k ≠ g → w'.heap[k]? = w.heap[k]?) : CkAt B C T w' q mo rv bx I N := by
  obtain ⟨n, H, a, b, c⟩ := h.out
  refine ⟨(hk q h.blk.lt (Ne.symm hq)).trans h.blk, ⟨n, H, a, b.keep (hk _ b.lt (Ne.symm hm)), c⟩, fun k i hk' hi' => ?_, h.no, h.zero, h.lo, h.low, h.inj⟩
  obtain ⟨n, H, a, b, c⟩ := h.inn k i hk' hi'
  exact ⟨n, H, a, b.keep (hk _ b.lt (Ne.symm (hi k i hi'))), c⟩
/-- A checker whose own block was stored into. -/
theorem CkAt.set {T : List Value} {w w' : World} {q mo : Nat} {rv rv' : Value} {bx bx' : Int} {B C : Nat} {I : Int → Option Nat} {N : Int → Bs → Option (Dc × RV)} (h : CkAt B C T w q mo rv bx I N) (hb : Blk w' q 61 #[.map (some mo), rv', .int .i64 bx']) (hk : ∀ k, k < w.heap.size → k ≠ q → w'.heap[k]? = w.heap[k]?) : CkAt B C T w' q mo rv' bx' I N := by
  obtain ⟨n, H, a, b, c⟩ := h.out
  refine ⟨hb, ⟨n, H, a, b.keep (hk _ b.lt (Ne.symm h.qm)), c⟩, fun k i hk' hi => ?_, h.no, h.zero, h.lo, h.low, h.inj⟩
  obtain ⟨n, H, a, b, c⟩ := h.inn k i hk' hi
  exact ⟨n, H, a, b.keep (hk _ b.lt (Ne.symm (h.qi hk' hi))), c⟩
set_option maxRecDepth 100000 in
set_option maxHeartbeats 4000000 in
theorem take_new1 {T : List Value} {w : World} {q mo : Nat} {rv : Value} {bx : Int} {B C : Nat} {I : Int → Option Nat} {N : Int → Bs → Option (Dc × RV)} (h : CkAt B C T w q mo rv bx I N) (d : Dc) (x : RV) (hk : d.k = 1) (hs : d.nm.length ≤ maxLen) (hi : I d.k = none) (hE : ∀ W, Below B w W → ERd elR W x.v d.bx) (ho : x.v.oneCell' = true) (hfit : rufitB d = true) (hBw : B ≤ w.heap.size) (hT : dV d x.v ∈ T) (hC : C + 1 < maxLen) :
    Calls Tryz.prog 28 #[ptr q, dV d x.v] w fun e w' => e = .returned (fauV 0 (0, 0)) ∧ (∃ b, w.heap.size ≤ b ∧ CkAt B (C + 1 + 1) T w' q mo rv bx (updI I d.k b) (updN N d.k d.nm (d, x))) ∧ But mo w w' := by
  have hB0 : Below w.heap.size w ((w.alloc (.cells (dcells d x.v).toArray 41)).alloc (.cells #[.int .i64 0, .int .i64 0, .int .i64 0] 29)) := ((Below.refl _ _).alloc (Nat.le_refl _) _).alloc (by simp) _
  have HK0 : Blk ((w.alloc (.cells (dcells d x.v).toArray 41)).alloc (.cells #[.int .i64 0, .int .i64 0, .int .i64 0] 29)) w.heap.size 41 (dcells d x.v).toArray := Blk.thru0 (Blk.new w 41 (dcells d x.v).toArray) ((Below.refl _ _).alloc (Nat.le_refl _) _)
  have HF0 : Blk ((w.alloc (.cells (dcells d x.v).toArray 41)).alloc (.cells #[.int .i64 0, .int .i64 0, .int .i64 0] 29)) (w.heap.size + 1) 29 #[.int .i64 0, .int .i64 0, .int .i64 0] := Blk.newAt (by simp)
  have HSZ := Lib.hid (show ((w.alloc (.cells (dcells d x.v).toArray 41)).alloc (.cells #[.int .i64 0, .int .i64 0, .int .i64 0] 29)).heap.size = w.heap.size + 2 by simp)
  have HML := Lib.hid h.mlt
  have HIL := Lib.hid (show q < w.heap.size ∧ ∀ j b, I j = some b → b < w.heap.size from ⟨h.blk.lt, h.ilt⟩)
  have HCK := Lib.hid (h.below hB0)
  have HB := Lib.hid hB0
  have HD := Lib.hid fun W (hW : CkAt B C T W q mo rv bx I N) (hb : Below w.heap.size w W) => decl_new hW d x (by rw [hk]; unfold I64; omega) hs hi (fun V hV => hE V ((hb.mono hBw).trans hV)) ho hfit (by have := hb.size; omega) hT hC
  have HFA := Lib.hid fun (p : Pl) W => fault_any 0 p W
  have HKK := Lib.hid hk
  have HK := Lib.hid HK0
  have HF := Lib.hid HF0
  have hl24 : (dcells d x.v).length = 24 := rfl
  have HL24 := Lib.hid hl24
  clear h hs hi hE ho hfit hBw hT hC hB0 HK0 HF0 hk hl24
  simp only [dV]
  go_enter Tryz.func28, Tryz.ntmps28
  go_upto_region 1 with fail
  generalize ((w.alloc (.cells (dcells d x.v).toArray 41)).alloc (.cells #[.int .i64 0, .int .i64 0, .int .i64 0] 29)) = W at *
  have x0 := HK.out.cell 0
  have x22 := HK.out.cell 22
  have x23 := HK.out.cell 23
  simp only [dcells, List.getElem?_toArray, List.getElem?_cons_zero, List.getElem?_cons_succ] at x0 x22 x23
  rw [HKK.out] at x0
  go_upto_region 5 with fail
  have hrg : Rng W w.heap.size (dcells d x.v) := Blk.range HK.out
  have q1 := hrg.rd HL24.out
  have q3 := ld24_of HL24.out hrg
  clear hrg
  have f0 := HF.out.frozen 0
  have V0 := HB.out
  have C0 := HCK.out
  simp only [dV] at HD
  generalize hVA : (Value.agg (dcells d x.v).toArray) = VA at *
  have HFZ := Lib.hid fun W => HFA.out d.p W
  simp only [show ∀ p : Pl, fauP 0 p = fauV 0 (0, 0) from fun p => if_pos rfl] at HFZ
  have HN := Lib.hid (show w.heap.size ≠ mo ∧ w.heap.size + 1 ≠ mo from by have := HML.out; omega)
  have HQ := Lib.hid (show ∀ V, Blk V w.heap.size 41 (dcells d x.v).toArray → Rd24 V w.heap.size ∧ ld24 V w.heap.size = VA ∧ V.cell? ⟨w.heap.size, 22, none⟩ = some (.int .i64 d.p.1) ∧ V.cell? ⟨w.heap.size, 23, none⟩ = some (.int .i64 d.p.2) from fun V hV => by
    have hrg : Rng V w.heap.size (dcells d x.v) := Blk.range hV
    exact ⟨hrg.rd HL24.out, (ld24_of HL24.out hrg).trans hVA, hV.cell 22, hV.cell 23⟩)
  have HW := Lib.hid (show ∀ V V', But mo V V' → But mo w V → But mo w V' from fun V V' h1 h2 => h2.trans h1)
  have HB9 := Lib.hid (But.of_below (r := mo) HB.out)
  have HN9 := Lib.hid (show w.heap.size ≠ w.heap.size + 1 by omega)
  clear hVA
  go_region_held3 (fun w' => Rd24 w' w.heap.size ∧ ld24 w' w.heap.size = VA ∧ w'.cell? ⟨w.heap.size, 22, none⟩ = some (.int .i64 d.p.1) ∧ w'.cell? ⟨w.heap.size, 23, none⟩ = some (.int .i64 d.p.2)) (first | (with_reducible exact HQ.out _ (K9.out.far3 HN9.out _ _ _)) | (refine ⟨?_, ?_, ?_, ?_⟩ <;> first | assumption | exact Rd24.drew (by assumption) | exact ld24_drew (by assumption) (by assumption)) | (go_split_ands; refine ⟨?_, ?_, ?_, ?_⟩ <;> first | assumption | exact Rd24.drew (by assumption) | exact ld24_drew (by assumption) (by assumption))) (first | (go_at_call 55; with_reducible refine Calls.mono (HD.out _ ?_ ?_) ?_; (first | exact C0.drew | exact C0); (first | exact V0.drew | exact V0); rintro e w8 ⟨rfl, hb8, hbut⟩; have K8 := Lib.hid (by first | exact HK.out.butD hbut HN.out.1 | exact HK.out.but hbut HN.out.1); have F8 := Lib.hid (by first | exact HF.out.butD hbut HN.out.2 | exact HF.out.but hbut HN.out.2); have B8 := Lib.hid (by first | exact HW.out _ _ hbut HB9.out.drew2 | exact HW.out _ _ hbut HB9.out); have C8 := Lib.hid hb8; obtain ⟨q1, q3, x22, x23⟩ := HQ.out _ K8.out; clear hb8 hbut) | (go_at_call 54; with_reducible refine Calls.mono (HFZ.out _) ?_; rintro e w9 ⟨rfl, hb9⟩; have F9 := Lib.hid (Blk.thru0 F8.out hb9); have K9 := Lib.hid (Blk.thru0 K8.out hb9); have H9 := Lib.hid hb9; have b1 := F9.out; have c0 := b1.cell 0; have c1 := b1.cell 1; have c2 := b1.cell 2; have f0 := b1.frozen 0; have f1 := b1.frozen 1; have f2 := b1.frozen 2; simp only [List.getElem?_toArray, List.getElem?_cons_zero, List.getElem?_cons_succ] at c0 c1 c2; obtain ⟨q1, q3, x22, x23⟩ := HQ.out _ K9.out; clear b1 hb9))
  all_goals
    have HB2 := Lib.hid (Blk.set3 F9.out (.int .i64 0) (.int .i64 0) (.int .i64 0))
    have HBU : Hid (∀ x y z : Value, But mo w (((w9.setCell ⟨w.heap.size + 1, 0, none⟩ x).setCell ⟨w.heap.size + 1, 1, none⟩ y).setCell ⟨w.heap.size + 1, 2, none⟩ z)) := Lib.hid fun x y z => (B8.out.trans (But.of_below H9.out)).set3F (by omega) x y z
    have HCZ : Hid (∀ x' y z : Value, ∃ b, w.heap.size ≤ b ∧ CkAt B (C + 1 + 1) T (((w9.setCell ⟨w.heap.size + 1, 0, none⟩ x').setCell ⟨w.heap.size + 1, 1, none⟩ y).setCell ⟨w.heap.size + 1, 2, none⟩ z) q mo rv bx (updI I d.k b) (updN N d.k d.nm (d, x))) := Lib.hid fun x' y z => by
      obtain ⟨b, hb, hc⟩ := C8.out
      have hb' : w.heap.size + 2 ≤ b := by
        have h1 := HSZ.out
        have h2 : W.heap.size ≤ b := hb
        omega
      have hc9 := hc.below H9.out
      have hst : Below (w.heap.size + 1) w9 (((w9.setCell ⟨w.heap.size + 1, 0, none⟩ x').setCell ⟨w.heap.size + 1, 1, none⟩ y).setCell ⟨w.heap.size + 1, 2, none⟩ z) := (((Below.refl _ _).setCell (p := ⟨w.heap.size + 1, 0, none⟩) (Nat.le_refl _) x').setCell (p := ⟨w.heap.size + 1, 1, none⟩) (Nat.le_refl _) y).setCell (p := ⟨w.heap.size + 1, 2, none⟩) (Nat.le_refl _) z
      refine ⟨b, by omega, hc9.far (g := w.heap.size + 1) (by have := HIL.out.1; omega) (by have := HML.out; omega) (fun j c hj => ?_) (fun k hk hne => three_far w9 _ _ _ _ k hne)⟩
      unfold updI at hj
      split at hj
      · cases hj; omega
      · have := HIL.out.2 j c hj; omega
    clear f0 f1 f2 c0 c1 c2 q1 q3 x0 x22 x23
    go_wp2_with fail
    refine bodyPost_ret (v := fauV 0 (0, 0)) ?_ rfl ⟨rfl, HCZ.out _ _ _, HBU.out _ _ _⟩
    have d0 := HB2.out.cell 0
    have d1 := HB2.out.cell 1
    have d2 := HB2.out.cell 2
    simp only [List.getElem?_toArray, List.getElem?_cons_zero, List.getElem?_cons_succ] at d0 d1 d2
    simp [results, Tryz.results28, go_sem, *]
set_option maxRecDepth 100000 in
set_option maxHeartbeats 4000000 in
theorem take_new2 {T : List Value} {w : World} {q mo : Nat} {rv : Value} {bx : Int} {B C : Nat} {I : Int → Option Nat} {N : Int → Bs → Option (Dc × RV)} (h : CkAt B C T w q mo rv bx I N) (d : Dc) (x : RV) (hk : d.k = 2) (hs : d.nm.length ≤ maxLen) (hi : I d.k = none) (hE : ∀ W, Below B w W → ERd elR W x.v d.bx) (ho : x.v.oneCell' = true) (hfit : rufitB d = true) (hBw : B ≤ w.heap.size) (hT : dV d x.v ∈ T) (hC : C + 1 < maxLen) :
    Calls Tryz.prog 28 #[ptr q, dV d x.v] w fun e w' => e = .returned (fauV 0 (0, 0)) ∧ (∃ b, w.heap.size ≤ b ∧ CkAt B (C + 1 + 1) T w' q mo rv bx (updI I d.k b) (updN N d.k d.nm (d, x))) ∧ But mo w w' := by
  have hB0 : Below w.heap.size w ((w.alloc (.cells (dcells d x.v).toArray 41)).alloc (.cells #[.int .i64 0, .int .i64 0, .int .i64 0] 29)) := ((Below.refl _ _).alloc (Nat.le_refl _) _).alloc (by simp) _
  have HK0 : Blk ((w.alloc (.cells (dcells d x.v).toArray 41)).alloc (.cells #[.int .i64 0, .int .i64 0, .int .i64 0] 29)) w.heap.size 41 (dcells d x.v).toArray := Blk.thru0 (Blk.new w 41 (dcells d x.v).toArray) ((Below.refl _ _).alloc (Nat.le_refl _) _)
  have HF0 : Blk ((w.alloc (.cells (dcells d x.v).toArray 41)).alloc (.cells #[.int .i64 0, .int .i64 0, .int .i64 0] 29)) (w.heap.size + 1) 29 #[.int .i64 0, .int .i64 0, .int .i64 0] := Blk.newAt (by simp)
  have HSZ := Lib.hid (show ((w.alloc (.cells (dcells d x.v).toArray 41)).alloc (.cells #[.int .i64 0, .int .i64 0, .int .i64 0] 29)).heap.size = w.heap.size + 2 by simp)
  have HML := Lib.hid h.mlt
  have HIL := Lib.hid (show q < w.heap.size ∧ ∀ j b, I j = some b → b < w.heap.size from ⟨h.blk.lt, h.ilt⟩)
  have HCK := Lib.hid (h.below hB0)
  have HB := Lib.hid hB0
  have HD := Lib.hid fun W (hW : CkAt B C T W q mo rv bx I N) (hb : Below w.heap.size w W) => decl_new hW d x (by rw [hk]; unfold I64; omega) hs hi (fun V hV => hE V ((hb.mono hBw).trans hV)) ho hfit (by have := hb.size; omega) hT hC
  have HFA := Lib.hid fun (p : Pl) W => fault_any 0 p W
  have HKK := Lib.hid hk
  have HK := Lib.hid HK0
  have HF := Lib.hid HF0
  have hl24 : (dcells d x.v).length = 24 := rfl
  have HL24 := Lib.hid hl24
  clear h hs hi hE ho hfit hBw hT hC hB0 HK0 HF0 hk hl24
  simp only [dV]
  go_enter Tryz.func28, Tryz.ntmps28
  go_upto_region 1 with fail
  generalize ((w.alloc (.cells (dcells d x.v).toArray 41)).alloc (.cells #[.int .i64 0, .int .i64 0, .int .i64 0] 29)) = W at *
  have x0 := HK.out.cell 0
  have x22 := HK.out.cell 22
  have x23 := HK.out.cell 23
  simp only [dcells, List.getElem?_toArray, List.getElem?_cons_zero, List.getElem?_cons_succ] at x0 x22 x23
  rw [HKK.out] at x0
  go_upto_region 5 with fail
  have hrg : Rng W w.heap.size (dcells d x.v) := Blk.range HK.out
  have q1 := hrg.rd HL24.out
  have q3 := ld24_of HL24.out hrg
  clear hrg
  have f0 := HF.out.frozen 0
  have V0 := HB.out
  have C0 := HCK.out
  simp only [dV] at HD
  generalize hVA : (Value.agg (dcells d x.v).toArray) = VA at *
  have HFZ := Lib.hid fun W => HFA.out d.p W
  simp only [show ∀ p : Pl, fauP 0 p = fauV 0 (0, 0) from fun p => if_pos rfl] at HFZ
  have HN := Lib.hid (show w.heap.size ≠ mo ∧ w.heap.size + 1 ≠ mo from by have := HML.out; omega)
  have HQ := Lib.hid (show ∀ V, Blk V w.heap.size 41 (dcells d x.v).toArray → Rd24 V w.heap.size ∧ ld24 V w.heap.size = VA ∧ V.cell? ⟨w.heap.size, 22, none⟩ = some (.int .i64 d.p.1) ∧ V.cell? ⟨w.heap.size, 23, none⟩ = some (.int .i64 d.p.2) from fun V hV => by
    have hrg : Rng V w.heap.size (dcells d x.v) := Blk.range hV
    exact ⟨hrg.rd HL24.out, (ld24_of HL24.out hrg).trans hVA, hV.cell 22, hV.cell 23⟩)
  have HW := Lib.hid (show ∀ V V', But mo V V' → But mo w V → But mo w V' from fun V V' h1 h2 => h2.trans h1)
  have HB9 := Lib.hid (But.of_below (r := mo) HB.out)
  have HN9 := Lib.hid (show w.heap.size ≠ w.heap.size + 1 by omega)
  clear hVA
  go_region_held3 (fun w' => Rd24 w' w.heap.size ∧ ld24 w' w.heap.size = VA ∧ w'.cell? ⟨w.heap.size, 22, none⟩ = some (.int .i64 d.p.1) ∧ w'.cell? ⟨w.heap.size, 23, none⟩ = some (.int .i64 d.p.2)) (first | (with_reducible exact HQ.out _ (K9.out.far3 HN9.out _ _ _)) | (refine ⟨?_, ?_, ?_, ?_⟩ <;> first | assumption | exact Rd24.drew (by assumption) | exact ld24_drew (by assumption) (by assumption)) | (go_split_ands; refine ⟨?_, ?_, ?_, ?_⟩ <;> first | assumption | exact Rd24.drew (by assumption) | exact ld24_drew (by assumption) (by assumption))) (first | (go_at_call 55; with_reducible refine Calls.mono (HD.out _ ?_ ?_) ?_; (first | exact C0.drew | exact C0); (first | exact V0.drew | exact V0); rintro e w8 ⟨rfl, hb8, hbut⟩; have K8 := Lib.hid (by first | exact HK.out.butD hbut HN.out.1 | exact HK.out.but hbut HN.out.1); have F8 := Lib.hid (by first | exact HF.out.butD hbut HN.out.2 | exact HF.out.but hbut HN.out.2); have B8 := Lib.hid (by first | exact HW.out _ _ hbut HB9.out.drew2 | exact HW.out _ _ hbut HB9.out); have C8 := Lib.hid hb8; obtain ⟨q1, q3, x22, x23⟩ := HQ.out _ K8.out; clear hb8 hbut) | (go_at_call 54; with_reducible refine Calls.mono (HFZ.out _) ?_; rintro e w9 ⟨rfl, hb9⟩; have F9 := Lib.hid (Blk.thru0 F8.out hb9); have K9 := Lib.hid (Blk.thru0 K8.out hb9); have H9 := Lib.hid hb9; have b1 := F9.out; have c0 := b1.cell 0; have c1 := b1.cell 1; have c2 := b1.cell 2; have f0 := b1.frozen 0; have f1 := b1.frozen 1; have f2 := b1.frozen 2; simp only [List.getElem?_toArray, List.getElem?_cons_zero, List.getElem?_cons_succ] at c0 c1 c2; obtain ⟨q1, q3, x22, x23⟩ := HQ.out _ K9.out; clear b1 hb9))
  all_goals
    have HB2 := Lib.hid (Blk.set3 F9.out (.int .i64 0) (.int .i64 0) (.int .i64 0))
    have HBU : Hid (∀ x y z : Value, But mo w (((w9.setCell ⟨w.heap.size + 1, 0, none⟩ x).setCell ⟨w.heap.size + 1, 1, none⟩ y).setCell ⟨w.heap.size + 1, 2, none⟩ z)) := Lib.hid fun x y z => (B8.out.trans (But.of_below H9.out)).set3F (by omega) x y z
    have HCZ : Hid (∀ x' y z : Value, ∃ b, w.heap.size ≤ b ∧ CkAt B (C + 1 + 1) T (((w9.setCell ⟨w.heap.size + 1, 0, none⟩ x').setCell ⟨w.heap.size + 1, 1, none⟩ y).setCell ⟨w.heap.size + 1, 2, none⟩ z) q mo rv bx (updI I d.k b) (updN N d.k d.nm (d, x))) := Lib.hid fun x' y z => by
      obtain ⟨b, hb, hc⟩ := C8.out
      have hb' : w.heap.size + 2 ≤ b := by
        have h1 := HSZ.out
        have h2 : W.heap.size ≤ b := hb
        omega
      have hc9 := hc.below H9.out
      have hst : Below (w.heap.size + 1) w9 (((w9.setCell ⟨w.heap.size + 1, 0, none⟩ x').setCell ⟨w.heap.size + 1, 1, none⟩ y).setCell ⟨w.heap.size + 1, 2, none⟩ z) := (((Below.refl _ _).setCell (p := ⟨w.heap.size + 1, 0, none⟩) (Nat.le_refl _) x').setCell (p := ⟨w.heap.size + 1, 1, none⟩) (Nat.le_refl _) y).setCell (p := ⟨w.heap.size + 1, 2, none⟩) (Nat.le_refl _) z
      refine ⟨b, by omega, hc9.far (g := w.heap.size + 1) (by have := HIL.out.1; omega) (by have := HML.out; omega) (fun j c hj => ?_) (fun k hk hne => three_far w9 _ _ _ _ k hne)⟩
      unfold updI at hj
      split at hj
      · cases hj; omega
      · have := HIL.out.2 j c hj; omega
    clear f0 f1 f2 c0 c1 c2 q1 q3 x0 x22 x23
    go_wp2_with fail
    refine bodyPost_ret (v := fauV 0 (0, 0)) ?_ rfl ⟨rfl, HCZ.out _ _ _, HBU.out _ _ _⟩
    have d0 := HB2.out.cell 0
    have d1 := HB2.out.cell 1
    have d2 := HB2.out.cell 2
    simp only [List.getElem?_toArray, List.getElem?_cons_zero, List.getElem?_cons_succ] at d0 d1 d2
    simp [results, Tryz.results28, go_sem, *]
set_option maxRecDepth 100000 in
set_option maxHeartbeats 4000000 in
theorem take_new3 {T : List Value} {w : World} {q mo : Nat} {rv : Value} {bx : Int} {B C : Nat} {I : Int → Option Nat} {N : Int → Bs → Option (Dc × RV)} (h : CkAt B C T w q mo rv bx I N) (d : Dc) (x : RV) (hk : d.k = 3) (hs : d.nm.length ≤ maxLen) (hi : I d.k = none) (hE : ∀ W, Below B w W → ERd elR W x.v d.bx) (ho : x.v.oneCell' = true) (hfit : rufitB d = true) (hBw : B ≤ w.heap.size) (hT : dV d x.v ∈ T) (hC : C + 1 < maxLen) :
    Calls Tryz.prog 28 #[ptr q, dV d x.v] w fun e w' => e = .returned (fauV 0 (0, 0)) ∧ (∃ b, w.heap.size ≤ b ∧ CkAt B (C + 1 + 1) T w' q mo rv bx (updI I d.k b) (updN N d.k d.nm (d, x))) ∧ But mo w w' := by
  have hB0 : Below w.heap.size w ((w.alloc (.cells (dcells d x.v).toArray 41)).alloc (.cells #[.int .i64 0, .int .i64 0, .int .i64 0] 29)) := ((Below.refl _ _).alloc (Nat.le_refl _) _).alloc (by simp) _
  have HK0 : Blk ((w.alloc (.cells (dcells d x.v).toArray 41)).alloc (.cells #[.int .i64 0, .int .i64 0, .int .i64 0] 29)) w.heap.size 41 (dcells d x.v).toArray := Blk.thru0 (Blk.new w 41 (dcells d x.v).toArray) ((Below.refl _ _).alloc (Nat.le_refl _) _)
  have HF0 : Blk ((w.alloc (.cells (dcells d x.v).toArray 41)).alloc (.cells #[.int .i64 0, .int .i64 0, .int .i64 0] 29)) (w.heap.size + 1) 29 #[.int .i64 0, .int .i64 0, .int .i64 0] := Blk.newAt (by simp)
  have HSZ := Lib.hid (show ((w.alloc (.cells (dcells d x.v).toArray 41)).alloc (.cells #[.int .i64 0, .int .i64 0, .int .i64 0] 29)).heap.size = w.heap.size + 2 by simp)
  have HML := Lib.hid h.mlt
  have HIL := Lib.hid (show q < w.heap.size ∧ ∀ j b, I j = some b → b < w.heap.size from ⟨h.blk.lt, h.ilt⟩)
  have HCK := Lib.hid (h.below hB0)
  have HB := Lib.hid hB0
  have HD := Lib.hid fun W (hW : CkAt B C T W q mo rv bx I N) (hb : Below w.heap.size w W) => decl_new hW d x (by rw [hk]; unfold I64; omega) hs hi (fun V hV => hE V ((hb.mono hBw).trans hV)) ho hfit (by have := hb.size; omega) hT hC
  have HFA := Lib.hid fun (p : Pl) W => fault_any 0 p W
  have HKK := Lib.hid hk
  have HK := Lib.hid HK0
  have HF := Lib.hid HF0
  have hl24 : (dcells d x.v).length = 24 := rfl
  have HL24 := Lib.hid hl24
  clear h hs hi hE ho hfit hBw hT hC hB0 HK0 HF0 hk hl24
  simp only [dV]
  go_enter Tryz.func28, Tryz.ntmps28
  go_upto_region 1 with fail
  generalize ((w.alloc (.cells (dcells d x.v).toArray 41)).alloc (.cells #[.int .i64 0, .int .i64 0, .int .i64 0] 29)) = W at *
  have x0 := HK.out.cell 0
  have x22 := HK.out.cell 22
  have x23 := HK.out.cell 23
  simp only [dcells, List.getElem?_toArray, List.getElem?_cons_zero, List.getElem?_cons_succ] at x0 x22 x23
  rw [HKK.out] at x0
  go_upto_region 5 with fail
  have hrg : Rng W w.heap.size (dcells d x.v) := Blk.range HK.out
  have q1 := hrg.rd HL24.out
  have q3 := ld24_of HL24.out hrg
  clear hrg
  have f0 := HF.out.frozen 0
  have V0 := HB.out
  have C0 := HCK.out
  simp only [dV] at HD
  generalize hVA : (Value.agg (dcells d x.v).toArray) = VA at *
  have HFZ := Lib.hid fun W => HFA.out d.p W
  simp only [show ∀ p : Pl, fauP 0 p = fauV 0 (0, 0) from fun p => if_pos rfl] at HFZ
  have HN := Lib.hid (show w.heap.size ≠ mo ∧ w.heap.size + 1 ≠ mo from by have := HML.out; omega)
  have HQ := Lib.hid (show ∀ V, Blk V w.heap.size 41 (dcells d x.v).toArray → Rd24 V w.heap.size ∧ ld24 V w.heap.size = VA ∧ V.cell? ⟨w.heap.size, 22, none⟩ = some (.int .i64 d.p.1) ∧ V.cell? ⟨w.heap.size, 23, none⟩ = some (.int .i64 d.p.2) from fun V hV => by
    have hrg : Rng V w.heap.size (dcells d x.v) := Blk.range hV
    exact ⟨hrg.rd HL24.out, (ld24_of HL24.out hrg).trans hVA, hV.cell 22, hV.cell 23⟩)
  have HW := Lib.hid (show ∀ V V', But mo V V' → But mo w V → But mo w V' from fun V V' h1 h2 => h2.trans h1)
  have HB9 := Lib.hid (But.of_below (r := mo) HB.out)
  have HN9 := Lib.hid (show w.heap.size ≠ w.heap.size + 1 by omega)
  clear hVA
  go_region_held3 (fun w' => Rd24 w' w.heap.size ∧ ld24 w' w.heap.size = VA ∧ w'.cell? ⟨w.heap.size, 22, none⟩ = some (.int .i64 d.p.1) ∧ w'.cell? ⟨w.heap.size, 23, none⟩ = some (.int .i64 d.p.2)) (first | (with_reducible exact HQ.out _ (K9.out.far3 HN9.out _ _ _)) | (refine ⟨?_, ?_, ?_, ?_⟩ <;> first | assumption | exact Rd24.drew (by assumption) | exact ld24_drew (by assumption) (by assumption)) | (go_split_ands; refine ⟨?_, ?_, ?_, ?_⟩ <;> first | assumption | exact Rd24.drew (by assumption) | exact ld24_drew (by assumption) (by assumption))) (first | (go_at_call 55; with_reducible refine Calls.mono (HD.out _ ?_ ?_) ?_; (first | exact C0.drew | exact C0); (first | exact V0.drew | exact V0); rintro e w8 ⟨rfl, hb8, hbut⟩; have K8 := Lib.hid (by first | exact HK.out.butD hbut HN.out.1 | exact HK.out.but hbut HN.out.1); have F8 := Lib.hid (by first | exact HF.out.butD hbut HN.out.2 | exact HF.out.but hbut HN.out.2); have B8 := Lib.hid (by first | exact HW.out _ _ hbut HB9.out.drew2 | exact HW.out _ _ hbut HB9.out); have C8 := Lib.hid hb8; obtain ⟨q1, q3, x22, x23⟩ := HQ.out _ K8.out; clear hb8 hbut) | (go_at_call 54; with_reducible refine Calls.mono (HFZ.out _) ?_; rintro e w9 ⟨rfl, hb9⟩; have F9 := Lib.hid (Blk.thru0 F8.out hb9); have K9 := Lib.hid (Blk.thru0 K8.out hb9); have H9 := Lib.hid hb9; have b1 := F9.out; have c0 := b1.cell 0; have c1 := b1.cell 1; have c2 := b1.cell 2; have f0 := b1.frozen 0; have f1 := b1.frozen 1; have f2 := b1.frozen 2; simp only [List.getElem?_toArray, List.getElem?_cons_zero, List.getElem?_cons_succ] at c0 c1 c2; obtain ⟨q1, q3, x22, x23⟩ := HQ.out _ K9.out; clear b1 hb9))
  all_goals
    have HB2 := Lib.hid (Blk.set3 F9.out (.int .i64 0) (.int .i64 0) (.int .i64 0))
    have HBU : Hid (∀ x y z : Value, But mo w (((w9.setCell ⟨w.heap.size + 1, 0, none⟩ x).setCell ⟨w.heap.size + 1, 1, none⟩ y).setCell ⟨w.heap.size + 1, 2, none⟩ z)) := Lib.hid fun x y z => (B8.out.trans (But.of_below H9.out)).set3F (by omega) x y z
    have HCZ : Hid (∀ x' y z : Value, ∃ b, w.heap.size ≤ b ∧ CkAt B (C + 1 + 1) T (((w9.setCell ⟨w.heap.size + 1, 0, none⟩ x').setCell ⟨w.heap.size + 1, 1, none⟩ y).setCell ⟨w.heap.size + 1, 2, none⟩ z) q mo rv bx (updI I d.k b) (updN N d.k d.nm (d, x))) := Lib.hid fun x' y z => by
      obtain ⟨b, hb, hc⟩ := C8.out
      have hb' : w.heap.size + 2 ≤ b := by
        have h1 := HSZ.out
        have h2 : W.heap.size ≤ b := hb
        omega
      have hc9 := hc.below H9.out
      have hst : Below (w.heap.size + 1) w9 (((w9.setCell ⟨w.heap.size + 1, 0, none⟩ x').setCell ⟨w.heap.size + 1, 1, none⟩ y).setCell ⟨w.heap.size + 1, 2, none⟩ z) := (((Below.refl _ _).setCell (p := ⟨w.heap.size + 1, 0, none⟩) (Nat.le_refl _) x').setCell (p := ⟨w.heap.size + 1, 1, none⟩) (Nat.le_refl _) y).setCell (p := ⟨w.heap.size + 1, 2, none⟩) (Nat.le_refl _) z
      refine ⟨b, by omega, hc9.far (g := w.heap.size + 1) (by have := HIL.out.1; omega) (by have := HML.out; omega) (fun j c hj => ?_) (fun k hk hne => three_far w9 _ _ _ _ k hne)⟩
      unfold updI at hj
      split at hj
      · cases hj; omega
      · have := HIL.out.2 j c hj; omega
    clear f0 f1 f2 c0 c1 c2 q1 q3 x0 x22 x23
    go_wp2_with fail
    refine bodyPost_ret (v := fauV 0 (0, 0)) ?_ rfl ⟨rfl, HCZ.out _ _ _, HBU.out _ _ _⟩
    have d0 := HB2.out.cell 0
    have d1 := HB2.out.cell 1
    have d2 := HB2.out.cell 2
    simp only [List.getElem?_toArray, List.getElem?_cons_zero, List.getElem?_cons_succ] at d0 d1 d2
    simp [results, Tryz.results28, go_sem, *]
end
section
set_option linter.unusedVariables false
set_option linter.unusedSimpArgs false
open Go.RowKit Go.Maps
def gridB : Bx := ⟨0, 0, 65535, 65535⟩
set_option maxHeartbeats 400000 in
theorem rgrid_any (w : World) : Calls Tryz.prog 153 #[] w fun e w' => e = .returned (.agg #[.int .i64 0, .int .i64 0, .int .i64 65535, .int .i64 65535]) ∧ Below w.heap.size w w' := by
  go_enter Tryz.func153, Tryz.ntmps153
  go_wp2
  refine bodyPost_ret (v := .agg #[.int .i64 0, .int .i64 0, .int .i64 65535, .int .i64 65535]) ?_ rfl ⟨rfl, ?_⟩
  · simp [results, Tryz.results153, go_sem, *]
  · go_grown
set_option maxRecDepth 100000 in
set_option maxHeartbeats 4000000 in
theorem region_all (w : World) (q : Nat) (a : Wh) (ha : a.any = true) :
    Calls Tryz.prog 140 #[ptr q, .agg #[.bool a.any, .string (bs a.nm), .int .i64 a.n, .int .i64 a.p.1, .int .i64 a.p.2]] w fun e w' => ∃ A c, e = .returned (.tuple #[.slice A ([gridB] : List Bx).length c, .bool true]) ∧ ERd elR w' (.slice A ([gridB] : List Bx).length c) [gridB] ∧ Below w.heap.size w w' := by
  rw [ha]
  have HB : Hid (∀ x : Array Value, Below w.heap.size w (w.alloc (.cells x 39))) := Lib.hid fun x => (Below.refl _ _).alloc (Nat.le_refl _) _
  have HG := Lib.hid fun W => rgrid_any W
  go_enter Tryz.func140, Tryz.ntmps140
  go_wp2_with fail
  refine (HG.out _).mono ?_
  rintro e w1 ⟨rfl, hw⟩
  have HB1 := Lib.hid ((HB.out _).trans (hw.mono (HB.out _).size))
  clear hw HB
  go_wp2_with fail
  have HN := Lib.hid (ERd.of_own elR_ok (EOwn.block (M := [gridB]) elR_ok (Blk.new w1 70 #[.int .i64 0, .int .i64 0, .int .i64 65535, .int .i64 65535]) rfl (by simp)))
  have HB2 := Lib.hid (HB1.out.trans (((Below.refl _ _).alloc (Nat.le_refl w1.heap.size) (.cells #[.int .i64 0, .int .i64 0, .int .i64 65535, .int .i64 65535] 70)).mono HB1.out.size))
  go_ret2
  exact ⟨_, _, rfl, HN.out, HB2.out⟩
/-- A row of rectangles does not lie in a block of three cells. -/
theorem ERd.off3 {w : World} {v : Value} {L : List Bx} {q : Nat} {t : TypeId} {a b c : Value} (h : ERd elR w v L) (hq : Blk w q t #[a, b, c]) (i : Nat) (u : Value) : ERd elR (w.setCell ⟨q, i, none⟩ u) v L := by
  obtain ⟨A, cp, rfl, h1, h2, h3⟩ := h
  refine ⟨A, cp, rfl, h1, h2, fun k x hx => ?_⟩
  obtain ⟨g, o, rfl, hc⟩ := h3 k x hx
  have hne : g ≠ q := by
    rintro rfl
    have h3 := hc 3 (.int .i64 x.y1) rfl
    rw [hq.cell] at h3
    have : (#[a, b, c] : Array Value)[o + k * elR.k + 3]? = none := by
      rw [Array.getElem?_eq_none]; simp
    rw [this] at h3; cases h3
  refine ⟨g, o, rfl, fun j u' hu => ?_⟩
  rw [World.cell?_setCell_other]
  · exact hc j u' hu
  · intro e
    injection e with e1
    exact hne e1.symm
/-- A rule's block with its sight laid in. -/
theorem Blk.set5r {w : World} {g : Nat} {t : TypeId} {x0 x1 x2 x3 x4 x5 x6 : Value} (h : Blk w g t #[x0, x1, x2, x3, x4, x5, x6]) (a b c d e : Value) : Blk (((((w.setCell ⟨g, 2, none⟩ a).setCell ⟨g, 3, none⟩ b).setCell ⟨g, 4, none⟩ c).setCell ⟨g, 5, none⟩ d).setCell ⟨g, 6, none⟩ e) g t #[x0, x1, a, b, c, d, e] := by
  have := (((((h.set_ 2 a).set_ 3 b).set_ 4 c).set_ 5 d).set_ 6 e)
  simpa using this
theorem Blk.far5r {w : World} {g g' : Nat} {t : TypeId} {cs : Array Value} (h : Blk w g t cs) (hne : g ≠ g') (a b c d e : Value) : Blk (((((w.setCell ⟨g', 2, none⟩ a).setCell ⟨g', 3, none⟩ b).setCell ⟨g', 4, none⟩ c).setCell ⟨g', 5, none⟩ d).setCell ⟨g', 6, none⟩ e) g t cs := ((((h.far (p := ⟨g', 2, none⟩) hne a).far (p := ⟨g', 3, none⟩) hne b).far (p := ⟨g', 4, none⟩) hne c).far (p := ⟨g', 5, none⟩) hne d).far (p := ⟨g', 6, none⟩) hne e
theorem sight_boxes (w : World) (D X Y Z : Array Value) : Blk ((((w.alloc (.cells D 41)).alloc (.cells X 50)).alloc (.cells Y 50)).alloc (.cells Z 29)) w.heap.size 41 D ∧ Blk ((((w.alloc (.cells D 41)).alloc (.cells X 50)).alloc (.cells Y 50)).alloc (.cells Z 29)) (w.heap.size + 1) 50 X ∧ Blk ((((w.alloc (.cells D 41)).alloc (.cells X 50)).alloc (.cells Y 50)).alloc (.cells Z 29)) (w.heap.size + 2) 50 Y ∧ Blk ((((w.alloc (.cells D 41)).alloc (.cells X 50)).alloc (.cells Y 50)).alloc (.cells Z 29)) (w.heap.size + 3) 29 Z ∧ Below w.heap.size w ((((w.alloc (.cells D 41)).alloc (.cells X 50)).alloc (.cells Y 50)).alloc (.cells Z 29)) := by
  refine ⟨(((Blk.new w 41 D).alloc _).alloc _).alloc _, ((Blk.newAt (by simp)).alloc _).alloc _, (Blk.newAt (by simp)).alloc _, Blk.newAt (by simp), ?_⟩
  exact ((((Below.refl _ _).alloc (Nat.le_refl _) _).alloc (by simp) _).alloc (by simp; omega) _).alloc (by simp; omega) _
theorem Blk.set7r {w : World} {g : Nat} {t : TypeId} {x0 x1 x2 x3 x4 x5 x6 : Value} (h : Blk w g t #[x0, x1, x2, x3, x4, x5, x6]) (u v a b c d e : Value) : Blk (((((((w.setCell ⟨g, 0, none⟩ u).setCell ⟨g, 1, none⟩ v).setCell ⟨g, 2, none⟩ a).setCell ⟨g, 3, none⟩ b).setCell ⟨g, 4, none⟩ c).setCell ⟨g, 5, none⟩ d).setCell ⟨g, 6, none⟩ e) g t #[u, v, a, b, c, d, e] := by
  have := (((((((h.set_ 0 u).set_ 1 v).set_ 2 a).set_ 3 b).set_ 4 c).set_ 5 d).set_ 6 e)
  simpa using this
theorem five_far (w : World) (g : Nat) (a b c d e : Value) (k : Nat) (h : k ≠ g) : (((((w.setCell ⟨g, 2, none⟩ a).setCell ⟨g, 3, none⟩ b).setCell ⟨g, 4, none⟩ c).setCell ⟨g, 5, none⟩ d).setCell ⟨g, 6, none⟩ e).heap[k]? = w.heap[k]? := by
  rw [Below.heap_setCell _ ⟨g, 6, none⟩ _ _ h, Below.heap_setCell _ ⟨g, 5, none⟩ _ _ h, Below.heap_setCell _ ⟨g, 4, none⟩ _ _ h, Below.heap_setCell _ ⟨g, 3, none⟩ _ _ h, Below.heap_setCell _ ⟨g, 2, none⟩ _ _ h]
theorem seven_far (w : World) (g : Nat) (u v a b c d e : Value) (k : Nat) (h : k ≠ g) : (((((((w.setCell ⟨g, 0, none⟩ u).setCell ⟨g, 1, none⟩ v).setCell ⟨g, 2, none⟩ a).setCell ⟨g, 3, none⟩ b).setCell ⟨g, 4, none⟩ c).setCell ⟨g, 5, none⟩ d).setCell ⟨g, 6, none⟩ e).heap[k]? = w.heap[k]? := by
  rw [five_far _ _ _ _ _ _ _ _ h, Below.heap_setCell _ ⟨g, 1, none⟩ _ _ h, Below.heap_setCell _ ⟨g, 0, none⟩ _ _ h]
theorem sight_end (B : Nat) (W : World) (g g' : Nat) (hg : B ≤ g) (hg' : B ≤ g') (u v a b c d e x y z : Value) : Below B W ((((((((((W.setCell ⟨g, 0, none⟩ u).setCell ⟨g, 1, none⟩ v).setCell ⟨g, 2, none⟩ a).setCell ⟨g, 3, none⟩ b).setCell ⟨g, 4, none⟩ c).setCell ⟨g, 5, none⟩ d).setCell ⟨g, 6, none⟩ e).setCell ⟨g', 0, none⟩ x).setCell ⟨g', 1, none⟩ y).setCell ⟨g', 2, none⟩ z) := by
  refine (((((((((((Below.refl _ _).setCell (p := ⟨g, 0, none⟩) ?_ u).setCell (p := ⟨g, 1, none⟩) ?_ v).setCell (p := ⟨g, 2, none⟩) ?_ a).setCell (p := ⟨g, 3, none⟩) ?_ b).setCell (p := ⟨g, 4, none⟩) ?_ c).setCell (p := ⟨g, 5, none⟩) ?_ d).setCell (p := ⟨g, 6, none⟩) ?_ e).setCell (p := ⟨g', 0, none⟩) ?_ x).setCell (p := ⟨g', 1, none⟩) ?_ y).setCell (p := ⟨g', 2, none⟩) ?_ z) <;> assumption
theorem sight_far (W : World) (g g' : Nat) (u v a b c d e x y z : Value) (k : Nat) (h1 : k ≠ g) (h2 : k ≠ g') : (((((((((((W.setCell ⟨g, 0, none⟩ u).setCell ⟨g, 1, none⟩ v).setCell ⟨g, 2, none⟩ a).setCell ⟨g, 3, none⟩ b).setCell ⟨g, 4, none⟩ c).setCell ⟨g, 5, none⟩ d).setCell ⟨g, 6, none⟩ e).setCell ⟨g', 0, none⟩ x).setCell ⟨g', 1, none⟩ y).setCell ⟨g', 2, none⟩ z)).heap[k]? = W.heap[k]? := by
  rw [three_far _ _ _ _ _ _ h2, seven_far _ _ _ _ _ _ _ _ _ _ h1]
theorem sight_blk1 {W : World} {g g' : Nat} {t : TypeId} {x0 x1 x2 x3 x4 x5 x6 : Value} (h : Blk W g t #[x0, x1, x2, x3, x4, x5, x6]) (hn : g ≠ g') (u v a b c d e x y z : Value) : Blk ((((((((((W.setCell ⟨g, 0, none⟩ u).setCell ⟨g, 1, none⟩ v).setCell ⟨g, 2, none⟩ a).setCell ⟨g, 3, none⟩ b).setCell ⟨g, 4, none⟩ c).setCell ⟨g, 5, none⟩ d).setCell ⟨g, 6, none⟩ e).setCell ⟨g', 0, none⟩ x).setCell ⟨g', 1, none⟩ y).setCell ⟨g', 2, none⟩ z) g t #[u, v, a, b, c, d, e] := (Blk.set7r h u v a b c d e).far3 hn x y z
theorem sight_blk2 {W : World} {g g' : Nat} {t : TypeId} {x0 x1 x2 : Value} (h : Blk W g' t #[x0, x1, x2]) (hn : g' ≠ g) (u v a b c d e x y z : Value) : Blk ((((((((((W.setCell ⟨g, 0, none⟩ u).setCell ⟨g, 1, none⟩ v).setCell ⟨g, 2, none⟩ a).setCell ⟨g, 3, none⟩ b).setCell ⟨g, 4, none⟩ c).setCell ⟨g, 5, none⟩ d).setCell ⟨g, 6, none⟩ e).setCell ⟨g', 0, none⟩ x).setCell ⟨g', 1, none⟩ y).setCell ⟨g', 2, none⟩ z) g' t #[x, y, z] := Blk.set3 (show Blk _ g' t #[x0, x1, x2] from (seven_far W g u v a b c d e g' hn).trans h) x y z
theorem five_below (B : Nat) (W : World) (g : Nat) (hg : B ≤ g) (a b c d e : Value) : Below B W (((((W.setCell ⟨g, 2, none⟩ a).setCell ⟨g, 3, none⟩ b).setCell ⟨g, 4, none⟩ c).setCell ⟨g, 5, none⟩ d).setCell ⟨g, 6, none⟩ e) := by
  refine ((((((Below.refl _ _).setCell (p := ⟨g, 2, none⟩) ?_ a).setCell (p := ⟨g, 3, none⟩) ?_ b).setCell (p := ⟨g, 4, none⟩) ?_ c).setCell (p := ⟨g, 5, none⟩) ?_ d).setCell (p := ⟨g, 6, none⟩) ?_ e) <;> assumption
theorem But.low {r : Nat} {a w w' : World} (h : But r a w) (hb : Below a.heap.size w w') : But r a w' := ⟨hb.os.trans h.os, hb.tape.trans h.tape, hb.output.trans h.output, Nat.le_trans h.size hb.size, fun i hi hr => (hb.block i hi).trans (h.block i hi hr)⟩
set_option maxRecDepth 100000 in
set_option maxHeartbeats 8000000 in
theorem sight_ok {T : List Value} {w : World} {q mo : Nat} {rv : Value} {bx : Int} {B C : Nat} {I : Int → Option Nat} {N : Int → Bs → Option (Dc × RV)} (h : CkAt B C T w q mo rv bx I N) (d : Dc) (x : RV) (k ro n : Int) (bs' : List Bx) (hlo : d.lo ≤ d.hi) (hhi : d.hi ≤ 7)
    (HS : ∀ W, CkAt B C T W q mo rv bx I N → Below w.heap.size w W → Calls Tryz.prog 100 #[.agg #[.bool d.label.any, .string (bs d.label.nm), .int .i64 d.label.n, .int .i64 d.label.p.1, .int .i64 d.label.p.2], .func (.func 139) #[ptr q] #[], .int .i64 7] W fun e w' => e = .returned (.tuple #[.int .i64 n, fauV 0 (0, 0)]) ∧ Below W.heap.size W w')
    (HG : ∀ W, CkAt B C T W q mo rv bx I N → Below w.heap.size w W → Calls Tryz.prog 140 #[ptr q, .agg #[.bool d.wh.any, .string (bs d.wh.nm), .int .i64 d.wh.n, .int .i64 d.wh.p.1, .int .i64 d.wh.p.2]] W fun e w' => ∃ A c, e = .returned (.tuple #[.slice A bs'.length c, .bool true]) ∧ ERd elR w' (.slice A bs'.length c) bs' ∧ Below W.heap.size W w')
    (hb0 : 0 ≤ bx) (hb1 : bx + (bs'.length : Int) ≤ 32) (hz : d.zoom ≤ 16) :
    Calls Tryz.prog 102 #[ptr q, dV d x.v, ruV ⟨k, ro, 0, 0, 0, [], 0⟩ (.slice none 0 0)] w fun e w' => ∃ v2, e = .returned (.tuple #[ruV ⟨k, ro, d.lo, d.hi, n, bs', d.zoom⟩ v2, fauV 0 (0, 0)]) ∧ EOwn elR w' v2 bs' ∧ (∀ i, v2.ownBlock = some i → w.heap.size ≤ i) ∧ CkAt B C T w' q mo rv (bx + bs'.length) I N ∧ But q w w' := by
  have HLT := Lib.hid h.blk.lt
  have HML := Lib.hid h.mlt
  have HIL := Lib.hid h.ilt
  have HX := Lib.hid (sight_boxes w (dcells d x.v).toArray #[.int .i64 k, .int .i64 ro, .int .i64 0, .int .i64 0, .int .i64 0, .slice none 0 0, .int .i64 0] #[.int .i64 0, .int .i64 0, .int .i64 0, .int .i64 0, .int .i64 0, .slice none 0 0, .int .i64 0] #[.int .i64 0, .int .i64 0, .int .i64 0])
  have HCK := Lib.hid (h.below HX.out.2.2.2.2)
  have HLO := Lib.hid (show d.lo ≤ d.hi ∧ d.hi ≤ 7 from ⟨hlo, hhi⟩)
  have HSS := Lib.hid HS
  have HGG := Lib.hid HG
  have HNB := Lib.hid (show 0 ≤ bx ∧ bx + (bs'.length : Int) ≤ 32 ∧ d.zoom ≤ 16 from ⟨hb0, hb1, hz⟩)
  clear h HS HG hb0 hb1 hz hlo hhi
  simp only [dV, ruV]
  go_enter Tryz.func102, Tryz.ntmps102
  go_upto_region 1 with fail
  generalize ((((w.alloc (.cells (dcells d x.v).toArray 41)).alloc (.cells #[.int .i64 k, .int .i64 ro, .int .i64 0, .int .i64 0, .int .i64 0, .slice none 0 0, .int .i64 0] 50)).alloc (.cells #[.int .i64 0, .int .i64 0, .int .i64 0, .int .i64 0, .int .i64 0, .slice none 0 0, .int .i64 0] 50)).alloc (.cells #[.int .i64 0, .int .i64 0, .int .i64 0] 29)) = W at *
  have x9 := HX.out.1.cell 9
  have x10 := HX.out.1.cell 10
  have x11 := HX.out.1.cell 11
  have x12 := HX.out.1.cell 12
  have x13 := HX.out.1.cell 13
  have x14 := HX.out.1.cell 14
  have x15 := HX.out.1.cell 15
  simp only [dcells, List.getElem?_toArray, List.getElem?_cons_zero, List.getElem?_cons_succ] at x9 x10 x11 x12 x13 x14 x15
  have l1 : decide (d.hi < d.lo) = false := decide_eq_false (by have := HLO.out.1; omega)
  have l2 : decide (7 < d.hi) = false := decide_eq_false (by have := HLO.out.2; omega)
  have l3 : ¬ d.hi < d.lo := by have := HLO.out.1; omega
  have l4 : ¬ 7 < d.hi := by have := HLO.out.2; omega
  go_wp2_with fail
  refine (HSS.out _ HCK.out HX.out.2.2.2.2).mono ?_
  rintro e w1 ⟨rfl, hb⟩
  have HB1 := Lib.hid (HX.out.2.2.2.2.trans (hb.mono HX.out.2.2.2.2.size))
  have HCK1 := Lib.hid (HCK.out.below hb)
  have HK1 := Lib.hid (Blk.thru0 HX.out.1 hb)
  have HR1 := Lib.hid (Blk.thru0 HX.out.2.1 hb)
  have HO1 := Lib.hid (Blk.thru0 HX.out.2.2.1 hb)
  have HF1 := Lib.hid (Blk.thru0 HX.out.2.2.2.1 hb)
  clear hb HX HCK x9 x10 x11 x12 x13 x14 x15 l1 l2 l3 l4 HSS
  go_upto_region 4 with fail
  have hal : Below w1.heap.size w1 (w1.alloc (.cells #[.int .i64 0, .int .i64 0, .int .i64 0] 29)) := (Below.refl _ _).alloc (Nat.le_refl _) _
  have HB2 := Lib.hid (HB1.out.trans (hal.mono HB1.out.size))
  have HCK2 := Lib.hid (HCK1.out.below hal)
  have HK2 := Lib.hid (Blk.thru0 HK1.out hal)
  have HR2 := Lib.hid (Blk.thru0 HR1.out hal)
  have HO2 := Lib.hid (Blk.thru0 HO1.out hal)
  have HF2 := Lib.hid (Blk.thru0 HF1.out hal)
  have HT2 := Lib.hid (Blk.new w1 29 #[.int .i64 0, .int .i64 0, .int .i64 0])
  clear hal HB1 HCK1 HK1 HR1 HO1 HF1
  generalize (w1.alloc (.cells #[.int .i64 0, .int .i64 0, .int .i64 0] 29)) = W2 at *
  generalize w1.heap.size = tf at *
  have t0 := HT2.out.cell 0
  have x16 := HK2.out.cell 16
  have x17 := HK2.out.cell 17
  have x18 := HK2.out.cell 18
  have x19 := HK2.out.cell 19
  have x20 := HK2.out.cell 20
  simp only [dcells, List.getElem?_toArray, List.getElem?_cons_zero, List.getElem?_cons_succ] at t0 x16 x17 x18 x19 x20
  go_wp2_with fail
  refine (HGG.out _ HCK2.out HB2.out).mono ?_
  rintro e w3 ⟨A, c, rfl, hE, hb⟩
  have HB3 := Lib.hid (HB2.out.trans (hb.mono HB2.out.size))
  have HCK3 := Lib.hid (HCK2.out.below hb)
  have HK3 := Lib.hid (Blk.thru0 HK2.out hb)
  have HR3 := Lib.hid (Blk.thru0 HR2.out hb)
  have HO3 := Lib.hid (Blk.thru0 HO2.out hb)
  have HF3 := Lib.hid (Blk.thru0 HF2.out hb)
  have HE3 := Lib.hid hE
  clear hb hE HB2 HCK2 HK2 HR2 HO2 HF2 HT2 t0 x16 x17 x18 x19 x20 HGG
  go_upto_region 9 with fail
  have y2 : w3.cell? ⟨q, 2, none⟩ = some (.int .i64 bx) := HCK3.out.blk.cell 2
  have g2 := HCK3.out.blk.frozen 2
  have hwr : IntKind.i64.wrap (bx + (bs'.length : Int)) = bx + (bs'.length : Int) := by
    have h1 := HNB.out.1
    have h2 := HNB.out.2.1
    rw [IntKind.wrap_i64]; omega
  go_upto_region 10 with fail
  have hqb : Blk (w3.setCell ⟨q, 2, none⟩ (.int .i64 (bx + (bs'.length : Int)))) q 61 #[.map (some mo), rv, .int .i64 (bx + (bs'.length : Int))] := by
    have := HCK3.out.blk.set_ 2 (.int .i64 (bx + (bs'.length : Int)))
    simpa using this
  have HCK4 := Lib.hid (HCK3.out.set hqb fun k _ hk => Below.heap_setCell _ ⟨q, 2, none⟩ _ _ hk)
  have HBU4 : Hid (But q w (w3.setCell ⟨q, 2, none⟩ (.int .i64 (bx + (bs'.length : Int))))) := Lib.hid ((But.of_below HB3.out).trans (But.set _ _ _))
  have HK4 := Lib.hid (HK3.out.far (p := ⟨q, 2, none⟩) (by have := HLT.out; simp; omega) (.int .i64 (bx + (bs'.length : Int))))
  have HR4 := Lib.hid (HR3.out.far (p := ⟨q, 2, none⟩) (by have := HLT.out; simp; omega) (.int .i64 (bx + (bs'.length : Int))))
  have HO4 := Lib.hid (HO3.out.far (p := ⟨q, 2, none⟩) (by have := HLT.out; simp; omega) (.int .i64 (bx + (bs'.length : Int))))
  have HF4 := Lib.hid (HF3.out.far (p := ⟨q, 2, none⟩) (by have := HLT.out; simp; omega) (.int .i64 (bx + (bs'.length : Int))))
  have HE4 := Lib.hid (HE3.out.off3 HCK3.out.blk 2 (.int .i64 (bx + (bs'.length : Int))))
  have hz4 : w.heap.size + 3 < (w3.setCell ⟨q, 2, none⟩ (.int .i64 (bx + (bs'.length : Int)))).heap.size := HF4.out.lt
  have HZ4 := Lib.hid hz4
  clear hqb y2 g2 hwr HB3 HCK3 HK3 HR3 HO3 HF3 HE3 hz4
  generalize (w3.setCell ⟨q, 2, none⟩ (.int .i64 (bx + (bs'.length : Int)))) = W4 at *
  have y2 : W4.cell? ⟨q, 2, none⟩ = some (.int .i64 (bx + (bs'.length : Int))) := HCK4.out.blk.cell 2
  have x21 := HK4.out.cell 21
  simp only [dcells, List.getElem?_toArray, List.getElem?_cons_zero, List.getElem?_cons_succ] at x21
  have l1 : decide (32 < bx + (bs'.length : Int)) = false := decide_eq_false (by have := HNB.out.2.1; omega)
  have l2 : ¬ 32 < bx + (bs'.length : Int) := by have := HNB.out.2.1; omega
  have l3 : decide (16 < d.zoom) = false := decide_eq_false (by have := HNB.out.2.2; omega)
  have l4 : ¬ 16 < d.zoom := by have := HNB.out.2.2; omega
  go_upto_region 14 with fail
  clear y2 x21 l1 l2 l3 l4
  have x9 := HK4.out.cell 9
  have x10 := HK4.out.cell 10
  have x21 := HK4.out.cell 21
  simp only [dcells, List.getElem?_toArray, List.getElem?_cons_zero, List.getElem?_cons_succ] at x9 x10 x21
  have HQ := Lib.hid (show ∀ V, Blk V w.heap.size 41 (dcells d x.v).toArray → V.cell? ⟨w.heap.size, 9, none⟩ = some (.int .i64 d.lo) ∧ V.cell? ⟨w.heap.size, 10, none⟩ = some (.int .i64 d.hi) ∧ V.cell? ⟨w.heap.size, 21, none⟩ = some (.int .i64 d.zoom) from fun V hV => ⟨hV.cell 9, hV.cell 10, hV.cell 21⟩)
  have HCL := Lib.hid (show ∀ W, Below W4.heap.size W4 W → Calls Tryz.prog 138 #[.slice A bs'.length c] W fun e w' => ∃ v2, e = .returned v2 ∧ EOwn elR w' v2 bs' ∧ (∀ i, v2.ownBlock = some i → W.heap.size ≤ i) ∧ Below W.heap.size W w' from fun W hW => clone_any W _ bs' (HE4.out.below hW) (by have := HNB.out.1; have := HNB.out.2.1; omega))
  have HNE := Lib.hid (show w.heap.size ≠ w.heap.size + 1 by omega)
  have V0 := Lib.hid (Below.refl W4.heap.size W4)
  go_region_held3 (fun w' => w'.cell? ⟨w.heap.size, 9, none⟩ = some (.int .i64 d.lo) ∧ w'.cell? ⟨w.heap.size, 10, none⟩ = some (.int .i64 d.hi) ∧ w'.cell? ⟨w.heap.size, 21, none⟩ = some (.int .i64 d.zoom)) (first | (with_reducible exact HQ.out _ ((((K9.out.far (p := ⟨_, _, none⟩) HNE.out _).far (p := ⟨_, _, none⟩) HNE.out _).far (p := ⟨_, _, none⟩) HNE.out _).far (p := ⟨_, _, none⟩) HNE.out _)) | (with_reducible exact HQ.out _ (((K9.out.far (p := ⟨_, _, none⟩) HNE.out _).far (p := ⟨_, _, none⟩) HNE.out _).far (p := ⟨_, _, none⟩) HNE.out _)) | (with_reducible exact HQ.out _ ((K9.out.far (p := ⟨_, _, none⟩) HNE.out _).far (p := ⟨_, _, none⟩) HNE.out _)) | (with_reducible exact HQ.out _ (K9.out.far (p := ⟨_, _, none⟩) HNE.out _)) | (with_reducible exact HQ.out _ (((((K9.out.far (p := ⟨_, _, none⟩) HNE.out _).far (p := ⟨_, _, none⟩) HNE.out _).far (p := ⟨_, _, none⟩) HNE.out _).far (p := ⟨_, _, none⟩) HNE.out _).far (p := ⟨_, _, none⟩) HNE.out _)) | (refine ⟨?_, ?_, ?_⟩ <;> first | assumption | go_keep) | (go_split_ands; refine ⟨?_, ?_, ?_⟩ <;> first | assumption | go_keep)) (first | (go_at_call 138; with_reducible refine Calls.mono (HCL.out _ ?_) ?_; (first | exact V0.out.drew | exact V0.out); rintro e w9 ⟨v2, rfl, hO, hf, hb8⟩; have hb9 : Below W4.heap.size W4 w9 := (by first | exact hb8 | exact V0.out.drew.trans (hb8.mono (show W4.heap.size ≤ W4.drew.heap.size from Nat.le_refl _))); obtain ⟨A2, n2, rfl, _, _⟩ := hO.slice; have K9 := Lib.hid (Blk.thru0 HK4.out hb9); have R9 := Lib.hid (Blk.thru0 HR4.out hb9); have O9 := Lib.hid (Blk.thru0 HO4.out hb9); have F9 := Lib.hid (Blk.thru0 HF4.out hb9); have H9 := Lib.hid hb9; have J9 := Lib.hid hO; have I9 := Lib.hid hf; have b1 := R9.out; have c2 := b1.cell 2; have c3 := b1.cell 3; have c4 := b1.cell 4; have c5 := b1.cell 5; have c6 := b1.cell 6; have f2 := b1.frozen 2; have f3 := b1.frozen 3; have f4 := b1.frozen 4; have f5 := b1.frozen 5; have f6 := b1.frozen 6; simp only [List.getElem?_toArray, List.getElem?_cons_zero, List.getElem?_cons_succ] at c2 c3 c4 c5 c6; obtain ⟨x9, x10, x21⟩ := HQ.out _ K9.out; clear b1 hb9 hb8 hO hf))
  all_goals
    have HI2 : Hid (∀ i, (Value.slice A2 bs'.length n2).ownBlock = some i → w.heap.size + 3 < i) := Lib.hid fun i hi => by
      have h1 : W4.heap.size ≤ i := I9.out i hi
      have h2 := HZ4.out
      omega
    have KR := Lib.hid (Blk.set5r R9.out (.int .i64 d.lo) (.int .i64 d.hi) (.int .i64 n) (.slice A2 bs'.length n2) (.int .i64 d.zoom))
    have KO := Lib.hid (O9.out.far5r (g' := w.heap.size + 1) (by omega) (.int .i64 d.lo) (.int .i64 d.hi) (.int .i64 n) (.slice A2 bs'.length n2) (.int .i64 d.zoom))
    have KF := Lib.hid (F9.out.far5r (g' := w.heap.size + 1) (by omega) (.int .i64 d.lo) (.int .i64 d.hi) (.int .i64 n) (.slice A2 bs'.length n2) (.int .i64 d.zoom))
    have HOX := Lib.hid (J9.out.keep (w' := (((((w9.setCell ⟨w.heap.size + 1, 2, none⟩ (.int .i64 d.lo)).setCell ⟨w.heap.size + 1, 3, none⟩ (.int .i64 d.hi)).setCell ⟨w.heap.size + 1, 4, none⟩ (.int .i64 n)).setCell ⟨w.heap.size + 1, 5, none⟩ (.slice A2 bs'.length n2)).setCell ⟨w.heap.size + 1, 6, none⟩ (.int .i64 d.zoom))) fun i hi e => five_far _ _ _ _ _ _ _ i (by have := HI2.out i e; omega))
    have HCX := Lib.hid ((HCK4.out.below H9.out).far (g := w.heap.size + 1) (w' := (((((w9.setCell ⟨w.heap.size + 1, 2, none⟩ (.int .i64 d.lo)).setCell ⟨w.heap.size + 1, 3, none⟩ (.int .i64 d.hi)).setCell ⟨w.heap.size + 1, 4, none⟩ (.int .i64 n)).setCell ⟨w.heap.size + 1, 5, none⟩ (.slice A2 bs'.length n2)).setCell ⟨w.heap.size + 1, 6, none⟩ (.int .i64 d.zoom))) (by have := HLT.out; omega) (by have := HML.out; omega) (fun j b hj => by have := HIL.out j b hj; omega) (fun k _ hk => five_far _ _ _ _ _ _ _ k hk))
    have HBX := Lib.hid ((HBU4.out.trans (But.of_below H9.out)).low (five_below _ _ (w.heap.size + 1) (by omega) (.int .i64 d.lo) (.int .i64 d.hi) (.int .i64 n) (.slice A2 bs'.length n2) (.int .i64 d.zoom)))
    clear x9 x10 x21 c2 c3 c4 c5 c6 f2 f3 f4 f5 f6 K9 R9 O9 F9 J9 I9 H9 HCK4 HBU4 HK4 HR4 HO4 HF4 HE4 HCL HQ V0
    generalize (((((w9.setCell ⟨w.heap.size + 1, 2, none⟩ (.int .i64 d.lo)).setCell ⟨w.heap.size + 1, 3, none⟩ (.int .i64 d.hi)).setCell ⟨w.heap.size + 1, 4, none⟩ (.int .i64 n)).setCell ⟨w.heap.size + 1, 5, none⟩ (.slice A2 bs'.length n2)).setCell ⟨w.heap.size + 1, 6, none⟩ (.int .i64 d.zoom)) = W5 at *
    have r0 := KR.out.cell 0
    have r1 := KR.out.cell 1
    have r2 := KR.out.cell 2
    have r3 := KR.out.cell 3
    have r4 := KR.out.cell 4
    have r5 := KR.out.cell 5
    have r6 := KR.out.cell 6
    have o0 := KO.out.cell 0
    have o1 := KO.out.cell 1
    have o2 := KO.out.cell 2
    have o3 := KO.out.cell 3
    have o4 := KO.out.cell 4
    have o5 := KO.out.cell 5
    have o6 := KO.out.cell 6
    have p0 := KF.out.cell 0
    have p1 := KF.out.cell 1
    have p2 := KF.out.cell 2
    simp only [List.getElem?_toArray, List.getElem?_cons_zero, List.getElem?_cons_succ] at r0 r1 r2 r3 r4 r5 r6 o0 o1 o2 o3 o4 o5 o6 p0 p1 p2
    have g0 := KO.out.frozen 0
    have g1 := KO.out.frozen 1
    have g2 := KO.out.frozen 2
    have g3 := KO.out.frozen 3
    have g4 := KO.out.frozen 4
    have g5 := KO.out.frozen 5
    have g6 := KO.out.frozen 6
    have h0 := KF.out.frozen 0
    have h1 := KF.out.frozen 1
    have h2 := KF.out.frozen 2
    go_wp2_with fail
    clear r0 r1 r2 r3 r4 r5 r6 o0 o1 o2 o3 o4 o5 o6 p0 p1 p2 g0 g1 g2 g3 g4 g5 g6 h0 h1 h2
    have Z1 := Lib.hid (sight_blk1 (g' := w.heap.size + 3) KO.out (by omega) (.int .i64 k) (.int .i64 ro) (.int .i64 d.lo) (.int .i64 d.hi) (.int .i64 n) (.slice A2 bs'.length n2) (.int .i64 d.zoom) (.int .i64 0) (.int .i64 0) (.int .i64 0))
    have Z2 := Lib.hid (sight_blk2 (g := w.heap.size + 2) KF.out (by omega) (.int .i64 k) (.int .i64 ro) (.int .i64 d.lo) (.int .i64 d.hi) (.int .i64 n) (.slice A2 bs'.length n2) (.int .i64 d.zoom) (.int .i64 0) (.int .i64 0) (.int .i64 0))
    have Z3 := Lib.hid (HOX.out.keep fun i hi e => sight_far W5 (w.heap.size + 2) (w.heap.size + 3) (.int .i64 k) (.int .i64 ro) (.int .i64 d.lo) (.int .i64 d.hi) (.int .i64 n) (.slice A2 bs'.length n2) (.int .i64 d.zoom) (.int .i64 0) (.int .i64 0) (.int .i64 0) i (by have := HI2.out i e; omega) (by have := HI2.out i e; omega))
    have Z4 := Lib.hid (HBX.out.low (sight_end _ W5 (w.heap.size + 2) (w.heap.size + 3) (by omega) (by omega) (.int .i64 k) (.int .i64 ro) (.int .i64 d.lo) (.int .i64 d.hi) (.int .i64 n) (.slice A2 bs'.length n2) (.int .i64 d.zoom) (.int .i64 0) (.int .i64 0) (.int .i64 0)))
    have Z5 := Lib.hid ((HCX.out.far (g := w.heap.size + 2) (by have := HLT.out; omega) (by have := HML.out; omega) (fun j b hj => by have := HIL.out j b hj; omega) (fun i _ hk => seven_far W5 (w.heap.size + 2) (.int .i64 k) (.int .i64 ro) (.int .i64 d.lo) (.int .i64 d.hi) (.int .i64 n) (.slice A2 bs'.length n2) (.int .i64 d.zoom) i hk)).far (g := w.heap.size + 3) (by have := HLT.out; omega) (by have := HML.out; omega) (fun j b hj => by have := HIL.out j b hj; omega) (fun i _ hk => three_far _ (w.heap.size + 3) (.int .i64 0) (.int .i64 0) (.int .i64 0) i hk))
    refine bodyPost_ret (v := .tuple #[ruV ⟨k, ro, d.lo, d.hi, n, bs', d.zoom⟩ (.slice A2 bs'.length n2), fauV 0 (0, 0)]) ?_ rfl ⟨_, rfl, Z3.out, fun i hi => by have := HI2.out i hi; omega, Z5.out, Z4.out⟩
    clear HCX HBX HOX KR KO KF Z3 Z4 Z5
    have d0 := Z1.out.cell 0
    have d1 := Z1.out.cell 1
    have d2 := Z1.out.cell 2
    have d3 := Z1.out.cell 3
    have d4 := Z1.out.cell 4
    have d5 := Z1.out.cell 5
    have d6 := Z1.out.cell 6
    have e0 := Z2.out.cell 0
    have e1 := Z2.out.cell 1
    have e2 := Z2.out.cell 2
    simp only [List.getElem?_toArray, List.getElem?_cons_zero, List.getElem?_cons_succ] at d0 d1 d2 d3 d4 d5 d6 e0 e1 e2
    generalize ((((((((((W5.setCell ⟨w.heap.size + 2, 0, none⟩ (.int .i64 k)).setCell ⟨w.heap.size + 2, 1, none⟩ (.int .i64 ro)).setCell ⟨w.heap.size + 2, 2, none⟩ (.int .i64 d.lo)).setCell ⟨w.heap.size + 2, 3, none⟩ (.int .i64 d.hi)).setCell ⟨w.heap.size + 2, 4, none⟩ (.int .i64 n)).setCell ⟨w.heap.size + 2, 5, none⟩ (.slice A2 bs'.length n2)).setCell ⟨w.heap.size + 2, 6, none⟩ (.int .i64 d.zoom)).setCell ⟨w.heap.size + 3, 0, none⟩ (.int .i64 0)).setCell ⟨w.heap.size + 3, 1, none⟩ (.int .i64 0)).setCell ⟨w.heap.size + 3, 2, none⟩ (.int .i64 0)) = W6 at *
    simp [results, Tryz.results102, go_sem, *]
end
section
set_option linter.unusedVariables false
set_option linter.unusedSimpArgs false
open Go.RowKit Go.Maps
attribute [local go_sem ↓] to_ld44
attribute [local go_sem] run_ld24
/-- All blocks but one and a row's are kept. -/
structure ButV (q : Nat) (v : Value) (w w' : World) : Prop where
  os : w'.os = w.os
  tape : w'.tape = w.tape
  output : w'.output = w.output
  size : w.heap.size ≤ w'.heap.size
  block : ∀ k, k < w.heap.size → k ≠ q → v.ownBlock ≠ some k → w'.heap[k]? = w.heap[k]?
theorem ButV.of_but {q : Nat} {v : Value} {w w' : World} (h : But q w w') : ButV q v w w' := ⟨h.os, h.tape, h.output, h.size, fun k hk hq _ => h.block k hk hq⟩
theorem ButV.low {q : Nat} {v : Value} {a w w' : World} (h : ButV q v a w) (hb : Below a.heap.size w w') : ButV q v a w' := ⟨hb.os.trans h.os, hb.tape.trans h.tape, hb.output.trans h.output, Nat.le_trans h.size hb.size, fun i hi hq hv => (hb.block i hi).trans (h.block i hi hq hv)⟩
theorem ButV.grown {q : Nat} {v : Value} {a w w' : World} (h : ButV q v a w) (hg : w.grownBy w' v.ownBlock) : ButV q v a w' := ⟨hg.os.trans h.os, hg.tape.trans h.tape, hg.output.trans h.output, Nat.le_trans h.size hg.size, fun i hi hq hv => (hg.block i (by have := h.size; omega) (Ne.symm hv)).trans (h.block i hi hq hv)⟩
theorem ButV.set {q : Nat} {v : Value} {a w : World} (h : ButV q v a w) (o : Nat) (u : Value) : ButV q v a (w.setCell ⟨q, o, none⟩ u) := by
  have hb := (Below.refl 0 w).setCell (p := ⟨q, o, none⟩) (Nat.zero_le _) u
  exact ⟨hb.os.trans h.os, hb.tape.trans h.tape, hb.output.trans h.output, Nat.le_trans h.size hb.size, fun i hi hq hv => (Below.heap_setCell w ⟨q, o, none⟩ u i hq).trans (h.block i hi hq hv)⟩
theorem CkAt.setV {T : List Value} {w w' : World} {q mo f : Nat} {rv rv' v : Value} {bx bx' : Int} {B C : Nat} {I : Int → Option Nat} {N : Int → Bs → Option (Dc × RV)} (h : CkAt B C T w q mo rv bx I N) (hb : Blk w' q 61 #[.map (some mo), rv', .int .i64 bx']) (hk : ∀ k, k < w.heap.size → k ≠ q ∧ k ≠ f → v.ownBlock ≠ some k → w'.heap[k]? = w.heap[k]?) (hm : v.ownBlock ≠ some mo) (hi : ∀ j b, I j = some b → v.ownBlock ≠ some b) (hmf : mo ≠ f) (hif : ∀ j b, I j = some b → b ≠ f) : CkAt B C T w' q mo rv' bx' I N := by
  obtain ⟨n, H, a, b, c⟩ := h.out
  refine ⟨hb, ⟨n, H, a, b.keep (hk _ b.lt ⟨Ne.symm h.qm, hmf⟩ hm), c⟩, fun k i hk' hi' => ?_, h.no, h.zero, h.lo, h.low, h.inj⟩
  obtain ⟨n, H, a, b, c⟩ := h.inn k i hk' hi'
  exact ⟨n, H, a, b.keep (hk _ b.lt ⟨Ne.symm (h.qi hk' hi'), hif k i hi'⟩ (hi k i hi')), c⟩
/-- A checker's rules: a row of its own. -/
def RowAt (B : Nat) (q mo : Nat) (I : Int → Option Nat) (w : World) (v : Value) (R : List (Rc × RV)) : Prop := EOwn elRu w v R ∧ ∀ i, v.ownBlock = some i → B ≤ i ∧ i ≠ q ∧ i ≠ mo ∧ ∀ j b, I j = some b → i ≠ b
theorem rule_boxes (w : World) (D Z : Array Value) : Blk ((w.alloc (.cells D 41)).alloc (.cells Z 29)) w.heap.size 41 D ∧ Blk ((w.alloc (.cells D 41)).alloc (.cells Z 29)) (w.heap.size + 1) 29 Z ∧ Below w.heap.size w ((w.alloc (.cells D 41)).alloc (.cells Z 29)) := by
  refine ⟨(Blk.new w 41 D).alloc _, Blk.newAt (by simp), ?_⟩
  exact ((Below.refl _ _).alloc (Nat.le_refl _) _).alloc (by simp) _
set_option maxRecDepth 100000 in
set_option maxHeartbeats 8000000 in
theorem rule_ok {T : List Value} {w : World} {q mo : Nat} {rv : Value} {bx : Int} {B C : Nat} {I : Int → Option Nat} {N : Int → Bs → Option (Dc × RV)} (h : CkAt B C T w q mo rv bx I N) (R : List (Rc × RV)) (hR : RowAt B q mo I w rv R) (hRl : R.length < 32) (d : Dc) (x : RV) (hk6 : d.k ≠ 6) (ro n : Int) (bs' : List Bx) (hlo : d.lo ≤ d.hi) (hhi : d.hi ≤ 7) (hB : B ≤ w.heap.size)
    (HSR : ∀ W, CkAt B C T W q mo rv bx I N → But q w W → Calls Tryz.prog 100 #[.agg #[.bool d.role.any, .string (bs d.role.nm), .int .i64 d.role.n, .int .i64 d.role.p.1, .int .i64 d.role.p.2], .func (.func 101) #[ptr q] #[], .int .i64 7] W fun e w' => e = .returned (.tuple #[.int .i64 ro, fauV 0 (0, 0)]) ∧ Below W.heap.size W w')
    (HSL : ∀ W, CkAt B C T W q mo rv bx I N → But q w W → Calls Tryz.prog 100 #[.agg #[.bool d.label.any, .string (bs d.label.nm), .int .i64 d.label.n, .int .i64 d.label.p.1, .int .i64 d.label.p.2], .func (.func 139) #[ptr q] #[], .int .i64 7] W fun e w' => e = .returned (.tuple #[.int .i64 n, fauV 0 (0, 0)]) ∧ Below W.heap.size W w')
    (HG : ∀ W, CkAt B C T W q mo rv bx I N → But q w W → Calls Tryz.prog 140 #[ptr q, .agg #[.bool d.wh.any, .string (bs d.wh.nm), .int .i64 d.wh.n, .int .i64 d.wh.p.1, .int .i64 d.wh.p.2]] W fun e w' => ∃ A c, e = .returned (.tuple #[.slice A bs'.length c, .bool true]) ∧ ERd elR w' (.slice A bs'.length c) bs' ∧ Below W.heap.size W w')
    (hb0 : 0 ≤ bx) (hb1 : bx + (bs'.length : Int) ≤ 32) (hz : d.zoom ≤ 16) :
    Calls Tryz.prog 56 #[ptr q, dV d x.v] w fun e w' => e = .returned (fauV 0 (0, 0)) ∧ (∃ rv2 x2, RowAt B q mo I w' rv2 (R ++ [((⟨d.k, ro, d.lo, d.hi, n, bs', d.zoom⟩ : Rc), x2)]) ∧ (rv2.ownBlock = rv.ownBlock ∨ ∀ i, rv2.ownBlock = some i → w.heap.size ≤ i) ∧ EOwn elR w' x2.v bs' ∧ (∀ i, x2.v.ownBlock = some i → w.heap.size ≤ i) ∧ CkAt B C T w' q mo rv2 (bx + bs'.length) I N) ∧ ButV q rv w w' := by
  obtain ⟨A0, c0, rfl, -, -⟩ := hR.1.slice
  have HLT := Lib.hid h.blk.lt
  have HML := Lib.hid h.mlt
  have HIL := Lib.hid h.ilt
  have HX := Lib.hid (rule_boxes w (dcells d x.v).toArray #[.int .i64 0, .int .i64 0, .int .i64 0])
  have HCK := Lib.hid (h.below HX.out.2.2)
  have HRR := Lib.hid hR
  have HSS := Lib.hid HSR
  have HSI := Lib.hid fun W (hW : CkAt B C T W q mo (.slice A0 R.length c0) bx I N) (hb : But q w W) => sight_ok hW d x d.k ro n bs' hlo hhi (fun V h1 h2 => HSL V h1 (hb.trans (But.of_below h2))) (fun V h1 h2 => HG V h1 (hb.trans (But.of_below h2))) hb0 hb1 hz
  have HNB := Lib.hid (show R.length < 32 ∧ B ≤ w.heap.size from ⟨hRl, hB⟩)
  have hn32 : (((R.length : Nat) : Int) == 32) = false := beq_eq_false_iff_ne.2 (by omega)
  have hk6b : (!(d.k == 6)) = true := by simp [hk6]
  have hk6c : (d.k == 6) = false := beq_eq_false_iff_ne.2 hk6
  clear h HSR HSL HG hb0 hb1 hz hlo hhi hR hB
  simp only [dV, ruV] at HSI ⊢
  go_enter Tryz.func56, Tryz.ntmps56
  go_upto_region 1 with fail
  generalize ((w.alloc (.cells (dcells d x.v).toArray 41)).alloc (.cells #[.int .i64 0, .int .i64 0, .int .i64 0] 29)) = W at *
  have y1 : W.cell? ⟨q, 1, none⟩ = some (.slice A0 R.length c0) := HCK.out.blk.cell 1
  have x4 := HX.out.1.cell 4
  have x5 := HX.out.1.cell 5
  have x6 := HX.out.1.cell 6
  have x7 := HX.out.1.cell 7
  have x8 := HX.out.1.cell 8
  simp only [dcells, List.getElem?_toArray, List.getElem?_cons_zero, List.getElem?_cons_succ] at x4 x5 x6 x7 x8
  go_wp2_with fail
  refine (HSS.out _ HCK.out (But.of_below HX.out.2.2)).mono ?_
  rintro e w1 ⟨rfl, hb⟩
  have HB1 := Lib.hid (HX.out.2.2.trans (hb.mono HX.out.2.2.size))
  have HCK1 := Lib.hid (HCK.out.below hb)
  have HK1 := Lib.hid (Blk.thru0 HX.out.1 hb)
  have HF1 := Lib.hid (Blk.thru0 HX.out.2.1 hb)
  clear hb HX HCK x4 x5 x6 x7 x8 y1 hn32 HSS
  have x0 := HK1.out.cell 0
  simp only [dcells, List.getElem?_toArray, List.getElem?_cons_zero, List.getElem?_cons_succ] at x0
  go_upto_region 4 with fail
  have hal : Below w1.heap.size w1 (w1.alloc (.cells #[.int .i64 0, .int .i64 0, .int .i64 0] 29)) := (Below.refl _ _).alloc (Nat.le_refl _) _
  have HB2 := Lib.hid (HB1.out.trans (hal.mono HB1.out.size))
  have HCK2 := Lib.hid (HCK1.out.below hal)
  have HK2 := Lib.hid (Blk.thru0 HK1.out hal)
  have HF2 := Lib.hid (Blk.thru0 HF1.out hal)
  have HT2 := Lib.hid (Blk.new w1 29 #[.int .i64 0, .int .i64 0, .int .i64 0])
  have HTF := Lib.hid (show w.heap.size + 1 < w1.heap.size from HF1.out.lt)
  clear hal HB1 HCK1 HK1 HF1 x0
  generalize (w1.alloc (.cells #[.int .i64 0, .int .i64 0, .int .i64 0] 29)) = W2 at *
  generalize w1.heap.size = tf at *
  have t0 := HT2.out.cell 0
  have x0 := HK2.out.cell 0
  simp only [dcells, List.getElem?_toArray, List.getElem?_cons_zero, List.getElem?_cons_succ] at t0 x0
  go_upto_region 7 with fail
  have hal : Below W2.heap.size W2 (W2.alloc (.cells #[.int .i64 d.k, .int .i64 ro, .int .i64 0, .int .i64 0, .int .i64 0, .slice none 0 0, .int .i64 0] 50)) := (Below.refl _ _).alloc (Nat.le_refl _) _
  have HB3 := Lib.hid (HB2.out.trans (hal.mono HB2.out.size))
  have HCK3 := Lib.hid (HCK2.out.below hal)
  have HK3 := Lib.hid (Blk.thru0 HK2.out hal)
  have HF3 := Lib.hid (Blk.thru0 HF2.out hal)
  have HT3 := Lib.hid (Blk.thru0 HT2.out hal)
  have HR3 := Lib.hid (Blk.new W2 50 #[.int .i64 d.k, .int .i64 ro, .int .i64 0, .int .i64 0, .int .i64 0, .slice none 0 0, .int .i64 0])
  have HTR := Lib.hid (show tf < W2.heap.size from HT2.out.lt)
  clear hal HB2 HCK2 HK2 HF2 HT2 t0 x0
  generalize (W2.alloc (.cells #[.int .i64 d.k, .int .i64 ro, .int .i64 0, .int .i64 0, .int .i64 0, .slice none 0 0, .int .i64 0] 50)) = W3 at *
  generalize W2.heap.size = tr at *
  have x0 := HK3.out.cell 0
  simp only [dcells, List.getElem?_toArray, List.getElem?_cons_zero, List.getElem?_cons_succ] at x0
  have r0 := HR3.out.cell 0
  have r1 := HR3.out.cell 1
  have r2 := HR3.out.cell 2
  have r3 := HR3.out.cell 3
  have r4 := HR3.out.cell 4
  have r5 := HR3.out.cell 5
  have r6 := HR3.out.cell 6
  simp only [List.getElem?_toArray, List.getElem?_cons_zero, List.getElem?_cons_succ] at r0 r1 r2 r3 r4 r5 r6
  have hrg : Rng W3 w.heap.size (dcells d x.v) := Blk.range HK3.out
  have hrd := hrg.rd rfl
  have hld : ld24 W3 w.heap.size = .agg (dcells d x.v).toArray := ld24_of rfl hrg
  clear hrg
  go_wp2_with fail
  refine (HSI.out _ HCK3.out (But.of_below HB3.out)).mono ?_
  rintro e w5 ⟨v2, rfl, hO, hf, hck, hbu⟩
  obtain ⟨A2, n2, rfl, -, -⟩ := hO.slice
  clear x0 r0 r1 r2 r3 r4 r5 r6 hrd hld HSI
  have HQ3 := Lib.hid (show w.heap.size + 1 ≠ q ∧ tf ≠ q ∧ tr ≠ q ∧ tr ≠ tf ∧ w.heap.size + 1 ≠ tf ∧ w.heap.size + 1 ≠ tr from by have := HLT.out; have := HTF.out; have := HTR.out; omega)
  have HSZ3 := Lib.hid (show tr < W3.heap.size from HR3.out.lt)
  have F5 := Lib.hid (HF3.out.but hbu HQ3.out.1)
  have T5 := Lib.hid (HT3.out.but hbu HQ3.out.2.1)
  have R5 := Lib.hid (HR3.out.but hbu HQ3.out.2.2.1)
  have B5 : Hid (But q w w5) := Lib.hid ((But.of_below HB3.out).trans hbu)
  have I5 : Hid (∀ i, (Value.slice A2 bs'.length n2).ownBlock = some i → tr < i) := Lib.hid fun i hi => by have := hf i hi; have := HSZ3.out; omega
  have O5 := Lib.hid hO
  have C5 := Lib.hid hck
  have L5 : Hid (EOwn elRu w5 (.slice A0 R.length c0) R) := Lib.hid (HRR.out.1.keep fun i hi e => B5.out.block i hi (HRR.out.2 i e).2.1)
  clear hO hf hck hbu HB3 HCK3 HK3 HF3 HT3 HR3
  have r0 := R5.out.cell 0
  have r1 := R5.out.cell 1
  have r2 := R5.out.cell 2
  have r3 := R5.out.cell 3
  have r4 := R5.out.cell 4
  have r5 := R5.out.cell 5
  have r6 := R5.out.cell 6
  have t0 := T5.out.cell 0
  have t1 := T5.out.cell 1
  have t2 := T5.out.cell 2
  simp only [List.getElem?_toArray, List.getElem?_cons_zero, List.getElem?_cons_succ] at r0 r1 r2 r3 r4 r5 r6 t0 t1 t2
  have a0 := R5.out.frozen 0
  have a1 := R5.out.frozen 1
  have a2 := R5.out.frozen 2
  have a3 := R5.out.frozen 3
  have a4 := R5.out.frozen 4
  have a5 := R5.out.frozen 5
  have a6 := R5.out.frozen 6
  have b0 := T5.out.frozen 0
  have b1 := T5.out.frozen 1
  have b2 := T5.out.frozen 2
  have hne1 := HQ3.out.2.2.2.1
  have hne2 := Ne.symm HQ3.out.2.2.2.1
  go_upto_region 9 with fail
  clear hne1 hne2 r0 r1 r2 r3 r4 r5 r6 t0 t1 t2 a0 a1 a2 a3 a4 a5 a6 b0 b1 b2
  have R6 := Lib.hid (sight_blk1 (g' := tf) R5.out HQ3.out.2.2.2.1 (.int .i64 d.k) (.int .i64 ro) (.int .i64 d.lo) (.int .i64 d.hi) (.int .i64 n) (.slice A2 bs'.length n2) (.int .i64 d.zoom) (.int .i64 0) (.int .i64 0) (.int .i64 0))
  have T6 := Lib.hid (sight_blk2 (g := tr) T5.out (Ne.symm HQ3.out.2.2.2.1) (.int .i64 d.k) (.int .i64 ro) (.int .i64 d.lo) (.int .i64 d.hi) (.int .i64 n) (.slice A2 bs'.length n2) (.int .i64 d.zoom) (.int .i64 0) (.int .i64 0) (.int .i64 0))
  have F6 : Hid (Blk ((((((((((w5.setCell ⟨tr, 0, none⟩ (.int .i64 d.k)).setCell ⟨tr, 1, none⟩ (.int .i64 ro)).setCell ⟨tr, 2, none⟩ (.int .i64 d.lo)).setCell ⟨tr, 3, none⟩ (.int .i64 d.hi)).setCell ⟨tr, 4, none⟩ (.int .i64 n)).setCell ⟨tr, 5, none⟩ (.slice A2 bs'.length n2)).setCell ⟨tr, 6, none⟩ (.int .i64 d.zoom)).setCell ⟨tf, 0, none⟩ (.int .i64 0)).setCell ⟨tf, 1, none⟩ (.int .i64 0)).setCell ⟨tf, 2, none⟩ (.int .i64 0)) (w.heap.size + 1) 29 #[.int .i64 0, .int .i64 0, .int .i64 0]) := Lib.hid ((sight_far w5 tr tf (.int .i64 d.k) (.int .i64 ro) (.int .i64 d.lo) (.int .i64 d.hi) (.int .i64 n) (.slice A2 bs'.length n2) (.int .i64 d.zoom) (.int .i64 0) (.int .i64 0) (.int .i64 0) _ HQ3.out.2.2.2.2.2 HQ3.out.2.2.2.2.1).trans F5.out)
  have O6 := Lib.hid (O5.out.keep fun i hi e => sight_far w5 tr tf (.int .i64 d.k) (.int .i64 ro) (.int .i64 d.lo) (.int .i64 d.hi) (.int .i64 n) (.slice A2 bs'.length n2) (.int .i64 d.zoom) (.int .i64 0) (.int .i64 0) (.int .i64 0) i (by have := I5.out i e; omega) (by have := I5.out i e; have := HTR.out; omega))
  have L6 := Lib.hid (L5.out.keep fun i hi e => sight_far w5 tr tf (.int .i64 d.k) (.int .i64 ro) (.int .i64 d.lo) (.int .i64 d.hi) (.int .i64 n) (.slice A2 bs'.length n2) (.int .i64 d.zoom) (.int .i64 0) (.int .i64 0) (.int .i64 0) i (by have := HRR.out.1.lt e; have := HTR.out; have := HTF.out; omega) (by have := HRR.out.1.lt e; have := HTF.out; omega))
  have B6 := Lib.hid (B5.out.low (sight_end _ w5 tr tf (by have := HTR.out; have := HTF.out; omega) (by have := HTF.out; omega) (.int .i64 d.k) (.int .i64 ro) (.int .i64 d.lo) (.int .i64 d.hi) (.int .i64 n) (.slice A2 bs'.length n2) (.int .i64 d.zoom) (.int .i64 0) (.int .i64 0) (.int .i64 0)))
  have C6 := Lib.hid ((C5.out.far (g := tr) HQ3.out.2.2.1 (by have := HML.out; have := HTR.out; have := HTF.out; omega) (fun j b hj => by have := HIL.out j b hj; have := HTR.out; have := HTF.out; omega) (fun i _ hk => seven_far w5 tr (.int .i64 d.k) (.int .i64 ro) (.int .i64 d.lo) (.int .i64 d.hi) (.int .i64 n) (.slice A2 bs'.length n2) (.int .i64 d.zoom) i hk)).far (g := tf) HQ3.out.2.1 (by have := HML.out; have := HTF.out; omega) (fun j b hj => by have := HIL.out j b hj; have := HTF.out; omega) (fun i _ hk => three_far _ tf (.int .i64 0) (.int .i64 0) (.int .i64 0) i hk))
  have HS6 := Lib.hid (show tr < w5.heap.size from R5.out.lt)
  clear R5 T5 F5 O5 L5 B5 C5
  generalize ((((((((((w5.setCell ⟨tr, 0, none⟩ (.int .i64 d.k)).setCell ⟨tr, 1, none⟩ (.int .i64 ro)).setCell ⟨tr, 2, none⟩ (.int .i64 d.lo)).setCell ⟨tr, 3, none⟩ (.int .i64 d.hi)).setCell ⟨tr, 4, none⟩ (.int .i64 n)).setCell ⟨tr, 5, none⟩ (.slice A2 bs'.length n2)).setCell ⟨tr, 6, none⟩ (.int .i64 d.zoom)).setCell ⟨tf, 0, none⟩ (.int .i64 0)).setCell ⟨tf, 1, none⟩ (.int .i64 0)).setCell ⟨tf, 2, none⟩ (.int .i64 0)) = W6 at *
  have t0 := T6.out.cell 0
  simp only [List.getElem?_toArray, List.getElem?_cons_zero, List.getElem?_cons_succ] at t0
  go_upto_region 11 with fail
  clear t0
  have r0 := R6.out.cell 0
  have r1 := R6.out.cell 1
  have r2 := R6.out.cell 2
  have r3 := R6.out.cell 3
  have r4 := R6.out.cell 4
  have r5 := R6.out.cell 5
  have r6 := R6.out.cell 6
  have y1 : W6.cell? ⟨q, 1, none⟩ = some (.slice A0 R.length c0) := C6.out.blk.cell 1
  simp only [List.getElem?_toArray, List.getElem?_cons_zero, List.getElem?_cons_succ] at r0 r1 r2 r3 r4 r5 r6
  have y1z : (W6.alloc (.cells #[.int .i64 d.k, .int .i64 ro, .int .i64 d.lo, .int .i64 d.hi, .int .i64 n, .slice A2 bs'.length n2, .int .i64 d.zoom] 50)).cell? ⟨q, 1, none⟩ = some (.slice A0 R.length c0) := (C6.out.blk.alloc _).cell 1
  have HOW := L6
  have HAC := Lib.hid (show R.length ≤ 1000000 from by have := HNB.out.1; omega)
  have hz1 := World.new_ne W6 _ y1
  have hz2 := C6.out.blk.lt
  have HZ9 := Lib.hid (show tr < W6.heap.size from R6.out.lt)
  go_region_law ((refine step_epush elRu_ok rfl (.tmp 51) (.tmp 53) _ rfl (by kernel_rfl) (.slice A0 R.length c0) R ((⟨d.k, ro, d.lo, d.hi, n, bs', d.zoom⟩ : Rc), (⟨A2, bs'.length, n2⟩ : RV)) W6.heap.size 1 (by simp [Act.eval, Act.put]) (by simp [Act.eval, Act.put]) (by first | exact (HOW.out.alloc _).drew | exact HOW.out.alloc _) (fun j u hu => by first | exact new_cell_d _ _ _ j (by simpa [elRu, rucells, RV.v] using hu) | exact new_cell _ _ _ j (by simpa [elRu, rucells, RV.v] using hu)) HAC.out ?_; rintro v' w' ⟨g, cap, rfl, hrow, hgr, hor⟩; have HQ7 := Lib.hid ((C6.out.blk.alloc (.cells #[.int .i64 d.k, .int .i64 ro, .int .i64 d.lo, .int .i64 d.hi, .int .i64 n, .slice A2 bs'.length n2, .int .i64 d.zoom] 50)).drew.grown hgr (fun e => (HRR.out.2 q e.symm).2.1 rfl)); have kk1 := HQ7.out.cell 1; have ff1 := HQ7.out.frozen 1; simp only [List.getElem?_toArray, List.getElem?_cons_zero, List.getElem?_cons_succ] at kk1; have HROW := Lib.hid hrow; have HGR := Lib.hid hgr; have HOR := Lib.hid hor; clear hrow hgr hor))
  all_goals
    have hrg : q ≠ g := by
      obtain ⟨cur, h9, _⟩ := HROW.out
      exact Blk.ne_ HQ7.out h9 (by decide)
    have hzA : (W6.alloc (.cells #[.int .i64 d.k, .int .i64 ro, .int .i64 d.lo, .int .i64 d.hi, .int .i64 n, .slice A2 bs'.length n2, .int .i64 d.zoom] 50)).drew.heap.size = W6.heap.size + 1 := by simp [World.drew]
    have hs1 : w.heap.size + 1 < W6.heap.size := F6.out.lt
    have hown : ∀ i, (Value.slice A0 R.length c0).ownBlock = some i → i < w.heap.size := fun i e => HRR.out.1.lt e
    have hgge : (Value.slice A0 R.length c0).ownBlock = some g ∨ W6.heap.size < g := by
      rcases HOR.out with h9 | h9
      · exact Or.inl h9
      · exact Or.inr (by omega)
    have hgs1 : w.heap.size + 1 ≠ g := by
      rcases hgge with h9 | h9
      · have := hown _ h9; omega
      · omega
    have HG8 : Hid (∀ k, k < W6.heap.size → (Value.slice A0 R.length c0).ownBlock ≠ some k → w'.heap[k]? = W6.heap[k]?) := Lib.hid fun k hk hv => (HGR.out.block k (by omega) (Ne.symm hv)).trans (Below.heap_alloc W6 _ k hk)
    have hF7 : Blk w' (w.heap.size + 1) 29 #[.int .i64 0, .int .i64 0, .int .i64 0] := (HG8.out _ hs1 (fun e => by have := hown _ e; omega)).trans F6.out
    have hF8 := hF7.far (p := ⟨q, 1, none⟩) HQ3.out.1 (.slice (some ⟨g, 0, none⟩) (R.length + 1) cap)
    have HF8 := Lib.hid hF8
    have u0 := hF8.cell 0
    have u1 := hF8.cell 1
    have u2 := hF8.cell 2
    simp only [List.getElem?_toArray, List.getElem?_cons_zero, List.getElem?_cons_succ] at u0 u1 u2
    have v0 := hF8.frozen 0
    have v1 := hF8.frozen 1
    have v2 := hF8.frozen 2
    have hq8 : Blk (w'.setCell ⟨q, 1, none⟩ (.slice (some ⟨g, 0, none⟩) (R.length + 1) cap)) q 61 #[.map (some mo), (.slice (some ⟨g, 0, none⟩) (R.length + 1) cap), .int .i64 (bx + (bs'.length : Int))] := by
      have := HQ7.out.set_ 1 (.slice (some ⟨g, 0, none⟩) (R.length + 1) cap)
      simpa using this
    have HQ9 := Lib.hid (hq8.far3 (g' := w.heap.size + 1) (Ne.symm HQ3.out.1) (.int .i64 0) (.int .i64 0) (.int .i64 0))
    have HD9 := Lib.hid (Blk.set3 hF8 (.int .i64 0) (.int .i64 0) (.int .i64 0))
    have HFAR : Hid (∀ k, k ≠ q → k ≠ w.heap.size + 1 → (((((w'.setCell ⟨q, 1, none⟩ (.slice (some ⟨g, 0, none⟩) (R.length + 1) cap)).setCell ⟨w.heap.size + 1, 0, none⟩ (.int .i64 0)).setCell ⟨w.heap.size + 1, 1, none⟩ (.int .i64 0)).setCell ⟨w.heap.size + 1, 2, none⟩ (.int .i64 0))).heap[k]? = w'.heap[k]?) := Lib.hid fun k h1 h2 => by
      rw [three_far _ _ _ _ _ _ h2, Below.heap_setCell _ ⟨q, 1, none⟩ _ _ h1]
    have HRE : Hid (RowAt B q mo I ((((w'.setCell ⟨q, 1, none⟩ (.slice (some ⟨g, 0, none⟩) (R.length + 1) cap)).setCell ⟨w.heap.size + 1, 0, none⟩ (.int .i64 0)).setCell ⟨w.heap.size + 1, 1, none⟩ (.int .i64 0)).setCell ⟨w.heap.size + 1, 2, none⟩ (.int .i64 0)) (.slice (some ⟨g, 0, none⟩) (R.length + 1) cap) (R ++ [((⟨d.k, ro, d.lo, d.hi, n, bs', d.zoom⟩ : Rc), (⟨A2, bs'.length, n2⟩ : RV))])) := Lib.hid ⟨.inr ⟨g, cap, by simp, HROW.out.keep (HFAR.out g (Ne.symm hrg) (Ne.symm hgs1))⟩, fun i hi => by
      have : i = g := by simpa [Value.ownBlock] using hi.symm
      subst this
      rcases hgge with h9 | h9
      · exact HRR.out.2 _ h9
      · have := HML.out; have := HNB.out.2; exact ⟨by omega, Ne.symm hrg, by omega, fun j b hj => by have := HIL.out j b hj; omega⟩⟩
    have HOE : Hid (EOwn elR ((((w'.setCell ⟨q, 1, none⟩ (.slice (some ⟨g, 0, none⟩) (R.length + 1) cap)).setCell ⟨w.heap.size + 1, 0, none⟩ (.int .i64 0)).setCell ⟨w.heap.size + 1, 1, none⟩ (.int .i64 0)).setCell ⟨w.heap.size + 1, 2, none⟩ (.int .i64 0)) (.slice A2 bs'.length n2) bs') := Lib.hid (O6.out.keep fun i hi e => by
      have h9 := I5.out i e
      have := HTF.out
      have := HTR.out
      rw [HFAR.out i (by have := HLT.out; omega) (by omega)]
      exact HG8.out i hi (fun e' => by have := hown _ e'; omega))
    have HCE : Hid (CkAt B C T ((((w'.setCell ⟨q, 1, none⟩ (.slice (some ⟨g, 0, none⟩) (R.length + 1) cap)).setCell ⟨w.heap.size + 1, 0, none⟩ (.int .i64 0)).setCell ⟨w.heap.size + 1, 1, none⟩ (.int .i64 0)).setCell ⟨w.heap.size + 1, 2, none⟩ (.int .i64 0)) q mo (.slice (some ⟨g, 0, none⟩) (R.length + 1) cap) (bx + (bs'.length : Int)) I N) := Lib.hid (C6.out.setV HQ9.out (fun k hk h1 h2 => by
      rw [HFAR.out k h1.1 h1.2]
      exact HG8.out k hk h2) (fun e => (HRR.out.2 _ e).2.2.1 rfl) (fun j b hj e => (HRR.out.2 _ e).2.2.2 j b hj rfl) (by have := HML.out; omega) (fun j b hj => by have := HIL.out j b hj; omega))
    have HBE : Hid (ButV q (.slice A0 R.length c0) w ((((w'.setCell ⟨q, 1, none⟩ (.slice (some ⟨g, 0, none⟩) (R.length + 1) cap)).setCell ⟨w.heap.size + 1, 0, none⟩ (.int .i64 0)).setCell ⟨w.heap.size + 1, 1, none⟩ (.int .i64 0)).setCell ⟨w.heap.size + 1, 2, none⟩ (.int .i64 0))) := Lib.hid (((((ButV.of_but B6.out).low (a := w) ((Below.refl _ W6).alloc (by omega) (.cells #[.int .i64 d.k, .int .i64 ro, .int .i64 d.lo, .int .i64 d.hi, .int .i64 n, .slice A2 bs'.length n2, .int .i64 d.zoom] 50)).drew).grown HGR.out).set 1 (.slice (some ⟨g, 0, none⟩) (R.length + 1) cap)).low ((((Below.refl _ _).setCell (p := ⟨w.heap.size + 1, 0, none⟩) (by simp) (.int .i64 0)).setCell (p := ⟨w.heap.size + 1, 1, none⟩) (by simp) (.int .i64 0)).setCell (p := ⟨w.heap.size + 1, 2, none⟩) (by simp) (.int .i64 0)))
    have HGE : Hid (g < w.heap.size ∨ w.heap.size ≤ g) := Lib.hid (by omega)
    have HGG : Hid ((Value.slice (some ⟨g, 0, none⟩) (R.length + 1) cap).ownBlock = (Value.slice A0 R.length c0).ownBlock ∨ ∀ i, (Value.slice (some ⟨g, 0, none⟩) (R.length + 1) cap).ownBlock = some i → w.heap.size ≤ i) := Lib.hid (by
      rcases hgge with h9 | h9
      · exact Or.inl (by rw [h9]; rfl)
      · refine Or.inr fun i hi => ?_
        have : i = g := by simpa [Value.ownBlock] using hi.symm
        omega)
    clear hF7 hF8 hq8 hrg hzA hs1 hown hgge hgs1 HG8 HFAR HF8 r0 r1 r2 r3 r4 r5 r6 y1 y1z hz1 hz2
    go_wp2_with fail
    refine bodyPost_ret (v := fauV 0 (0, 0)) ?_ rfl ⟨rfl, ⟨(.slice (some ⟨g, 0, none⟩) (R.length + 1) cap), ⟨A2, bs'.length, n2⟩, HRE.out, HGG.out, HOE.out, fun i hi => by have := I5.out i hi; have := HTF.out; have := HTR.out; omega, HCE.out⟩, HBE.out⟩
    clear u0 u1 u2 v0 v1 v2 kk1 ff1 HRE HOE HCE HBE HQ9
    have d0 := HD9.out.cell 0
    have d1 := HD9.out.cell 1
    have d2 := HD9.out.cell 2
    simp only [List.getElem?_toArray, List.getElem?_cons_zero, List.getElem?_cons_succ] at d0 d1 d2
    generalize ((((w'.setCell ⟨q, 1, none⟩ (.slice (some ⟨g, 0, none⟩) (R.length + 1) cap)).setCell ⟨w.heap.size + 1, 0, none⟩ (.int .i64 0)).setCell ⟨w.heap.size + 1, 1, none⟩ (.int .i64 0)).setCell ⟨w.heap.size + 1, 2, none⟩ (.int .i64 0)) = WX at *
    simp [results, Tryz.results56, go_sem, *]
end
section
set_option linter.unusedVariables false
set_option linter.unusedSimpArgs false
open Go.RowKit Go.Maps
section
attribute [local go_sem ↓] to_ld44
attribute [local go_sem] run_ld24
set_option maxRecDepth 100000 in
set_option maxHeartbeats 4000000 in
theorem take_rule (w : World) (q : Nat) (d : Dc) (x : RV) (h1 : d.k ≠ 1) (h2 : d.k ≠ 2) (h3 : d.k ≠ 3) (Q : World → World → Prop)
    (hR : ∀ W, W.heap.size = w.heap.size + 2 → Below w.heap.size w W → Calls Tryz.prog 56 #[ptr q, dV d x.v] W fun e w' => e = .returned (fauV 0 (0, 0)) ∧ Q W w')
    (hQ : ∀ W w', W.heap.size = w.heap.size + 2 → Q W w' → w'.heap[w.heap.size + 1]? = W.heap[w.heap.size + 1]?) :
    Calls Tryz.prog 28 #[ptr q, dV d x.v] w fun e w' => e = .returned (fauV 0 (0, 0)) ∧ ∃ W w1, W.heap.size = w.heap.size + 2 ∧ Below w.heap.size w W ∧ Q W w1 ∧ w' = (((w1.setCell ⟨w.heap.size + 1, 0, none⟩ (.int .i64 0)).setCell ⟨w.heap.size + 1, 1, none⟩ (.int .i64 0)).setCell ⟨w.heap.size + 1, 2, none⟩ (.int .i64 0)) := by
  have HX := Lib.hid (rule_boxes w (dcells d x.v).toArray #[.int .i64 0, .int .i64 0, .int .i64 0])
  have HSZ := Lib.hid (show ((w.alloc (.cells (dcells d x.v).toArray 41)).alloc (.cells #[.int .i64 0, .int .i64 0, .int .i64 0] 29)).heap.size = w.heap.size + 2 by simp)
  have HR := Lib.hid hR
  have HQ := Lib.hid hQ
  have b1 : (d.k == 1) = false := beq_eq_false_iff_ne.2 h1
  have b2 : (d.k == 2) = false := beq_eq_false_iff_ne.2 h2
  have b3 : (d.k == 3) = false := beq_eq_false_iff_ne.2 h3
  clear hR hQ
  simp only [dV] at HR ⊢
  go_enter Tryz.func28, Tryz.ntmps28
  go_upto_region 1 with fail
  generalize ((w.alloc (.cells (dcells d x.v).toArray 41)).alloc (.cells #[.int .i64 0, .int .i64 0, .int .i64 0] 29)) = W at *
  have x0 := HX.out.1.cell 0
  simp only [dcells, List.getElem?_toArray, List.getElem?_cons_zero, List.getElem?_cons_succ] at x0
  have hrg : Rng W w.heap.size (dcells d x.v) := Blk.range HX.out.1
  have hrd := hrg.rd rfl
  have hld : ld24 W w.heap.size = .agg (dcells d x.v).toArray := ld24_of rfl hrg
  clear hrg
  go_wp2_with fail
  refine (HR.out _ HSZ.out HX.out.2.2).mono ?_
  rintro e w1 ⟨rfl, hq⟩
  have hF : Blk w1 (w.heap.size + 1) 29 #[.int .i64 0, .int .i64 0, .int .i64 0] := (HQ.out _ _ HSZ.out hq).trans HX.out.2.1
  have HQQ := Lib.hid hq
  have HD9 := Lib.hid (Blk.set3 hF (.int .i64 0) (.int .i64 0) (.int .i64 0))
  have u0 := hF.cell 0
  have u1 := hF.cell 1
  have u2 := hF.cell 2
  simp only [List.getElem?_toArray, List.getElem?_cons_zero, List.getElem?_cons_succ] at u0 u1 u2
  have v0 := hF.frozen 0
  have v1 := hF.frozen 1
  have v2 := hF.frozen 2
  clear hF hq x0 hrd hld b1 b2 b3
  go_wp2_with fail
  refine bodyPost_ret (v := fauV 0 (0, 0)) ?_ rfl ⟨rfl, W, w1, HSZ.out, HX.out.2.2, HQQ.out, rfl⟩
  clear u0 u1 u2 v0 v1 v2
  have d0 := HD9.out.cell 0
  have d1 := HD9.out.cell 1
  have d2 := HD9.out.cell 2
  simp only [List.getElem?_toArray, List.getElem?_cons_zero, List.getElem?_cons_succ] at d0 d1 d2
  generalize (((w1.setCell ⟨w.heap.size + 1, 0, none⟩ (.int .i64 0)).setCell ⟨w.heap.size + 1, 1, none⟩ (.int .i64 0)).setCell ⟨w.heap.size + 1, 2, none⟩ (.int .i64 0)) = WX at *
  simp [results, Tryz.results28, go_sem, *]
end
/-- A checker hangs on its own blocks alone. -/
theorem CkAt.high {T : List Value} {w w' : World} {q mo : Nat} {rv : Value} {bx : Int} {B C : Nat} {I : Int → Option Nat} {N : Int → Bs → Option (Dc × RV)} (h : CkAt B C T w q mo rv bx I N) (hk : ∀ k, B ≤ k → k < w.heap.size → w'.heap[k]? = w.heap[k]?) : CkAt B C T w' q mo rv bx I N := by
  obtain ⟨n, H, a, b, c⟩ := h.out
  refine ⟨(hk _ h.lo.1 h.blk.lt).trans h.blk, ⟨n, H, a, b.keep (hk _ h.lo.2 b.lt), c⟩, fun k i hk' hi' => ?_, h.no, h.zero, h.lo, h.low, h.inj⟩
  obtain ⟨n, H, a, b, c⟩ := h.inn k i hk' hi'
  exact ⟨n, H, a, b.keep (hk _ (h.low k i hi').2.1 b.lt), c⟩
theorem CkAt.empty (W : World) (T : List Value) (hz : zDc ∈ T) : CkAt W.heap.size 0 T ((W.alloc (.map #[] 0)).alloc (.cells #[.map (some W.heap.size), .slice none 0 0, .int .i64 0] 61)) (W.heap.size + 1) W.heap.size (.slice none 0 0) 0 (fun _ => none) (fun _ _ => none) := by
  refine ⟨Blk.newAt (by simp), ⟨0, _, Nat.le_refl _, (GMap.made intKey W).alloc _, fun k hk => rfl⟩, fun k b _ h => (by cases h), fun k _ _ s => rfl, hz, ⟨by omega, Nat.le_refl _⟩, fun k b h => (by cases h), fun k k' b h => (by cases h)⟩
section
attribute [local go_sem ↓] to_ld44
attribute [local go_sem] run_ld24o
set_option maxRecDepth 100000 in
set_option maxHeartbeats 8000000 in
theorem check_ok (w : World) (v : Value) (acc : List (Dc × RV)) (hV : Vs w) (hs : Hs w) (hg : 0 < w.heap.size) (h : DRd w v acc) (hl : acc.length ≤ 1000000) (hr : ∀ x ∈ acc, RightD x.1)
    (K : Nat → World → Nat → Nat → Prop)
    (hK : ∀ j W W' q mo, K j W q mo → (∀ k, mo ≤ k → k < W.heap.size → W'.heap[k]? = W.heap[k]?) → W.heap.size ≤ W'.heap.size → K j W' q mo)
    (h0 : ∀ W : World, K 0 ((W.alloc (.map #[] 0)).alloc (.cells #[.map (some W.heap.size), .slice none 0 0, .int .i64 0] 61)) (W.heap.size + 1) W.heap.size)
    (hst : ∀ j x W q mo, acc[j]? = some x → K j W q mo → mo < W.heap.size → Calls Tryz.prog 28 #[ptr q, dV x.1 x.2.v] W fun e w' => e = .returned (fauV 0 (0, 0)) ∧ K (j + 1) w' q mo ∧ Below mo W w')
    (hend : ∀ W q mo, K acc.length W q mo → ∃ A n c, W.cell? ⟨q, 1, none⟩ = some (.slice A n c)) :
    Calls Tryz.prog 10 #[v] w fun e w' => ∃ q mo A n c, e = .returned (.tuple #[.slice A n c, fauV 0 (0, 0)]) ∧ w'.cell? ⟨q, 1, none⟩ = some (.slice A n c) ∧ K acc.length w' q mo ∧ w.heap.size ≤ mo ∧ Below w.heap.size w w' := by
  obtain ⟨A0, c0, rfl, _, _, _⟩ := id h.1
  have hal : Below w.heap.size w (w.alloc (.cells #[.int .i64 0, .int .i64 0, .int .i64 0] 29)) := (Below.refl _ _).alloc (Nat.le_refl _) _
  have HA := Lib.hid hal
  have HF := Lib.hid (Blk.new w 29 #[.int .i64 0, .int .i64 0, .int .i64 0])
  have HRI := Lib.hid (rights_any _ _ acc (hV.below hal) (hs.low hal) (by have := hal.size; omega) (h.below hal) hl hr)
  have HR := Lib.hid h
  have HL := Lib.hid hl
  have HK := Lib.hid hK
  have H0 := Lib.hid h0
  have HST := Lib.hid hst
  have HE := Lib.hid hend
  clear hV hs hg h hl hr hal hK h0 hst hend
  go_enter Tryz.func10, Tryz.ntmps10
  go_upto_region 1 with fail
  generalize (w.alloc (.cells #[.int .i64 0, .int .i64 0, .int .i64 0] 29)) = W at *
  go_wp2_with fail
  refine HRI.out.mono ?_
  rintro e w1 ⟨rfl, hb⟩
  have HB1 := Lib.hid (HA.out.trans (hb.mono HA.out.size))
  have HF1 := Lib.hid (Blk.thru0 HF.out hb)
  clear hb HA HF HRI
  have hmm := @run_makeMap Tryz.prog
  go_upto_region 4 with fail
  clear hmm
  have HK0 := Lib.hid (H0.out w1)
  have hal : Below w1.heap.size w1 ((w1.alloc (.map #[] 0)).alloc (.cells #[.map (some w1.heap.size), .slice none 0 0, .int .i64 0] 61)) := ((Below.refl _ _).alloc (Nat.le_refl _) _).alloc (by simp) _
  have HB2 := Lib.hid (HB1.out.trans (hal.mono HB1.out.size))
  have HF2 := Lib.hid (Blk.thru0 HF1.out hal)
  have HMO := Lib.hid (show w.heap.size < w1.heap.size from HF1.out.lt)
  have HSZ := Lib.hid (show w1.heap.size < ((w1.alloc (.map #[] 0)).alloc (.cells #[.map (some w1.heap.size), .slice none 0 0, .int .i64 0] 61)).heap.size by simp; omega)
  clear hal HB1 HF1 H0
  generalize ((w1.alloc (.map #[] 0)).alloc (.cells #[.map (some w1.heap.size), .slice none 0 0, .int .i64 0] 61)) = W2 at *
  generalize w1.heap.size = mo at *
  go_wp2_with fail
  go_loopw [16] (fun i wr => ∃ j : Nat, j ≤ acc.length ∧ i = .int .i64 j ∧ Hid (Below mo W2 wr ∧ K j wr (mo + 1) mo)) (fun i _ => acc.length - (intOf i).toNat)
  case atStart => exact ⟨0, by omega, rfl, Lib.hid ⟨Below.refl _ _, HK0.out⟩⟩
  case round =>
    rename_i wr
    clear HK0
    obtain ⟨k, hk, rfl, HS⟩ := hrel
    have HBW := Lib.hid (show Below w.heap.size w wr from HB2.out.trans (HS.out.1.mono (Nat.le_of_lt HMO.out)))
    have HSW := Lib.hid (show mo < wr.heap.size from Nat.lt_of_lt_of_le HSZ.out HS.out.1.size)
    by_cases hlt : k < acc.length
    · have hki : (k : Int) < (acc.length : Int) := by omega
      have hx : acc[k]? = some acc[k] := List.getElem?_eq_getElem hlt
      obtain ⟨g, o, rfl, hc⟩ := (HR.out.1.below HBW.out).cell hx
      have HTK := Lib.hid fun W => HST.out k _ W (mo + 1) mo hx
      generalize acc[k] = x at *
      obtain ⟨d, xv⟩ := x
      have HRG := Lib.hid (show wr.rangeAt g (o + k * 24) (dcells d xv.v) from fun j u hu => hc j u hu)
      have q1 : Rd24o wr g (o + k * 24) := ⟨_, rfl, HRG.out⟩
      obtain ⟨VX, hVX⟩ : ∃ VX, Value.agg (dcells d xv.v).toArray = VX := ⟨_, rfl⟩
      have HVX := Lib.hid hVX
      have q2 : ld24o wr g (o + k * 24) = VX := (ld24o_of rfl HRG.out).trans hVX
      have HTH := Lib.hid ((Blk.new wr 41 #[.int .i64 0, .string ⟨#[]⟩, .int .i64 0, .slice none 0 0, .bool false, .string ⟨#[]⟩, .int .i64 0, .int .i64 0, .int .i64 0, .int .i64 0, .int .i64 0, .bool false, .string ⟨#[]⟩, .int .i64 0, .int .i64 0, .int .i64 0, .bool false, .string ⟨#[]⟩, .int .i64 0, .int .i64 0, .int .i64 0, .int .i64 0, .int .i64 0, .int .i64 0]).there (n := 24) (by decide))
      have HIN := Lib.hid (show (Tryz.prog.info? 41).map (·.size) = some (dcells d xv.v).toArray.size by kernel_rfl)
      have HON := Lib.hid (dcells_one d (bv := xv.v) rfl)
      clear hc hx hVX
      have HCP := Lib.hid (copy_at wr d xv.v)
      go_upto_region 7 with ((refine wpList_store_mid rfl 41 _ _ rfl wr.heap.size 0 (dcells d xv.v).toArray rfl HVX.out.symm HTH.out HIN.out HON.out ?_))
      clear HRG HTH q1 q2 HIN HON
      generalize ((wr.alloc (.cells #[.int .i64 0, .string ⟨#[]⟩, .int .i64 0, .slice none 0 0, .bool false, .string ⟨#[]⟩, .int .i64 0, .int .i64 0, .int .i64 0, .int .i64 0, .int .i64 0, .bool false, .string ⟨#[]⟩, .int .i64 0, .int .i64 0, .int .i64 0, .bool false, .string ⟨#[]⟩, .int .i64 0, .int .i64 0, .int .i64 0, .int .i64 0, .int .i64 0, .int .i64 0] 41)).setCells wr.heap.size 0 (dcells d xv.v).toArray.toList) = W3 at *
      have HRG := Lib.hid (Blk.range HCP.out.1)
      have q1 : Rd24o W3 wr.heap.size 0 := ⟨_, rfl, HRG.out⟩
      have q2 : ld24o W3 wr.heap.size 0 = VX := (ld24o_of rfl HRG.out).trans HVX.out
      have HK3 := Lib.hid (HK.out k wr W3 _ _ HS.out.2 (fun i _ hi => HCP.out.2.block i hi) HCP.out.2.size)
      have HB3 := Lib.hid (HS.out.1.trans (HCP.out.2.mono (Nat.le_of_lt HSW.out)))
      have HT3 := Lib.hid (HTK.out W3 HK3.out (Nat.lt_of_lt_of_le HSW.out HCP.out.2.size))
      simp only [dV] at HT3
      rw [HVX.out] at HT3
      clear HS HBW HSW HTK HCP HK3
      go_wp2_with fail
      refine HT3.out.mono ?_
      rintro e w4 ⟨rfl, hk4, hb4⟩
      have HB4 := Lib.hid (HB3.out.trans hb4)
      have HK4 := Lib.hid hk4
      clear hk4 hb4 HT3 q1 q2 HRG HB3
      go_upto_region 8 with fail
      have hal : Below w4.heap.size w4 (w4.alloc (.cells #[.int .i64 0, .int .i64 0, .int .i64 0] 29)) := (Below.refl _ _).alloc (Nat.le_refl _) _
      have HT := Lib.hid (Blk.new w4 29 #[.int .i64 0, .int .i64 0, .int .i64 0])
      have HN := Lib.hid (show Below mo W2 (w4.alloc (.cells #[.int .i64 0, .int .i64 0, .int .i64 0] 29)) ∧ K (k + 1) (w4.alloc (.cells #[.int .i64 0, .int .i64 0, .int .i64 0] 29)) (mo + 1) mo from ⟨HB4.out.trans (hal.mono (by have := HB4.out.size; have := HSZ.out; omega)), HK.out _ _ _ _ _ HK4.out (fun i _ hi => hal.block i hi) hal.size⟩)
      clear hal HB4 HK4
      generalize (w4.alloc (.cells #[.int .i64 0, .int .i64 0, .int .i64 0] 29)) = W5 at *
      have t0 := HT.out.cell 0
      simp only [List.getElem?_toArray, List.getElem?_cons_zero, List.getElem?_cons_succ] at t0
      have hkb : (k : Int) < 1000000 := by have := HL.out; omega
      go_wp2_with fail
      go_roundw
      case rel => exact ⟨k + 1, by omega, by go_num, HN⟩
      case measure => simp [intOf]; omega
    · obtain rfl : k = acc.length := by omega
      obtain ⟨A, n, c, hq1⟩ := HE.out wr _ _ HS.out.2
      have hF : Blk wr w.heap.size 29 #[.int .i64 0, .int .i64 0, .int .i64 0] := HF2.out.below HS.out.1 HMO.out
      have u0 := hF.cell 0
      have u1 := hF.cell 1
      have u2 := hF.cell 2
      simp only [List.getElem?_toArray, List.getElem?_cons_zero, List.getElem?_cons_succ] at u0 u1 u2
      have v0 := hF.frozen 0
      have v1 := hF.frozen 1
      have v2 := hF.frozen 2
      have HD9 := Lib.hid (Blk.set3 hF (.int .i64 0) (.int .i64 0) (.int .i64 0))
      have HKE := Lib.hid (HK.out _ wr (((wr.setCell ⟨w.heap.size, 0, none⟩ (.int .i64 0)).setCell ⟨w.heap.size, 1, none⟩ (.int .i64 0)).setCell ⟨w.heap.size, 2, none⟩ (.int .i64 0)) _ _ HS.out.2 (fun i hi _ => three_far _ _ _ _ _ _ (by have := HMO.out; omega)) (by simp [World.setCell]))
      have HBE : Hid (Below w.heap.size w (((wr.setCell ⟨w.heap.size, 0, none⟩ (.int .i64 0)).setCell ⟨w.heap.size, 1, none⟩ (.int .i64 0)).setCell ⟨w.heap.size, 2, none⟩ (.int .i64 0))) := Lib.hid (((HBW.out.setCell (p := ⟨w.heap.size, 0, none⟩) (Nat.le_refl _) _).setCell (p := ⟨w.heap.size, 1, none⟩) (Nat.le_refl _) _).setCell (p := ⟨w.heap.size, 2, none⟩) (Nat.le_refl _) _)
      have HQ1 : Hid ((((wr.setCell ⟨w.heap.size, 0, none⟩ (.int .i64 0)).setCell ⟨w.heap.size, 1, none⟩ (.int .i64 0)).setCell ⟨w.heap.size, 2, none⟩ (.int .i64 0)).cell? ⟨mo + 1, 1, none⟩ = some (.slice A n c)) := Lib.hid (cell_block hq1 fun _ => three_far _ _ _ _ _ _ (by have := HMO.out; omega))
      clear hF
      go_wp2_with fail
      refine bodyPost_ret (v := .tuple #[.slice A n c, fauV 0 (0, 0)]) ?_ rfl ⟨mo + 1, mo, A, n, c, rfl, HQ1.out, HKE.out, Nat.le_of_lt HMO.out, HBE.out⟩
      clear u0 u1 u2 v0 v1 v2 hq1
      have d0 := HD9.out.cell 0
      have d1 := HD9.out.cell 1
      have d2 := HD9.out.cell 2
      simp only [List.getElem?_toArray, List.getElem?_cons_zero, List.getElem?_cons_succ] at d0 d1 d2
      clear HKE HBE HQ1
      generalize (((wr.setCell ⟨w.heap.size, 0, none⟩ (.int .i64 0)).setCell ⟨w.heap.size, 1, none⟩ (.int .i64 0)).setCell ⟨w.heap.size, 2, none⟩ (.int .i64 0)) = WX at *
      simp [results, Tryz.results10, go_sem, *]
end
end
section
set_option linter.unusedVariables false
set_option linter.unusedSimpArgs false
open Go.RowKit Go.Maps
def rk : Bs := [114, 111, 108, 101, 32, 110, 117, 114, 115, 101, 32, 61, 32, 51, 59, 32, 97, 108, 108, 111, 119, 32, 114, 111, 108, 101, 32, 110, 117, 114, 115, 101, 32, 116, 105, 101, 114, 32, 49, 46, 46, 52, 32, 108, 97, 98, 101, 108, 32, 97, 110, 121, 32, 105, 110, 32, 97, 108, 108, 32, 122, 111, 111, 109, 32, 49, 50, 59]
def rkN : Bs := [110, 117, 114, 115, 101]
def rd1 : Dc := (parseP rk).1.headD (Dc.z (0, 0))
def rd2 : Dc := (parseP rk).1.tail.headD (Dc.z (0, 0))
def rt1 : List Tk := (tokF (formL rd1 ++ [mEnd])).getD []
def rt2 : List Tk := (tokF (formL rd2 ++ [mEnd])).getD []
def rd1' : Dc := (allP rt1).2.2.headD (Dc.z (0, 0))
def rd2' : Dc := (allP rt2).2.2.headD (Dc.z (0, 0))
theorem rk_is : parseP rk = ([rd1, rd2], none) := by kernel_rfl
theorem rd1_right : RightD rd1 := by
  refine ⟨⟨?_, ?_, ?_, ?_, ?_, ?_, ?_, ?_, ?_⟩, ?_, ?_, ?_, rt1, (allP rt1).2.1, rd1', ?_, ?_, ?_, ?_, ?_⟩
  · rw [show rd1.k = 1 by kernel_rfl]; unfold I64; omega
  · rw [show rd1.n = 3 by kernel_rfl]; unfold I64; omega
  · rw [show rd1.role.n = 0 by kernel_rfl]; unfold I64; omega
  · rw [show rd1.lo = 0 by kernel_rfl]; unfold I64; omega
  · rw [show rd1.hi = 0 by kernel_rfl]; unfold I64; omega
  · rw [show rd1.label.n = 0 by kernel_rfl]; unfold I64; omega
  · rw [show rd1.wh.n = 0 by kernel_rfl]; unfold I64; omega
  · rw [show rd1.zoom = 0 by kernel_rfl]; unfold I64; omega
  · rw [show rd1.bx = [] by kernel_rfl]; intro b hb; cases hb
  · rw [show rd1.bx = [] by kernel_rfl]; simp
  · exact of_decide_eq_true (by kernel_rfl)
  · have h : (formL rd1 ++ [mEnd]).all (fun s => decide (s.length ≤ 50)) = true := by kernel_rfl
    intro s hs
    exact of_decide_eq_true (List.all_eq_true.1 h s hs)
  · kernel_rfl
  · exact of_decide_eq_true (by kernel_rfl)
  · kernel_rfl
  · kernel_rfl
  · kernel_rfl
theorem rd2_right : RightD rd2 := by
  refine ⟨⟨?_, ?_, ?_, ?_, ?_, ?_, ?_, ?_, ?_⟩, ?_, ?_, ?_, rt2, (allP rt2).2.1, rd2', ?_, ?_, ?_, ?_, ?_⟩
  · rw [show rd2.k = 4 by kernel_rfl]; unfold I64; omega
  · rw [show rd2.n = 0 by kernel_rfl]; unfold I64; omega
  · rw [show rd2.role.n = 0 by kernel_rfl]; unfold I64; omega
  · rw [show rd2.lo = 1 by kernel_rfl]; unfold I64; omega
  · rw [show rd2.hi = 4 by kernel_rfl]; unfold I64; omega
  · rw [show rd2.label.n = 0 by kernel_rfl]; unfold I64; omega
  · rw [show rd2.wh.n = 0 by kernel_rfl]; unfold I64; omega
  · rw [show rd2.zoom = 12 by kernel_rfl]; unfold I64; omega
  · rw [show rd2.bx = [] by kernel_rfl]; intro b hb; cases hb
  · rw [show rd2.bx = [] by kernel_rfl]; simp
  · exact of_decide_eq_true (by kernel_rfl)
  · have h : (formL rd2 ++ [mEnd]).all (fun s => decide (s.length ≤ 50)) = true := by kernel_rfl
    intro s hs
    exact of_decide_eq_true (List.all_eq_true.1 h s hs)
  · kernel_rfl
  · exact of_decide_eq_true (by kernel_rfl)
  · kernel_rfl
  · kernel_rfl
  · kernel_rfl
theorem rd1_k : rd1.k = 1 := by kernel_rfl
theorem rd1_n : rd1.n = 3 := by kernel_rfl
theorem rd1_nm : rd1.nm = rkN := by kernel_rfl
theorem rd1_bx : rd1.bx = [] := by kernel_rfl
theorem rd1_fit : rufitB rd1 = true := by kernel_rfl
theorem rd2_k : rd2.k = 4 := by kernel_rfl
theorem rd2_role : rd2.role.any = false ∧ rd2.role.nm = rkN := ⟨by kernel_rfl, by kernel_rfl⟩
theorem rd2_sight : rd2.lo = 1 ∧ rd2.hi = 4 ∧ rd2.zoom = 12 ∧ rd2.label.any = true ∧ rd2.wh.any = true ∧ rd2.label.nm.length = 0 := ⟨by kernel_rfl, by kernel_rfl, by kernel_rfl, by kernel_rfl, by kernel_rfl, by kernel_rfl⟩
theorem ERd.none {α : Type} {E : El α} {w w' : World} {v : Value} (h : ERd E w v []) : ERd E w' v [] := by
  obtain ⟨A, c, h1, h2, h3, _⟩ := h
  exact ⟨A, c, h1, h2, h3, fun i x hx => by simp at hx⟩
theorem RowAt.high {B : Nat} {q mo : Nat} {I : Int → Option Nat} {w w' : World} {v : Value} {R : List (Rc × RV)} (h : RowAt B q mo I w v R) (hk : ∀ k, B ≤ k → k < w.heap.size → w'.heap[k]? = w.heap[k]?) : RowAt B q mo I w' v R := ⟨h.1.keep fun i hi e => hk i (h.2 i e).1 hi, h.2⟩
/-- The one rule. -/
def ruK : Rc := ⟨4, 8, 1, 4, 255, [gridB], 12⟩
/-- Where Check of the fixed text stands. -/
def KSt (T : List Value) (x1 : RV) (j : Nat) (W : World) (q mo : Nat) : Prop := match j with
  | 0 => CkAt mo 0 T W q mo (.slice none 0 0) 0 (fun _ => none) (fun _ _ => none)
  | 1 => ∃ b, CkAt mo 2 T W q mo (.slice none 0 0) 0 (updI (fun _ => none) 1 b) (updN (fun _ _ => none) 1 rkN (rd1, x1))
  | _ => ∃ rv2 x2 C I N, RowAt mo q mo I W rv2 [(ruK, x2)] ∧ EOwn elR W x2.v [gridB] ∧ (∀ i, x2.v.ownBlock = some i → mo ≤ i) ∧ CkAt mo C T W q mo rv2 1 I N
theorem KSt.high {T : List Value} {x1 : RV} {j : Nat} {W W' : World} {q mo : Nat} (h : KSt T x1 j W q mo) (hk : ∀ k, mo ≤ k → k < W.heap.size → W'.heap[k]? = W.heap[k]?) : KSt T x1 j W' q mo := by
  match j with
  | 0 => exact CkAt.high h hk
  | 1 =>
    obtain ⟨b, h⟩ := h
    exact ⟨b, h.high hk⟩
  | (j + 2) =>
    obtain ⟨rv2, x2, C, I, N, h1, h2, h3, h4⟩ := h
    exact ⟨rv2, x2, C, I, N, h1.high hk, h2.keep fun i hi e => hk i (h3 i e) hi, h3, h4.high hk⟩
theorem But.toBelow {r B : Nat} {w w' : World} (h : But r w w') (hr : B ≤ r) (hB : B ≤ w.heap.size) : Below B w w' := Below.but (Below.refl B w) h hr hB
set_option maxHeartbeats 2000000 in
theorem kst_0 {T : List Value} {x1 : RV} {W : World} {q mo : Nat} (h : KSt T x1 0 W q mo) (hm : mo < W.heap.size) (w0 : World) (hE : ERd elR w0 x1.v []) (hT : dV rd1 x1.v ∈ T) : Calls Tryz.prog 28 #[ptr q, dV rd1 x1.v] W fun e w' => e = .returned (fauV 0 (0, 0)) ∧ KSt T x1 1 w' q mo ∧ Below mo W w' := by
  have h' : CkAt mo 0 T W q mo (.slice none 0 0) 0 (fun _ => none) (fun _ _ => none) := h
  refine (take_new1 h' rd1 x1 rd1_k (by rw [rd1_nm]; decide) rfl (fun V _ => by rw [rd1_bx]; exact hE.none) rfl rd1_fit (Nat.le_of_lt hm) hT (by decide)).mono ?_
  rintro e w' ⟨rfl, ⟨b, _, hc⟩, hb⟩
  rw [rd1_k, rd1_nm] at hc
  exact ⟨rfl, ⟨b, hc⟩, hb.toBelow (Nat.le_refl _) (Nat.le_of_lt hm)⟩
set_option maxHeartbeats 2000000 in
theorem kst_1 {T : List Value} {x1 x2 : RV} {W : World} {q mo : Nat} (h : KSt T x1 1 W q mo) (hm : mo < W.heap.size) : Calls Tryz.prog 28 #[ptr q, dV rd2 x2.v] W fun e w' => e = .returned (fauV 0 (0, 0)) ∧ KSt T x1 2 w' q mo ∧ Below mo W w' := by
  obtain ⟨b, h⟩ := h
  have hql := h.blk.lt
  have hqm := h.lo.1
  have hnone : (Value.slice none 0 0).ownBlock = none := rfl
  refine (take_rule W q rd2 x2 (by rw [rd2_k]; decide) (by rw [rd2_k]; decide) (by rw [rd2_k]; decide) (fun V w' => (∃ rv2 x3, RowAt mo q mo (updI (fun _ => none) 1 b) w' rv2 ([] ++ [((⟨rd2.k, 2 ^ rd1.n.toNat, rd2.lo, rd2.hi, 255, [gridB], rd2.zoom⟩ : Rc), x3)]) ∧ (rv2.ownBlock = (Value.slice none 0 0).ownBlock ∨ ∀ i, rv2.ownBlock = some i → V.heap.size ≤ i) ∧ EOwn elR w' x3.v [gridB] ∧ (∀ i, x3.v.ownBlock = some i → V.heap.size ≤ i) ∧ CkAt mo 2 T w' q mo rv2 (0 + (([gridB] : List Bx).length : Int)) (updI (fun _ => none) 1 b) (updN (fun _ _ => none) 1 rkN (rd1, x1))) ∧ ButV q (.slice none 0 0) V w') (fun V hV hb => ?_) (fun V w' hV hq => ?_)).mono ?_
  · have hV0 := h.below hb
    refine rule_ok hV0 [] ⟨EOwn.nil_ _, fun i hi => by simp [Value.ownBlock] at hi⟩ (by decide) rd2 x2 (by rw [rd2_k]; decide) (2 ^ rd1.n.toNat) 255 [gridB] (by rw [rd2_sight.1, rd2_sight.2.1]; decide) (by rw [rd2_sight.2.1]; decide) (by have := hb.size; omega) (fun V1 h1 _ => ?_) (fun V1 h1 _ => ?_) (fun V1 h1 _ => ?_) (by decide) (by decide) (by rw [rd2_sight.2.2.1]; decide)
    · exact sum_named_role rd2.role rd2_role.1 (by rw [rd2_role.2]; decide) (rd1, x1) (by rw [rd2_role.2]; unfold updN; simp) (by rw [rd1_n]; decide) 7 (by rw [rd1_n]; decide) (by decide) (by rw [rd2_role.2]; decide) (fun V2 h2 => h1.below h2)
    · exact sum_role h1 rd2.label (by rw [rd2_sight.2.2.2.2.2]; decide) rd2_sight.2.2.2.1 _
    · exact region_all V1 q rd2.wh rd2_sight.2.2.2.2.1
  · obtain ⟨-, hbv⟩ := hq
    exact hbv.block _ (by omega) (by omega) (by rw [hnone]; simp)
  · rintro e w' ⟨rfl, V, w1, hV, hb, ⟨⟨rv2, x3, hr, hro, ho, hoo, hc⟩, hbv⟩, rfl⟩
    have hro' : ∀ i, rv2.ownBlock = some i → W.heap.size + 2 ≤ i := by
      rcases hro with h9 | h9
      · intro i hi; rw [h9, hnone] at hi; cases hi
      · intro i hi; have := h9 i hi; omega
    refine ⟨rfl, ⟨rv2, x3, 2, updI (fun _ => none) 1 b, updN (fun _ _ => none) 1 rkN (rd1, x1), ⟨?_, hr.2⟩, ?_, fun i hi => by have := hoo i hi; omega, ?_⟩, ?_⟩
    · have h9 := hr.1.keep (w' := (((w1.setCell ⟨W.heap.size + 1, 0, none⟩ (.int .i64 0)).setCell ⟨W.heap.size + 1, 1, none⟩ (.int .i64 0)).setCell ⟨W.heap.size + 1, 2, none⟩ (.int .i64 0))) fun i hi e => three_far _ _ _ _ _ _ (by have := hro' i e; omega)
      rw [rd2_k, rd1_n, rd2_sight.1, rd2_sight.2.1, rd2_sight.2.2.1] at h9
      exact h9
    · exact ho.keep fun i hi e => three_far _ _ _ _ _ _ (by have := hoo i e; omega)
    · refine hc.far (g := W.heap.size + 1) (by omega) (by omega) (fun j c hj => ?_) (fun k _ hk => three_far _ _ _ _ _ _ hk)
      have := h.ilt j c hj
      omega
    · refine ⟨?_, ?_, ?_, ?_, fun k hk => ?_⟩
      · exact hbv.os.trans hb.os
      · exact hbv.tape.trans hb.tape
      · exact hbv.output.trans hb.output
      · have h1 := hbv.size
        simp only [World.setCell] at *
        have : w1.heap.size ≤ _ := Nat.le_refl w1.heap.size
        simp
        omega
      · rw [three_far _ _ _ _ _ _ (by omega), hbv.block k (by omega) (by omega) (by rw [hnone]; simp)]
        exact hb.block k (by omega)
end
section
set_option linter.unusedVariables false
set_option linter.unusedSimpArgs false
open Go.RowKit Go.Maps
theorem RRd.one {w : World} {A : Option Addr} {n c : Nat} {x2 : RV} (h : EOwn elRu w (.slice A n c) [(ruK, x2)]) (ho : EOwn elR w x2.v [gridB]) : RRd w (.slice A n c) [(ruK, x2)] := ⟨ERd.of_own elRu_ok h, fun x hx => by
  obtain rfl := List.mem_singleton.1 hx
  exact ERd.of_own elR_ok ho⟩
/-- What Read of the fixed text tells. -/
def ReadK (w : World) (e : Ending) (w' : World) : Prop := ∃ v x2, e = .returned (.tuple #[v, fauV 0 (0, 0)]) ∧ EOwn elRu w' v [(ruK, x2)] ∧ (∀ i, v.ownBlock = some i → w.heap.size ≤ i) ∧ EOwn elR w' x2.v [gridB] ∧ (∀ i, x2.v.ownBlock = some i → w.heap.size ≤ i) ∧ Below w.heap.size w w'
theorem map_two {α β : Type} {L : List (α × β)} {a b : α} (h : L.map (·.1) = [a, b]) : ∃ x y, L = [(a, x), (b, y)] := by
  obtain ⟨p, t, rfl, h1, h2⟩ := List.map_eq_cons_iff.1 h
  obtain ⟨r, u, rfl, h3, h4⟩ := List.map_eq_cons_iff.1 h2
  rw [List.map_eq_nil_iff] at h4
  subst h4
  exact ⟨p.2, r.2, by rw [← h1, ← h3]⟩
set_option maxRecDepth 100000 in
set_option maxHeartbeats 8000000 in
theorem check_rk (w : World) (v : Value) (acc : List (Dc × RV)) (hV : Vs w) (hs : Hs w) (hg : 0 < w.heap.size) (h : DRd w v acc) (ha : acc.map (·.1) = [rd1, rd2]) :
    Calls Tryz.prog 10 #[v] w (ReadK w) := by
  obtain ⟨x1, x2, rfl⟩ := map_two ha
  have hE1 : ERd elR w x1.v [] := by
    have := h.2 (rd1, x1) (by simp)
    rw [show (rd1, x1).1.bx = [] from rd1_bx] at this
    exact this
  refine (check_ok w v _ hV hs hg h (by simp) (fun x hx => ?_) (KSt [zDc, dV rd1 x1.v] x1) (fun j W W' q mo hk hh _ => hk.high hh) (fun W => CkAt.empty W _ (by simp)) (fun j x W q mo hx hk hm => ?_) (fun W q mo hk => ?_)).mono ?_
  · simp only [List.mem_cons, List.not_mem_nil, or_false] at hx
    rcases hx with rfl | rfl
    · exact rd1_right
    · exact rd2_right
  · match j, hx with
    | 0, hx =>
      simp only [List.getElem?_cons_zero, Option.some.injEq] at hx
      subst hx
      exact kst_0 hk hm w hE1 (by simp)
    | 1, hx =>
      simp only [List.getElem?_cons_succ, List.getElem?_cons_zero, Option.some.injEq] at hx
      subst hx
      exact kst_1 hk hm
    | (j + 2), hx => simp at hx
  · obtain ⟨rv2, x3, C, I, N, h1, h2, h3, h4⟩ := hk
    obtain ⟨A, c, rfl, -, -⟩ := h1.1.slice
    exact ⟨A, _, c, h4.blk.cell 1⟩
  · rintro e w' ⟨q, mo, A, n, c, rfl, hc, hk, hmo, hb⟩
    obtain ⟨rv2, x3, C, I, N, h1, h2, h3, h4⟩ := hk
    have h5 : w'.cell? ⟨q, 1, none⟩ = some rv2 := h4.blk.cell 1
    rw [hc] at h5
    cases h5
    exact ⟨_, x3, rfl, h1.1, fun i hi => Nat.le_trans hmo (h1.2 i hi).1, h2, fun i hi => Nat.le_trans hmo (h3 i hi), hb⟩
set_option maxRecDepth 100000 in
set_option maxHeartbeats 8000000 in
theorem read_rk (w : World) (hV : Vs w) (hs : Hs w) : Calls Tryz.prog 13 #[.string (bs rk)] w (ReadK w) := by
  have hal : Below w.heap.size w (w.alloc (.cells #[.int .i64 0, .int .i64 0, .int .i64 0] 29)) := (Below.refl _ _).alloc (Nat.le_refl _) _
  have HA := Lib.hid hal
  have HF := Lib.hid (Blk.new w 29 #[.int .i64 0, .int .i64 0, .int .i64 0])
  have HVB := Lib.hid (show ∀ w', Below w.heap.size w w' → Vs w' from fun w' hb => hV.below hb)
  have HHB := Lib.hid (show ∀ w', Below w.heap.size w w' → Hs w' from fun w' hb => hs.low hb)
  have HP1 := Lib.hid (parse_any rk _ (hV.below hal) (hs.low hal) (hs.low hal).lt (by decide))
  clear hV hs hal
  go_enter Tryz.func13, Tryz.ntmps13
  go_upto_region 1 with fail
  generalize (w.alloc (.cells #[.int .i64 0, .int .i64 0, .int .i64 0] 29)) = W at *
  go_wp2_with fail
  refine HP1.out.mono ?_
  intro e w1 hq
  unfold ParseP at hq
  rw [rk_is] at hq
  obtain ⟨v1, rfl, hD, hb⟩ := hq
  obtain ⟨acc, hacc, hDR⟩ := hD.rd
  obtain ⟨A1, n1, rfl, _, _⟩ := id hDR.1
  have HDR := Lib.hid hDR
  have HAC := Lib.hid hacc
  have HB1 := Lib.hid (HA.out.trans (hb.mono HA.out.size))
  have HF1 := Lib.hid (Blk.thru0 HF.out hb)
  clear hD hacc hDR hb HP1 HA HF
  go_upto_region 2 with fail
  have HAL := Lib.hid (show Below w1.heap.size w1 (w1.alloc (.cells #[.int .i64 (flE none), .int .i64 (flP none).1, .int .i64 (flP none).2] 29)) from (Below.refl _ _).alloc (Nat.le_refl _) _)
  have HT := Lib.hid (Blk.new w1 29 #[.int .i64 (flE none), .int .i64 (flP none).1, .int .i64 (flP none).2])
  have HB2 := Lib.hid (HB1.out.trans (HAL.out.mono HB1.out.size))
  have HD2 := Lib.hid (HDR.out.below HAL.out)
  have HF2 := Lib.hid (Blk.thru0 HF1.out HAL.out)
  clear HAL HDR HB1 HF1
  generalize w1.heap.size = q1 at *
  generalize (w1.alloc (.cells #[.int .i64 (flE none), .int .i64 (flP none).1, .int .i64 (flP none).2] 29)) = W2 at *
  have HC := Lib.hid (check_rk W2 _ acc (HVB.out _ HB2.out) (HHB.out _ HB2.out) (HHB.out _ HB2.out).lt HD2.out HAC.out)
  have t0 : W2.cell? ⟨q1, 0, none⟩ = some (.int .i64 0) := HT.out.cell 0
  go_wp2_with fail
  refine HC.out.mono ?_
  rintro e w3 ⟨v2, x2, rfl, hR, hRo, hO, hOo, hb⟩
  obtain ⟨A3, n3, rfl, _, _⟩ := hR.slice
  have hlt2 : w.heap.size < W2.heap.size := HF2.out.lt
  have hF := Blk.thru0 HF2.out hb
  have u0 := hF.cell 0
  have u1 := hF.cell 1
  have u2 := hF.cell 2
  simp only [List.getElem?_toArray, List.getElem?_cons_zero, List.getElem?_cons_succ] at u0 u1 u2
  have v0 := hF.frozen 0
  have v1 := hF.frozen 1
  have v2 := hF.frozen 2
  have HD9 := Lib.hid (Blk.set3 hF (.int .i64 0) (.int .i64 0) (.int .i64 0))
  have HBE : Hid (Below w.heap.size w (((w3.setCell ⟨w.heap.size, 0, none⟩ (.int .i64 0)).setCell ⟨w.heap.size, 1, none⟩ (.int .i64 0)).setCell ⟨w.heap.size, 2, none⟩ (.int .i64 0))) := Lib.hid ((((HB2.out.trans (hb.mono HB2.out.size)).setCell (p := ⟨w.heap.size, 0, none⟩) (Nat.le_refl _) _).setCell (p := ⟨w.heap.size, 1, none⟩) (Nat.le_refl _) _).setCell (p := ⟨w.heap.size, 2, none⟩) (Nat.le_refl _) _)
  have HRE : Hid (EOwn elRu (((w3.setCell ⟨w.heap.size, 0, none⟩ (.int .i64 0)).setCell ⟨w.heap.size, 1, none⟩ (.int .i64 0)).setCell ⟨w.heap.size, 2, none⟩ (.int .i64 0)) (.slice A3 ([(ruK, x2)] : List (Rc × RV)).length n3) [(ruK, x2)]) := Lib.hid (hR.keep fun i hi e => three_far _ _ _ _ _ _ (by have := hRo i e; omega))
  have HOE : Hid (EOwn elR (((w3.setCell ⟨w.heap.size, 0, none⟩ (.int .i64 0)).setCell ⟨w.heap.size, 1, none⟩ (.int .i64 0)).setCell ⟨w.heap.size, 2, none⟩ (.int .i64 0)) x2.v [gridB]) := Lib.hid (hO.keep fun i hi e => three_far _ _ _ _ _ _ (by have := hOo i e; omega))
  have HRO := Lib.hid (show ∀ i, (Value.slice A3 ([(ruK, x2)] : List (Rc × RV)).length n3).ownBlock = some i → w.heap.size ≤ i from fun i hi => by have := hRo i hi; omega)
  have HOO := Lib.hid (show ∀ i, x2.v.ownBlock = some i → w.heap.size ≤ i from fun i hi => by have := hOo i hi; omega)
  clear hR hRo hO hOo hlt2
  clear hF
  go_wp2_with fail
  refine bodyPost_ret (v := .tuple #[.slice A3 ([(ruK, x2)] : List (Rc × RV)).length n3, fauV 0 (0, 0)]) ?_ rfl ⟨_, x2, rfl, HRE.out, HRO.out, HOE.out, HOO.out, HBE.out⟩
  clear u0 u1 u2 v0 v1 v2 t0
  have d0 := HD9.out.cell 0
  have d1 := HD9.out.cell 1
  have d2 := HD9.out.cell 2
  simp only [List.getElem?_toArray, List.getElem?_cons_zero, List.getElem?_cons_succ] at d0 d1 d2
  clear HRE HBE
  generalize (((w3.setCell ⟨w.heap.size, 0, none⟩ (.int .i64 0)).setCell ⟨w.heap.size, 1, none⟩ (.int .i64 0)).setCell ⟨w.heap.size, 2, none⟩ (.int .i64 0)) = WX at *
  simp [results, Tryz.results13, go_sem, *]
theorem zk1 (x2 : RV) : zoomN [(ruK, x2)] 3 2 7 9 0 = 12 := by kernel_rfl
theorem zk2 (x2 : RV) : zoomN [(ruK, x2)] 3 5 7 0 0 = 0 := by kernel_rfl
set_option maxRecDepth 100000 in
set_option maxHeartbeats 8000000 in
theorem rknown_any (w : World) (hV : Vs w) (hs : Hs w) : Calls Tryz.prog 9 #[] w fun e w' => e = .returned (.bool true) ∧ Below w.heap.size w w' := by
  have HRD := Lib.hid (read_rk w hV hs)
  simp only [rk, bs] at HRD
  clear hV hs
  go_enter Tryz.func9, Tryz.ntmps9
  go_wp2_with fail
  refine HRD.out.mono ?_
  rintro e w1 ⟨v, x2, rfl, hR, -, hO, -, hb⟩
  obtain ⟨A, n, rfl, -, -⟩ := hR.slice
  have HB1 := Lib.hid hb
  have HR1 := Lib.hid (RRd.one hR hO)
  clear hR hO hb HRD
  go_upto_region 2 with fail
  have HAL := Lib.hid (show Below w1.heap.size w1 (w1.alloc (.cells #[.int .i64 0, .int .i64 0, .int .i64 0] 29)) from (Below.refl _ _).alloc (Nat.le_refl _) _)
  have HT := Lib.hid (Blk.new w1 29 #[.int .i64 0, .int .i64 0, .int .i64 0])
  have HB2 := Lib.hid (HB1.out.trans (HAL.out.mono HB1.out.size))
  have HR2 := Lib.hid (HR1.out.below HAL.out)
  clear HAL HR1 HB1
  generalize w1.heap.size = q1 at *
  generalize (w1.alloc (.cells #[.int .i64 0, .int .i64 0, .int .i64 0] 29)) = W2 at *
  have t0 : W2.cell? ⟨q1, 0, none⟩ = some (.int .i64 0) := HT.out.cell 0
  obtain ⟨g, o, rfl, hc⟩ := HR2.out.1.cell (i := 0) (x := (ruK, x2)) rfl
  have a1 : W2.cell? ⟨g, o + 0 * 7 + 1, none⟩ = some (.int .i64 8) := hc 1 _ rfl
  have a4 : W2.cell? ⟨g, o + 0 * 7 + 4, none⟩ = some (.int .i64 255) := hc 4 _ rfl
  simp only [Nat.zero_mul, Nat.add_zero] at a1 a4
  have HZ1 := Lib.hid (fun W (hW : Below W2.heap.size W2 W) => zoom_any W _ [(ruK, x2)] 3 2 7 9 0 (HR2.out.below hW))
  have HZ2 := Lib.hid (fun W (hW : Below W2.heap.size W2 W) => zoom_any W _ [(ruK, x2)] 3 5 7 0 0 (HR2.out.below hW))
  rw [zk1] at HZ1
  rw [zk2] at HZ2
  clear hc
  go_wp2_with fail
  refine (HZ1.out _ (Below.refl _ _)).mono ?_
  rintro e w3 ⟨rfl, hb⟩
  have HB3 := Lib.hid hb
  clear hb t0 a1 a4
  go_wp2_with fail
  refine (HZ2.out _ HB3.out).mono ?_
  rintro e w4 ⟨rfl, hb⟩
  have HB4 := Lib.hid (HB2.out.trans ((HB3.out.trans (hb.mono HB3.out.size)).mono HB2.out.size))
  clear hb
  go_wp2_with fail
  go_ret
  exact ⟨rfl, HB4.out⟩
end
end Go.Proofs.YtkpmeelbjldcoaaGreatDoor
