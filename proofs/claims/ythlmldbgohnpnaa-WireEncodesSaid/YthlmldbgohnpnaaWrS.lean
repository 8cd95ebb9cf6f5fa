/- wire: the document's Decode, by contract. -/
import Derived.Test.YthlmldbgohnpnaaWrR
import Derived.Deep.DeepCutAuto
namespace Go.Proofs.Ythlmldbgohnpnaa
set_option linter.unusedVariables false
set_option linter.unusedSimpArgs false
open Go.RowKit
theorem getB_one (c : UInt8) : getB [c] = c.toNat := by simp [getB, getF]
theorem getB_two (c d : UInt8) : getB [c, d] = 256 * c.toNat + d.toNat := by simp [getB, getF]
theorem gN_one {L : Bs} {a : Nat} (h : a < L.length) : gN L a 1 = L[a].toNat := by
  unfold gN
  rw [List.drop_eq_getElem_cons h]
  exact getB_one _
theorem gN_two {L : Bs} {a : Nat} (h : a + 1 < L.length) : gN L a 2 = 256 * L[a].toNat + L[a + 1].toNat := by
  unfold gN
  rw [List.drop_eq_getElem_cons (by omega), List.drop_eq_getElem_cons h]
  exact getB_two _ _
theorem rdec_results {w : World} {q : Nat} {r : Rq} {e : Value} (tmps : Array Value) (h2 : tmps.getD 2 undef = .pointer (some ⟨q, 0, none⟩)) (h3 : tmps.getD 3 undef = e) (hq : Blk w q TQ r.cs) :
    (results Try.f9 tmps).run Try.prog w = .ok (.tuple #[.agg r.cs, e]) w := by
  have hl := run_ldV hq
  unfold ldV at hl
  simp only [results, Try.results9]
  rw [Array.getD_eq_getD_getElem?] at h2 h3
  simp [h2, h3, asAddr, hl]
theorem below_undrew {W w' : World} (h : Below W.drew.heap.size W.drew w') : Below W.heap.size W w' := ⟨h.os, h.tape, h.output, h.size, h.block⟩
theorem Blk.farSets {q g : Nat} {t : TypeId} {cs : Array Value} (hne : g ≠ q) : ∀ (vs : List Value) (w : World) (i : Nat), Blk w g t cs → Blk (w.setCells q i vs) g t cs
  | [], _, _, h => h
  | v :: vs, w, i, h => Blk.farSets hne vs _ _ (h.far (p := ⟨q, i, none⟩) hne v)
/-- A request is stored; all other blocks are kept. -/
theorem store_far {B : Nat} {a w2 : World} {q : Nat} {r r0 : Rq} (hq : B ≤ q) (hp : Blk w2 q TQ r0.cs) (hb : Below B a w2) : ∃ w3, (stQ (.pointer (some ⟨q, 0, none⟩)) (.agg r.cs)).run Try.prog w2 = .ok () w3 ∧ Blk w3 q TQ r.cs ∧ Below B a w3 ∧ ∀ g t cs, g ≠ q → Blk w2 g t cs → Blk w3 g t cs := ⟨_, run_stQ0 hp, hp.setQ, below_sets hq _ _ _ hb, fun g t cs hne h => Blk.farSets hne _ _ _ h⟩
theorem enough_cases (k n : Nat) (h : 13 ≤ n) : (n - 13 < fieldsN k → enoughN k (n - 13) = 50) ∧ (¬ n - 13 < fieldsN k → (if k = 3 then 512 else fieldsN k) < n - 13 → enoughN k (n - 13) = 2) ∧ (¬ n - 13 < fieldsN k → ¬ (if k = 3 then 512 else fieldsN k) < n - 13 → enoughN k (n - 13) = 0) := by
  unfold enoughN
  refine ⟨fun h => by rw [if_pos h], fun h h2 => by rw [if_neg h, if_pos h2], fun h h2 => by rw [if_neg h, if_neg h2]⟩
section
attribute [local go_sem ↓] to_ldQ to_stQ
set_option maxRecDepth 100000 in
set_option maxHeartbeats 8000000 in
theorem rdec_trial (w : World) (ad : Addr) (n c : Nat) (L : Bs) (hn : n ≤ c) (hc : c ≤ maxLen) (h13 : 13 ≤ n) (h : RB w (some ad) n L) :
    Calls Try.prog 9 #[.slice (some ad) n c] w fun e w' => DecP L w e w' := by
  obtain ⟨ab, ao, an⟩ := ad
  have hl := h.len
  have HLN := Lib.hid hl
  have hcm := hc
  unfold maxLen at hcm
  obtain ⟨b0, e0⟩ : ∃ b : Nat, b = (L[0]'(by omega)).toNat := ⟨_, rfl⟩
  obtain ⟨b1, e1⟩ : ∃ b : Nat, b = (L[1]'(by omega)).toNat := ⟨_, rfl⟩
  obtain ⟨b2, e2⟩ : ∃ b : Nat, b = (L[2]'(by omega)).toNat := ⟨_, rfl⟩
  obtain ⟨b3, e3⟩ : ∃ b : Nat, b = (L[3]'(by omega)).toNat := ⟨_, rfl⟩
  obtain ⟨b12, e12⟩ : ∃ b : Nat, b = (L[12]'(by omega)).toNat := ⟨_, rfl⟩
  have HE := Lib.hid (show b0 = gN L 0 1 ∧ b1 = gN L 1 1 ∧ 256 * b2 + b3 = gN L 2 2 ∧ b12 = gN L 12 1 by rw [gN_one (by omega), gN_one (by omega), gN_two (by omega), gN_one (by omega), e0, e1, e2, e3, e12]; exact ⟨rfl, rfl, rfl, rfl⟩)
  have l0 : b0 ≤ 255 := by have := (L[0]'(by omega)).toNat_lt; omega
  have l1 : b1 ≤ 255 := by have := (L[1]'(by omega)).toNat_lt; omega
  have l2 : b2 ≤ 255 := by have := (L[2]'(by omega)).toNat_lt; omega
  have l3 : b3 ≤ 255 := by have := (L[3]'(by omega)).toNat_lt; omega
  have l12 : b12 ≤ 255 := by have := (L[12]'(by omega)).toNat_lt; omega
  obtain ⟨W, hW⟩ : ∃ W, W = (w.alloc (.cells #[.int .i64 0, .int .i64 0, .int .i64 0, .int .u64 0, .int .i64 0, .int .i64 0, .int .i64 0, .int .i64 0, .int .i64 0, .string ⟨#[]⟩, .int .i64 0, .int .i64 0, .int .i64 0, .int .i64 0, .int .i64 0, .int .i64 0, .int .i64 0, .int .u64 0, .int .i64 0, .int .u64 0, .int .i64 0, .int .i64 0, .int .i64 0, .int .i64 0] TQ)).alloc (.cells #[.int .i64 0, .int .i64 0, .int .i64 0, .int .u64 0, .int .i64 0, .int .i64 0, .int .i64 0, .int .i64 0, .int .i64 0, .string ⟨#[]⟩, .int .i64 0, .int .i64 0, .int .i64 0, .int .i64 0, .int .i64 0, .int .i64 0, .int .i64 0, .int .u64 0, .int .i64 0, .int .u64 0, .int .i64 0, .int .i64 0, .int .i64 0, .int .i64 0] TQ) := ⟨_, rfl⟩
  have hbl : Below w.heap.size w W := by rw [hW]; exact ((Below.refl _ _).alloc (Nat.le_refl _) _).alloc (by simp) _
  have HBL := Lib.hid hbl
  have hW2 := h.below hbl
  have hb2 := blk_two w TQ TQ #[.int .i64 0, .int .i64 0, .int .i64 0, .int .u64 0, .int .i64 0, .int .i64 0, .int .i64 0, .int .i64 0, .int .i64 0, .string ⟨#[]⟩, .int .i64 0, .int .i64 0, .int .i64 0, .int .i64 0, .int .i64 0, .int .i64 0, .int .i64 0, .int .u64 0, .int .i64 0, .int .u64 0, .int .i64 0, .int .i64 0, .int .i64 0, .int .i64 0] #[.int .i64 0, .int .i64 0, .int .i64 0, .int .u64 0, .int .i64 0, .int .i64 0, .int .i64 0, .int .i64 0, .int .i64 0, .string ⟨#[]⟩, .int .i64 0, .int .i64 0, .int .i64 0, .int .i64 0, .int .i64 0, .int .i64 0, .int .i64 0, .int .u64 0, .int .i64 0, .int .u64 0, .int .i64 0, .int .i64 0, .int .i64 0, .int .i64 0]
  rw [← hW] at hb2
  have HB2 := Lib.hid (show Blk W w.heap.size TQ Rq.z.cs ∧ Blk W (w.heap.size + 1) TQ Rq.z.cs from hb2)
  have k0 : W.cell? ⟨ab, ao, an⟩ = some (.int .u8 (b0 : Int)) := by obtain ⟨ad, e, _, hc⟩ := hW2.at 0 (by omega); cases e; rw [e0]; exact hc
  have k1 : W.cell? ⟨ab, ao + 1, none⟩ = some (.int .u8 (b1 : Int)) := by obtain ⟨ad, e, _, hc⟩ := hW2.at 1 (by omega); cases e; rw [e1]; exact hc
  have k2 : W.cell? ⟨ab, ao + 2, none⟩ = some (.int .u8 (b2 : Int)) := by obtain ⟨ad, e, _, hc⟩ := hW2.at 2 (by omega); cases e; rw [e2]; exact hc
  have k3 : W.cell? ⟨ab, ao + 3, none⟩ = some (.int .u8 (b3 : Int)) := by obtain ⟨ad, e, _, hc⟩ := hW2.at 3 (by omega); cases e; rw [e3]; exact hc
  have k12 : W.cell? ⟨ab, ao + 12, none⟩ = some (.int .u8 (b12 : Int)) := by obtain ⟨ad, e, _, hc⟩ := hW2.at 12 (by omega); cases e; rw [e12]; exact hc
  have HG : ∀ (w' : World) (d : Nat), Below W.heap.size W w' → Calls Try.prog 21 #[.slice (some ⟨ab, ao + 4, none⟩) 8 d] w' fun e w2 => e = .returned (.int .u64 (gN L 4 8 : Int)) ∧ w' = w2 := fun w' d hb => refget_any _ 8 d ((L.drop 4).take 8) w' (rb_mid (hW2.below hb) (by decide) (by omega)) (by decide)
  have HGT := Lib.hid HG
  have hu1 : IntKind.i64.wrap (256 * (b2 : Int)) = 256 * (b2 : Int) := by rw [IntKind.wrap_i64]; omega
  have hu2 : IntKind.i64.wrap (256 * (b2 : Int) + (b3 : Int)) = 256 * (b2 : Int) + (b3 : Int) := by rw [IntKind.wrap_i64]; omega
  clear HG hbl hW2 hb2 e0 e1 e2 e3 e12 hl
  obtain ⟨sec, hsec⟩ : ∃ n, n = gN L 4 8 := ⟨_, rfl⟩
  rw [← hsec] at HGT
  have HSEC := Lib.hid hsec
  have HRB0 := Lib.hid h
  clear h hsec
  have h13' : ¬ (n : Int) < 13 := by omega
  have hn4 : (12 : Int) ≤ (c : Int) := by omega
  have i0 : 0 < n := by omega
  have i1 : (1 : Int) < (n : Int) := by omega
  have i2 : (2 : Int) < (n : Int) := by omega
  have i3 : (3 : Int) < (n : Int) := by omega
  have i12 : (12 : Int) < (n : Int) := by omega
  have hc4 : ¬ c = 4 := by omega
  have hwb0 : IntKind.i64.wrap (b0 : Int) = (b0 : Int) := by rw [IntKind.wrap_i64]; omega
  have hwb1 : IntKind.i64.wrap (b1 : Int) = (b1 : Int) := by rw [IntKind.wrap_i64]; omega
  have hwb2 : IntKind.i64.wrap (b2 : Int) = (b2 : Int) := by rw [IntKind.wrap_i64]; omega
  have hwb3 : IntKind.i64.wrap (b3 : Int) = (b3 : Int) := by rw [IntKind.wrap_i64]; omega
  have hw12 : IntKind.i64.wrap (b12 : Int) = (b12 : Int) := by rw [IntKind.wrap_i64]; omega
  go_enter Try.func9, Try.ntmps9
  go_wp2_with fail
  rw [← hW]
  have hal : Below W.heap.size W (W.alloc (.cells #[.int .i64 0, .int .i64 0, .int .i64 0, .int .u64 0, .int .i64 0, .int .i64 0, .int .i64 0, .int .i64 0, .int .i64 0, .string ⟨#[]⟩, .int .i64 0, .int .i64 0, .int .i64 0, .int .i64 0, .int .i64 0, .int .i64 0, .int .i64 0, .int .u64 0, .int .i64 0, .int .u64 0, .int .i64 0, .int .i64 0, .int .i64 0, .int .i64 0] TQ)).drew := below_drawn ((Below.refl _ _).alloc (Nat.le_refl _) _) 1
  obtain ⟨R, hR⟩ : ∃ R : Rq, R = ⟨b0, b1, 256 * (b2 : Int) + b3, sec, b12, 0, 0, 0, 0, [], 0, 0, 0, 0, 0, 0, 0, 0, 0, 0, 0, 0, 0, 0⟩ := ⟨_, rfl⟩
  obtain ⟨w3, hst0, hp3, hb3⟩ := store_at (w := W) (r := R) (Nat.le_refl _) (show Blk (W.alloc (.cells #[.int .i64 0, .int .i64 0, .int .i64 0, .int .u64 0, .int .i64 0, .int .i64 0, .int .i64 0, .int .i64 0, .int .i64 0, .string ⟨#[]⟩, .int .i64 0, .int .i64 0, .int .i64 0, .int .i64 0, .int .i64 0, .int .i64 0, .int .i64 0, .int .u64 0, .int .i64 0, .int .u64 0, .int .i64 0, .int .i64 0, .int .i64 0, .int .i64 0] TQ)).drew W.heap.size TQ Rq.z.cs from Blk.new _ _ _) hal
  have hst : (stQ (.pointer (some ⟨W.heap.size, 0, none⟩)) (.agg #[.int .i64 (b0 : Int), .int .i64 (b1 : Int), .int .i64 (256 * (b2 : Int) + (b3 : Int)), .int .u64 (sec : Int), .int .i64 (b12 : Int), .int .i64 0, .int .i64 0, .int .i64 0, .int .i64 0, .string ⟨#[]⟩, .int .i64 0, .int .i64 0, .int .i64 0, .int .i64 0, .int .i64 0, .int .i64 0, .int .i64 0, .int .u64 0, .int .i64 0, .int .u64 0, .int .i64 0, .int .i64 0, .int .i64 0, .int .i64 0])).run Try.prog (W.alloc (.cells #[.int .i64 0, .int .i64 0, .int .i64 0, .int .u64 0, .int .i64 0, .int .i64 0, .int .i64 0, .int .i64 0, .int .i64 0, .string ⟨#[]⟩, .int .i64 0, .int .i64 0, .int .i64 0, .int .i64 0, .int .i64 0, .int .i64 0, .int .i64 0, .int .u64 0, .int .i64 0, .int .u64 0, .int .i64 0, .int .i64 0, .int .i64 0, .int .i64 0] TQ)).drew = .ok () w3 := by rw [hR] at hst0; exact hst0
  have HRR := Lib.hid hR
  have HP3 := Lib.hid hp3
  clear hst0 hR hp3
  clear hW
  have hsb : ∀ w' : World, Below W.heap.size W w' → (w'.cell? ⟨ab, ao, an⟩ = some (.int .u8 (b0 : Int))) ∧ (w'.cell? ⟨ab, ao + 1, none⟩ = some (.int .u8 (b1 : Int))) ∧ (w'.cell? ⟨ab, ao + 2, none⟩ = some (.int .u8 (b2 : Int))) ∧ (w'.cell? ⟨ab, ao + 3, none⟩ = some (.int .u8 (b3 : Int))) ∧ (w'.cell? ⟨ab, ao + 12, none⟩ = some (.int .u8 (b12 : Int))) := fun w' hb => ⟨(hb.cell (World.block_lt_of_cell? W _ k0)).trans k0, (hb.cell (World.block_lt_of_cell? W _ k1)).trans k1, (hb.cell (World.block_lt_of_cell? W _ k2)).trans k2, (hb.cell (World.block_lt_of_cell? W _ k3)).trans k3, (hb.cell (World.block_lt_of_cell? W _ k12)).trans k12⟩
  have HS0 := Lib.hid (hsb W (Below.refl _ _))
  have HS1 := Lib.hid (hsb W.drew (below_drawn (Below.refl _ _) 1))
  have HS2 := Lib.hid (hsb (W.alloc (.cells #[.int .i64 0, .int .i64 0, .int .i64 0, .int .u64 0, .int .i64 0, .int .i64 0, .int .i64 0, .int .i64 0, .int .i64 0, .string ⟨#[]⟩, .int .i64 0, .int .i64 0, .int .i64 0, .int .i64 0, .int .i64 0, .int .i64 0, .int .i64 0, .int .u64 0, .int .i64 0, .int .u64 0, .int .i64 0, .int .i64 0, .int .i64 0, .int .i64 0] TQ)) ((Below.refl _ _).alloc (Nat.le_refl _) _))
  have HS4 := Lib.hid (hsb (W.alloc (.cells #[.int .i64 0, .int .i64 0, .int .i64 0, .int .u64 0, .int .i64 0, .int .i64 0, .int .i64 0, .int .i64 0, .int .i64 0, .string ⟨#[]⟩, .int .i64 0, .int .i64 0, .int .i64 0, .int .i64 0, .int .i64 0, .int .i64 0, .int .i64 0, .int .u64 0, .int .i64 0, .int .u64 0, .int .i64 0, .int .i64 0, .int .i64 0, .int .i64 0] TQ)).drew hal)
  have HS5 := Lib.hid (hsb (W.drew.alloc (.cells #[.int .i64 0, .int .i64 0, .int .i64 0, .int .u64 0, .int .i64 0, .int .i64 0, .int .i64 0, .int .i64 0, .int .i64 0, .string ⟨#[]⟩, .int .i64 0, .int .i64 0, .int .i64 0, .int .i64 0, .int .i64 0, .int .i64 0, .int .i64 0, .int .u64 0, .int .i64 0, .int .u64 0, .int .i64 0, .int .i64 0, .int .i64 0, .int .i64 0] TQ)) hal)
  have HS3 := Lib.hid (hsb w3 hb3)
  have HG0 := Lib.hid (fun d => HGT.out W d (Below.refl _ _))
  have HG1 := Lib.hid (fun d => HGT.out W.drew d (below_drawn (Below.refl _ _) 1))
  have HG2 := Lib.hid (fun d => HGT.out (W.alloc (.cells #[.int .i64 0, .int .i64 0, .int .i64 0, .int .u64 0, .int .i64 0, .int .i64 0, .int .i64 0, .int .i64 0, .int .i64 0, .string ⟨#[]⟩, .int .i64 0, .int .i64 0, .int .i64 0, .int .i64 0, .int .i64 0, .int .i64 0, .int .i64 0, .int .u64 0, .int .i64 0, .int .u64 0, .int .i64 0, .int .i64 0, .int .i64 0, .int .i64 0] TQ)) d ((Below.refl _ _).alloc (Nat.le_refl _) _))
  have HG4 := Lib.hid (fun d => HGT.out (W.alloc (.cells #[.int .i64 0, .int .i64 0, .int .i64 0, .int .u64 0, .int .i64 0, .int .i64 0, .int .i64 0, .int .i64 0, .int .i64 0, .string ⟨#[]⟩, .int .i64 0, .int .i64 0, .int .i64 0, .int .i64 0, .int .i64 0, .int .i64 0, .int .i64 0, .int .u64 0, .int .i64 0, .int .u64 0, .int .i64 0, .int .i64 0, .int .i64 0, .int .i64 0] TQ)).drew d hal)
  have HB3 := Lib.hid hb3
  clear hsb hal hb3 HGT
  go_cut [5] (fun s5 wx => s5 = .pointer (some ⟨W.heap.size, 0, none⟩) ∧ wx = w3)
  case first =>
    go_region_held3 (fun w' => (w'.cell? ⟨ab, ao, an⟩ = some (.int .u8 (b0 : Int))) ∧ (w'.cell? ⟨ab, ao + 1, none⟩ = some (.int .u8 (b1 : Int))) ∧ (w'.cell? ⟨ab, ao + 2, none⟩ = some (.int .u8 (b2 : Int))) ∧ (w'.cell? ⟨ab, ao + 3, none⟩ = some (.int .u8 (b3 : Int))) ∧ (w'.cell? ⟨ab, ao + 12, none⟩ = some (.int .u8 (b12 : Int)))) (first | with_reducible exact HS0.out | with_reducible exact HS1.out | with_reducible exact HS2.out | with_reducible exact HS3.out | with_reducible exact HS4.out | with_reducible exact HS5.out) (first | (go_at_call 21; (first | (with_reducible refine (HG0.out _).mono ?_) | (with_reducible refine (HG1.out _).mono ?_) | (with_reducible refine (HG2.out _).mono ?_) | (with_reducible refine (HG4.out _).mono ?_)); rintro e w9 ⟨rfl, hw9⟩; subst hw9))
    all_goals
      go_wp2
      go_meet
      exact ⟨rfl, rfl⟩
  case rest =>
    rename World => wc
    obtain ⟨rfl, hwc⟩ := hcut
    have hwc2 := hwc.symm
    clear hwc
    subst hwc2
    have hRH : R = hdR L := by
      obtain ⟨h0, h1, h2, h3⟩ := HE.out
      rw [HRR.out]
      unfold hdR
      rw [← h0, ← h1, ← h2, ← h3, HSEC.out]
      rfl
    rw [hRH] at HP3
    have HOP : Hid ((hdR L).op = (b0 : Int)) := Lib.hid (by rw [← hRH, HRR.out])
    have HM : Hid ((hdR L).m = (b12 : Int)) := Lib.hid (by rw [← hRH, HRR.out])
    have HPA := Lib.hid (HB2.out.1.thru0 HB3.out)
    have HPB := Lib.hid (HB2.out.2.thru0 HB3.out)
    have HBW := Lib.hid (HBL.out.trans (HB3.out.mono HBL.out.size))
    have HRB := Lib.hid (HRB0.out.below HBW.out)
    have HQ := Lib.hid HP3.out
    have HD0 : Hid (decR L = _) := Lib.hid (by unfold decR; rw [if_neg (show ¬ L.length < 13 by have := HLN.out; omega), HOP.out, HM.out, HLN.out, Int.toNat_natCast])
    have HN13 := Lib.hid h13
    have HQW : Hid (w.heap.size ≤ W.heap.size) := Lib.hid HBL.out.size
    have HQN : Hid (w.heap.size ≠ W.heap.size ∧ w.heap.size + 1 ≠ W.heap.size) := Lib.hid (by have := HB2.out.2.lt; omega)
    have HNC := Lib.hid hn
    clear hst hRH HRR HE HP3 HS0 HS1 HS2 HS3 HS4 HS5 HG0 HG1 HG2 HG4 hu1 hu2 hwb0 hwb1 hwb2 hwb3 hw12 k0 k1 k2 k3 k12 HB2 HB3 HBL i1 i2 i3 i12 i0 hn4 l1 l2 l3 HRB0 HSEC hc4
    generalize W.heap.size = qb at *
    have q0 := HQ.out.cell 0
    rw [show (hdR L).cs[0]? = some (.int .i64 (hdR L).op) from rfl, HOP.out] at q0
    have q4 := HQ.out.cell 4
    rw [show (hdR L).cs[4]? = some (.int .i64 (hdR L).m) from rfl, HM.out] at q4
    have HTH := Lib.hid (there19_any (b0 : Int) w3)
    by_cases hop : 1 ≤ b0 ∧ b0 ≤ 19
    · rw [decide_eq_true (show 1 ≤ (b0 : Int) ∧ (b0 : Int) ≤ 19 by omega)] at HTH
      have HD1 : Hid (decR L = _) := Lib.hid (by rw [HD0.out, if_neg (not_not_intro (show 1 ≤ (b0 : Int) ∧ (b0 : Int) ≤ 19 by omega))])
      have HO := Lib.hid hop
      clear hop HD0
      go_wp2_with fail
      refine HTH.out.mono ?_
      rintro e x0 ⟨rfl, hx0⟩
      subst hx0
      clear HTH
      by_cases hm : 64 < b12
      · have hm' : (64 : Int) < (b12 : Int) := by omega
        have HDR := Lib.hid (show decR L = (33, Rq.z) by rw [HD1.out, if_pos hm'])
        clear hm
        obtain ⟨x1, hsx, hpx, hbx⟩ := store_at (w := w) (r := Rq.z) (Nat.le_refl _) HPA.out HBW.out
        have HPX := Lib.hid hpx
        have HBX := Lib.hid hbx
        have hlz := run_ldQ HPB.out
        clear hpx hbx
        go_wp2_with fail
        exact bodyPost_ret (v := .tuple #[.agg Rq.z.cs, .int .i64 33]) (rdec_results _ rfl rfl HPX.out) rfl (DecP.mk HDR.out HBX.out)
      · have hm' : ¬ (64 : Int) < (b12 : Int) := by omega
        have HD2 : Hid (decR L = _) := Lib.hid (by rw [HD1.out, if_neg hm'])
        clear hm HD1
        obtain ⟨A2, hA2⟩ : ∃ A2, A2 = (if c = 13 then some (⟨ab, ao, an⟩ : Addr) else some ⟨ab, ao + 13, none⟩) := ⟨_, rfl⟩
        have HRR := Lib.hid (show RB w3 A2 (n - 13) (L.drop 13) by
          have := Reads.cut HRB.out (k := 13) HN13.out HNC.out
          rw [hA2, RB, bv_drop]
          exact this)
        have hif := hA2.symm
        have HNC13 : Hid (n - 13 ≤ c - 13) := Lib.hid (by have := HNC.out; omega)
        have HC13 : Hid (c - 13 ≤ maxLen) := Lib.hid (by unfold maxLen; omega)
        obtain ⟨ec1, ec2, ec3⟩ := enough_cases b0 n HN13.out
        have HE1 := Lib.hid ec1
        have HE2 := Lib.hid ec2
        have HE3 := Lib.hid ec3
        have HND := Lib.hid (fun y => rneeds_any (b0 : Int) y)
        have hnn : needN (b0 : Int) = (fieldsN b0 : Int) := by unfold needN; rw [if_pos (by have := HO.out; omega), Int.toNat_natCast]
        rw [hnn] at HND
        have hfs := fields_sizes b0
        have h13c : (13 : Int) ≤ (c : Int) := by omega
        clear hA2 hnn ec1 ec2 ec3 HRB
        go_wp2_with fail
        refine (HND.out _).mono ?_
        rintro e w4 ⟨rfl, hb4⟩
        have HPA4 := Lib.hid (HPA.out.thru0 hb4)
        have HPB4 := Lib.hid (HPB.out.thru0 hb4)
        have HBW4 := Lib.hid (HBW.out.trans (hb4.mono HBW.out.size))
        have HQ4 := Lib.hid (HQ.out.thru0 hb4)
        have HRR4 := Lib.hid (HRR.out.below hb4)
        have r0 := HQ4.out.cell 0
        rw [show (hdR L).cs[0]? = some (.int .i64 (hdR L).op) from rfl, HOP.out] at r0
        clear hb4 HPA HPB HBW HQ HRR q0 q4
        by_cases h50 : n - 13 < fieldsN b0
        · have HDR := Lib.hid (show decR L = (50, Rq.z) by rw [HD2.out, HE1.out h50, if_pos (by decide)])
          have h50' : ((n - 13 : Nat) : Int) < (fieldsN b0 : Int) := by omega
          obtain ⟨x1, hsx, hpx, hbx⟩ := store_at (w := w) (r := Rq.z) (Nat.le_refl _) HPA4.out HBW4.out
          have HPX := Lib.hid hpx
          have HBX := Lib.hid hbx
          have hlz := run_ldQ HPB4.out
          clear hpx hbx
          go_wp2_with fail
          exact bodyPost_ret (v := .tuple #[.agg (Rq.z).cs, .int .i64 50]) (rdec_results _ rfl rfl HPX.out) rfl (DecP.mk HDR.out HBX.out)
        · have h50' : ¬ ((n - 13 : Nat) : Int) < (fieldsN b0 : Int) := by omega
          have HFN : Hid (fieldsN b0 ≤ n - 13) := Lib.hid (by omega)
          by_cases hk3 : b0 = 3
          · have HK3 := Lib.hid hk3
            have hk3b : ((b0 : Int) != 3) = false := by rw [hk3]; rfl
            have hk3c : ((b0 : Int) == 3) = true := by rw [hk3]; rfl
            have hcv := conv_reads (c := c - 13) HRR4.out 22 9 (by kernel_rfl) (by kernel_rfl)
            by_cases hl : 512 < n - 13
            · have HDR := Lib.hid (show decR L = (2, Rq.z) by rw [HD2.out, HE2.out h50 (by rw [if_pos hk3]; exact hl), if_pos (by decide)])
              have hl' : (512 : Int) < ((n - 13 : Nat) : Int) := by omega
              clear hk3 hcv h50 hl
              obtain ⟨x1, hsx, hpx, hbx⟩ := store_at (w := w) (r := Rq.z) (Nat.le_refl _) HPA4.out HBW4.out
              have HPX := Lib.hid hpx
              have HBX := Lib.hid hbx
              have hlz := run_ldQ HPB4.out
              clear hpx hbx
              go_wp2_with fail
              exact bodyPost_ret (v := .tuple #[.agg (Rq.z).cs, .int .i64 2]) (rdec_results _ rfl rfl HPX.out) rfl (DecP.mk HDR.out HBX.out)
            · have HD3 : Hid (decR L = _) := Lib.hid (by rw [HD2.out, HE3.out h50 (by rw [if_pos hk3]; exact hl), if_neg (by decide)])
              have hl' : ¬ (512 : Int) < ((n - 13 : Nat) : Int) := by omega
              clear hk3 h50 hl
              have HWI := Lib.hid (fun (y : World) (v : Value) (hv : EOwn elU y v (numsR (L.drop 13) 0 (widL b0))) => with_any y (hdR L) b0 HOP.out HO.out.1 HO.out.2 (L.drop 13) v hv)
              rw [if_pos HK3.out] at HWI
              have HSU : Hid ((widL b0).sum ≤ n - 13) := Lib.hid (by rw [widL_sum]; exact HFN.out)
              have hldq := run_ldQ HQ4.out
              have hldd := run_ldQ (HQ4.out.drew)
              have qq := HQ4.out.cell 0
              rw [show (hdR L).cs[0]? = some (.int .i64 (hdR L).op) from rfl, HOP.out] at qq
              go_wp2_with fail
              go_cut [] (fun wx => Hid (Blk wx qb TQ (fdR b0 (L.drop 13) (hdR L)).cs ∧ Blk wx w.heap.size TQ Rq.z.cs ∧ Blk wx (w.heap.size + 1) TQ Rq.z.cs ∧ Below w.heap.size w wx))
              case first =>
                go_region_law (first | (go_simp; go_at_call 24; refine (fld_any b0 HO.out.1 HO.out.2 _).mono ?_; rintro e y1 ⟨g1, rfl, ho1, hg1, hb1⟩; have hx1 : Below (w4).heap.size w4 y1 := (by first | exact below_undrew hb1 | exact hb1); have hl1 := run_ldQ (HQ4.out.thru0 hx1); have HX1 := Lib.hid hx1; have HO1 := Lib.hid ho1; clear hb1 hx1 ho1 hg1) | (go_simp; go_at_call 23; refine (rnumbers_any _ A2 (n - 13) (c - 13) (L.drop 13) (widL b0) g1 HNC13.out HC13.out (HRR4.out.below HX1.out) HO1.out (widL_le _).2 HSU.out (widL_le _).1).mono ?_; rintro e y2 ⟨v2, rfl, hf2⟩; have hx2 := below_trans HX1.out hf2.bel; have hl2 := run_ldQ (HQ4.out.thru0 hx2); obtain ⟨A9, c9, hv9, _, _⟩ := hf2.own.slice; generalize (numsR (L.drop 13) 0 (widL b0)).length = n9 at hv9; subst hv9; have HX2 := Lib.hid hx2; have HF2 := Lib.hid hf2; clear hx2 hf2) | (go_simp; go_at_call 22; refine (HWI.out _ _ HF2.out.own).mono ?_; rintro e y3 ⟨rfl, hb3⟩; have hx3 := below_trans HX2.out hb3; obtain ⟨y4, hst4, hp4, hb4, hfar4⟩ := store_far (r := fdR b0 (L.drop 13) (hdR L)) HQW.out (HQ4.out.thru0 hx3) (HBW4.out.trans (hx3.mono HBW4.out.size)); have HP4 := Lib.hid hp4; have HB4 := Lib.hid hb4; have HA4 := Lib.hid (hfar4 _ _ _ HQN.out.1 (HPA4.out.thru0 hx3)); have HZ4 := Lib.hid (hfar4 _ _ _ HQN.out.2 (HPB4.out.thru0 hx3)); clear hp4 hb4 hfar4 hb3 hx3))
                all_goals
                  go_wp2
                  go_meet
                  exact Lib.hid ⟨HP4.out, HA4.out, HZ4.out, HB4.out⟩
              case rest =>
                rename World => y4
                have HP4 := Lib.hid hcut.out.1
                have HA4 := Lib.hid hcut.out.2.1
                have HZ4 := Lib.hid hcut.out.2.2.1
                have HB4 := Lib.hid hcut.out.2.2.2
                clear hcut
                have hl4 := run_ldQ HP4.out
                have HRG := Lib.hid (range_any y4 (fdR b0 (L.drop 13) (hdR L)))
                rw [range_fd b0 HO.out.1 HO.out.2 (L.drop 13) L HOP.out] at HRG
                go_wp2_with fail
                refine HRG.out.mono ?_
                rintro e y5 ⟨rfl, hb5⟩
                have HP5 := Lib.hid (HP4.out.thru0 hb5)
                have HA5 := Lib.hid (HA4.out.thru0 hb5)
                have HZ5 := Lib.hid (HZ4.out.thru0 hb5)
                have HB5 := Lib.hid (HB4.out.trans (hb5.mono HB4.out.size))
                clear hb5 hl4 HRG HP4 HA4 HZ4 HB4
                by_cases hbd : badR b0 (fdR b0 (L.drop 13) (hdR L)) = true
                · have HDR := Lib.hid (show decR L = (33, Rq.z) by rw [HD3.out, if_pos hbd])
                  rw [hbd]
                  clear hbd
                  obtain ⟨x1, hsx, hpx, hbx⟩ := store_at (w := w) (r := Rq.z) (Nat.le_refl _) HA5.out HB5.out
                  have HPX := Lib.hid hpx
                  have HBX := Lib.hid hbx
                  have hlz := run_ldQ HZ5.out
                  clear hpx hbx
                  go_wp2_with fail
                  exact bodyPost_ret (v := .tuple #[.agg (Rq.z).cs, .int .i64 33]) (rdec_results _ rfl rfl HPX.out) rfl (DecP.mk HDR.out HBX.out)
                · have HDR := Lib.hid (show decR L = (0, fdR b0 (L.drop 13) (hdR L)) by rw [HD3.out, if_neg hbd])
                  rw [show badR b0 (fdR b0 (L.drop 13) (hdR L)) = false by simpa using hbd]
                  clear hbd
                  obtain ⟨x1, hsx, hpx, hbx⟩ := store_at (w := w) (r := fdR b0 (L.drop 13) (hdR L)) (Nat.le_refl _) HA5.out HB5.out
                  have HPX := Lib.hid hpx
                  have HBX := Lib.hid hbx
                  have hlz := run_ldQ HP5.out
                  clear hpx hbx
                  go_wp2_with fail
                  exact bodyPost_ret (v := .tuple #[.agg (fdR b0 (L.drop 13) (hdR L)).cs, .int .i64 0]) (rdec_results _ rfl rfl HPX.out) rfl (DecP.mk HDR.out HBX.out)
          · have HK3 := Lib.hid hk3
            have hk3b : ((b0 : Int) != 3) = true := by simp; omega
            have hk3c : ((b0 : Int) == 3) = false := beq_eq_false_iff_ne.2 (by omega)
            clear hk3
            go_wp2_with fail
            refine (HND.out _).mono ?_
            rintro e w5 ⟨rfl, hb5⟩
            have HPA5 := Lib.hid (HPA4.out.thru0 hb5)
            have HPB5 := Lib.hid (HPB4.out.thru0 hb5)
            have HBW5 := Lib.hid (HBW4.out.trans (hb5.mono HBW4.out.size))
            have HQ5 := Lib.hid (HQ4.out.thru0 hb5)
            have HRR5 := Lib.hid (HRR4.out.below hb5)
            have s0 := HQ5.out.cell 0
            rw [show (hdR L).cs[0]? = some (.int .i64 (hdR L).op) from rfl, HOP.out] at s0
            clear hb5 HPA4 HPB4 HBW4 HQ4 HRR4 r0
            by_cases hl : fieldsN b0 < n - 13
            · have HDR := Lib.hid (show decR L = (2, Rq.z) by rw [HD2.out, HE2.out h50 (by rw [if_neg HK3.out]; exact hl), if_pos (by decide)])
              have hl' : (fieldsN b0 : Int) < ((n - 13 : Nat) : Int) := by omega
              clear h50
              obtain ⟨x1, hsx, hpx, hbx⟩ := store_at (w := w) (r := Rq.z) (Nat.le_refl _) HPA5.out HBW5.out
              have HPX := Lib.hid hpx
              have HBX := Lib.hid hbx
              have hlz := run_ldQ HPB5.out
              clear hpx hbx
              go_wp2_with fail
              exact bodyPost_ret (v := .tuple #[.agg (Rq.z).cs, .int .i64 2]) (rdec_results _ rfl rfl HPX.out) rfl (DecP.mk HDR.out HBX.out)
            · have HD3 : Hid (decR L = _) := Lib.hid (by rw [HD2.out, HE3.out h50 (by rw [if_neg HK3.out]; exact hl), if_neg (by decide)])
              have hl' : ¬ (fieldsN b0 : Int) < ((n - 13 : Nat) : Int) := by omega
              have hl2 : ¬ (512 : Int) < ((n - 13 : Nat) : Int) := by omega
              clear h50
              have HWI := Lib.hid (fun (y : World) (v : Value) (hv : EOwn elU y v (numsR (L.drop 13) 0 (widL b0))) => with_any y (hdR L) b0 HOP.out HO.out.1 HO.out.2 (L.drop 13) v hv)
              rw [if_neg HK3.out] at HWI
              have HSU : Hid ((widL b0).sum ≤ n - 13) := Lib.hid (by rw [widL_sum]; exact HFN.out)
              have hldq := run_ldQ HQ5.out
              have hldd := run_ldQ (HQ5.out.drew)
              have qq := HQ5.out.cell 0
              rw [show (hdR L).cs[0]? = some (.int .i64 (hdR L).op) from rfl, HOP.out] at qq
              go_wp2_with fail
              go_cut [] (fun wx => Hid (Blk wx qb TQ (fdR b0 (L.drop 13) (hdR L)).cs ∧ Blk wx w.heap.size TQ Rq.z.cs ∧ Blk wx (w.heap.size + 1) TQ Rq.z.cs ∧ Below w.heap.size w wx))
              case first =>
                go_region_law (first | (go_simp; go_at_call 24; refine (fld_any b0 HO.out.1 HO.out.2 _).mono ?_; rintro e y1 ⟨g1, rfl, ho1, hg1, hb1⟩; have hx1 : Below (w5).heap.size w5 y1 := (by first | exact below_undrew hb1 | exact hb1); have hl1 := run_ldQ (HQ5.out.thru0 hx1); have HX1 := Lib.hid hx1; have HO1 := Lib.hid ho1; clear hb1 hx1 ho1 hg1) | (go_simp; go_at_call 23; refine (rnumbers_any _ A2 (n - 13) (c - 13) (L.drop 13) (widL b0) g1 HNC13.out HC13.out (HRR5.out.below HX1.out) HO1.out (widL_le _).2 HSU.out (widL_le _).1).mono ?_; rintro e y2 ⟨v2, rfl, hf2⟩; have hx2 := below_trans HX1.out hf2.bel; have hl2 := run_ldQ (HQ5.out.thru0 hx2); obtain ⟨A9, c9, hv9, _, _⟩ := hf2.own.slice; generalize (numsR (L.drop 13) 0 (widL b0)).length = n9 at hv9; subst hv9; have HX2 := Lib.hid hx2; have HF2 := Lib.hid hf2; clear hx2 hf2) | (go_simp; go_at_call 22; refine (HWI.out _ _ HF2.out.own).mono ?_; rintro e y3 ⟨rfl, hb3⟩; have hx3 := below_trans HX2.out hb3; obtain ⟨y4, hst4, hp4, hb4, hfar4⟩ := store_far (r := fdR b0 (L.drop 13) (hdR L)) HQW.out (HQ5.out.thru0 hx3) (HBW5.out.trans (hx3.mono HBW5.out.size)); have HP4 := Lib.hid hp4; have HB4 := Lib.hid hb4; have HA4 := Lib.hid (hfar4 _ _ _ HQN.out.1 (HPA5.out.thru0 hx3)); have HZ4 := Lib.hid (hfar4 _ _ _ HQN.out.2 (HPB5.out.thru0 hx3)); clear hp4 hb4 hfar4 hb3 hx3))
                all_goals
                  go_wp2
                  go_meet
                  exact Lib.hid ⟨HP4.out, HA4.out, HZ4.out, HB4.out⟩
              case rest =>
                rename World => y4
                have HP4 := Lib.hid hcut.out.1
                have HA4 := Lib.hid hcut.out.2.1
                have HZ4 := Lib.hid hcut.out.2.2.1
                have HB4 := Lib.hid hcut.out.2.2.2
                clear hcut
                have hl4 := run_ldQ HP4.out
                have HRG := Lib.hid (range_any y4 (fdR b0 (L.drop 13) (hdR L)))
                rw [range_fd b0 HO.out.1 HO.out.2 (L.drop 13) L HOP.out] at HRG
                go_wp2_with fail
                refine HRG.out.mono ?_
                rintro e y5 ⟨rfl, hb5⟩
                have HP5 := Lib.hid (HP4.out.thru0 hb5)
                have HA5 := Lib.hid (HA4.out.thru0 hb5)
                have HZ5 := Lib.hid (HZ4.out.thru0 hb5)
                have HB5 := Lib.hid (HB4.out.trans (hb5.mono HB4.out.size))
                clear hb5 hl4 HRG HP4 HA4 HZ4 HB4
                by_cases hbd : badR b0 (fdR b0 (L.drop 13) (hdR L)) = true
                · have HDR := Lib.hid (show decR L = (33, Rq.z) by rw [HD3.out, if_pos hbd])
                  rw [hbd]
                  clear hbd
                  obtain ⟨x1, hsx, hpx, hbx⟩ := store_at (w := w) (r := Rq.z) (Nat.le_refl _) HA5.out HB5.out
                  have HPX := Lib.hid hpx
                  have HBX := Lib.hid hbx
                  have hlz := run_ldQ HZ5.out
                  clear hpx hbx
                  go_wp2_with fail
                  exact bodyPost_ret (v := .tuple #[.agg (Rq.z).cs, .int .i64 33]) (rdec_results _ rfl rfl HPX.out) rfl (DecP.mk HDR.out HBX.out)
                · have HDR := Lib.hid (show decR L = (0, fdR b0 (L.drop 13) (hdR L)) by rw [HD3.out, if_neg hbd])
                  rw [show badR b0 (fdR b0 (L.drop 13) (hdR L)) = false by simpa using hbd]
                  clear hbd
                  obtain ⟨x1, hsx, hpx, hbx⟩ := store_at (w := w) (r := fdR b0 (L.drop 13) (hdR L)) (Nat.le_refl _) HA5.out HB5.out
                  have HPX := Lib.hid hpx
                  have HBX := Lib.hid hbx
                  have hlz := run_ldQ HP5.out
                  clear hpx hbx
                  go_wp2_with fail
                  exact bodyPost_ret (v := .tuple #[.agg (fdR b0 (L.drop 13) (hdR L)).cs, .int .i64 0]) (rdec_results _ rfl rfl HPX.out) rfl (DecP.mk HDR.out HBX.out)
    · rw [decide_eq_false (show ¬ (1 ≤ (b0 : Int) ∧ (b0 : Int) ≤ 19) by omega)] at HTH
      have HDR := Lib.hid (show decR L = (51, Rq.z) by rw [HD0.out, if_pos (show ¬ (1 ≤ (b0 : Int) ∧ (b0 : Int) ≤ 19) by omega)])
      clear hop HD0
      go_wp2_with fail
      refine HTH.out.mono ?_
      rintro e x0 ⟨rfl, hx0⟩
      subst hx0
      clear HTH
      obtain ⟨x1, hsx, hpx, hbx⟩ := store_at (w := w) (r := Rq.z) (Nat.le_refl _) HPA.out HBW.out
      have HPX := Lib.hid hpx
      have HBX := Lib.hid hbx
      have hlz := run_ldQ HPB.out
      clear hpx hbx
      go_wp2_with fail
      exact bodyPost_ret (v := .tuple #[.agg Rq.z.cs, .int .i64 51]) (rdec_results _ rfl rfl HPX.out) rfl (DecP.mk HDR.out HBX.out)
end
end Go.Proofs.Ythlmldbgohnpnaa
