/- Texts: Gr0, Gr1, Gr2, Gr3, Gr4. -/
import Derived.Test.YtmgamlpjgghieaaGreatDoorZbRuPM
import Derived.Test.YtmgamlpjgghieaaGreatDoorZbMapG
import Derived.DeepKeys4
import Derived.Deep.MidRow
import Derived.Test.YtmgamlpjgghieaaGreatDoorZbLocks
import Derived.Deep.RegionHeld3
import Derived.WalkKit
namespace Go.Proofs.YtmgamlpjgghieaaGreatDoor
section
set_option linter.unusedVariables false
set_option linter.unusedSimpArgs false
open Go.RowKit Go.Maps
theorem laidOutG : laidOutB Tryz.prog = true := by kernel_rfl
theorem keyKeyed : Keyed Tryz.prog 91 := Keyed.of_law (deep_law_laid laidOutG (m := 2) (by omega) (of_decide_eq_true (by kernel_rfl)) (by kernel_rfl) (by kernel_rfl))
def keyV (a b c : Int) : Value := .agg #[.int .i64 a, .int .i64 b, .int .i64 c]
theorem lits_int (d : Nat) (n : Int) (h : I64 n) : Tryz.prog.keyLits (d + 1) 3 [.int .i64 n] = some [.int .i64 n] := by
  have e1 : IntKind.i64.min = -9223372036854775808 := by kernel_rfl
  have e2 : IntKind.i64.max = 9223372036854775807 := by kernel_rfl
  have hw : (Lit.int .i64 n).wf = true := by
    unfold I64 at h
    simp only [Lit.wf, Bool.and_eq_true, decide_eq_true_eq]
    omega
  simp [Program.keyLits, Tryz.underlying3, hw]
theorem key_key (a b c : Int) (ha : I64 a) (hb : I64 b) (hc : I64 c) : ∃ kl, keyOf Tryz.prog 91 (keyV a b c) = some kl := by
  have hf : (Tryz.prog.keyType 91 && (keyV a b c).formed Tryz.prog 91) = true := by kernel_rfl
  have hs : 91 < Tryz.prog.types.size := of_decide_eq_true (by kernel_rfl)
  obtain ⟨m, hm⟩ : ∃ m, Tryz.prog.types.size = m + 1 := ⟨Tryz.prog.types.size - 1, by omega⟩
  have h1 : Tryz.prog.cellsOf 3 = 1 := by kernel_rfl
  have h3 : Tryz.prog.cellsOf 91 = 3 := by kernel_rfl
  have e : Tryz.prog.keyLits (Tryz.prog.types.size + 1) 91 (keyV a b c).cells.toList = some [.int .i64 a, .int .i64 b, .int .i64 c] := by
    rw [hm]
    have hc' : (keyV a b c).cells.toList = [.int .i64 a, .int .i64 b, .int .i64 c] := rfl
    rw [hc']
    unfold Program.keyLits
    rw [Tryz.underlying91]
    simp [h1, h3, List.range_succ, lits_int, ha, hb, hc]
  unfold keyOf
  rw [Tryz.underlying91]
  simp only [hf, if_true, e, Option.map_some]
  exact ⟨_, rfl⟩
section
variable {α : Type} {E : El α}
theorem run_eappr2 {w : World} {t t2 ty e2 : TypeId} (hE : E.Ok) (ht : Tryz.prog.underlying t = some (.slice E.T)) (ht2 : Tryz.prog.underlying t2 = some (.slice e2)) {v : Value} {L M : List α} {A : Option Addr} {c : Nat} (h : EOwn E w v L) (hM : Reads w w.heap.size E.k A M.length (E.encs M)) (hl : L.length + M.length ≤ maxLen) (hby2 : (L.length + M.length) * E.by_ ≤ 140737488355328) :
    ∃ v' w', (Builtin.append_ #[t, t2] ty #[v, .slice A M.length c]).run Tryz.prog w = .ok v' w' ∧ EApp E v (L ++ M) w v' w' := by
  obtain ⟨i0, hi, hz, hsz, hby⟩ := info_parts hE.info
  obtain ⟨v', w', hr, ho, hg, hb⟩ := run_append_any (P := Tryz.prog) w 0 t ty E.T i0 _ E.k E.by_ ht hi hz hsz hby hE.zs hE.pos v L.length (E.encs L) (h.own hE) w.heap.size A M.length c (E.encs M) hM (El.encs_one hE M) hl hby2 (Nat.zero_le _)
  have he : E.encs L ++ E.encs M = E.encs (L ++ M) := (El.encs_append _ _).symm
  have hn : L.length + M.length = (L ++ M).length := by simp
  rw [he, hn] at ho
  refine ⟨v', w', (append_types ht ht2 _ _ _).trans hr, ?_, hg, fun g e => ?_⟩
  · rcases ho.2 with ⟨h1, h2⟩ | ⟨g, cap, cur, hv, _, h1, h3, h4, h2, h5⟩
    · exact .inl ⟨h1, List.eq_nil_of_length_eq_zero h2⟩
    · exact .inr ⟨g, cap, hv, cur, h1, h2, h3, h4, h5⟩
  · rcases hb with hb | hb
    · exact .inl (hb ▸ e)
    · rw [hb] at e; simp at e; exact .inr e.symm
theorem wpList_eappr2 {w : World} {ops : Array Oper} {rest : List Oper} {o : Oper} {a : Act} {Q : Exit → Act → World → Prop} (hE : E.Ok) (hgd : o.guard = none) (s x : Operand) (t t2 : TypeId) {e2 : TypeId}
    (ho : o.op = .call { callee := .builtin .append, args := #[s, x], argTypes := #[t, t2] }) (ht : Tryz.prog.underlying t = some (.slice E.T)) (ht2 : Tryz.prog.underlying t2 = some (.slice e2)) (v : Value) (L M : List α) (A : Option Addr) (c : Nat) (hs : a.eval s = v) (hx : a.eval x = .slice A M.length c)
    (h : EOwn E w v L) (hM : Reads w w.heap.size E.k A M.length (E.encs M)) (hl : L.length + M.length ≤ maxLen) (hby2 : (L.length + M.length) * E.by_ ≤ 140737488355328)
    (hK : ∀ v' w', EApp E v (L ++ M) w v' w' → wpList Tryz.prog ops Q rest (a.put o.dst v') w') : wpList Tryz.prog ops Q (o :: rest) a w :=
  wpList_plain hgd fun _ hK' => by
    obtain ⟨v', w', hrun, hA⟩ := run_eappr2 (ty := o.type) (c := c) hE ht ht2 h hM hl hby2
    unfold Oper.wp execOp
    simp only [ho, resolve, invoke, builtin, Sem.run_bind, Sem.run_pure, Result.andThen_ok, List.map_toArray, List.map_cons, List.map_nil, hs, hx, hrun]
    exact hK' _ _ (hK v' w' hA)
end
theorem eqR_some (a : Addr) (n c : Nat) (w : World) : (binOp BinOp.eql 57 (.slice (some a) n c) (.slice none 0 0)).run Tryz.prog w = .ok (.bool false) w := by kernel_rfl
theorem eqR_none (n c : Nat) (w : World) : (binOp BinOp.eql 57 (.slice none n c) (.slice none 0 0)).run Tryz.prog w = .ok (.bool true) w := by kernel_rfl
section
attribute [local go_sem] eqR_some eqR_none
set_option maxRecDepth 100000 in
set_option maxHeartbeats 2000000 in
theorem cloneR_any (w : World) (v : Value) (L : List (Bx)) (h : ERd elR w v L) (hl : L.length * elR.by_ ≤ 140737488355328) :
    Calls Tryz.prog 32 #[v] w fun e w' => ∃ v2, e = .returned v2 ∧ EOwn elR w' v2 L ∧ (∀ i, v2.ownBlock = some i → w.heap.size ≤ i) ∧ Below w.heap.size w w' := by
  obtain ⟨A, c, rfl, h1, h2, h3⟩ := id h
  have hlm : L.length ≤ maxLen := by omega
  cases A with
  | none =>
    obtain rfl : L = [] := by
      cases L with
      | nil => rfl
      | cons x L => obtain ⟨g, o, e, _⟩ := h3 0 x rfl; cases e
    clear h h1 h2 h3 hl
    go_enter Tryz.func32, Tryz.ntmps32
    go_wp2_with fail
    go_ret
    exact ⟨_, rfl, EOwn.nil_ _, fun i hi => by simp [Value.ownBlock] at hi, Below.refl _ _⟩
  | some a =>
    have HR := Lib.hid h
    have HL := Lib.hid hl
    have HM := Lib.hid hlm
    clear h h1 h2 h3 hl hlm
    go_enter Tryz.func32, Tryz.ntmps32
    have HO0 := Lib.hid (EOwn.block (M := ([] : List (Bx))) elR_ok (Blk.new w 46 #[]) rfl (by simp))
    have HAL := Lib.hid (show Below w.heap.size w (w.alloc (.cells #[] 46)) from (Below.refl _ _).alloc (Nat.le_refl _) _)
    have HRD := Lib.hid ((HR.out.below HAL.out).reads elR_ok)
    go_upto_region 3 with (fail)
    go_wp2_with ((at_builtin; refine wpList_eappr2 (e2 := 46) elR_ok rfl _ _ 57 57 rfl (by kernel_rfl) (by kernel_rfl) (.slice (some ⟨w.heap.size, 0, none⟩) 0 0) [] L (some a) c rfl rfl HO0.out HRD.out (by have := HM.out; simpa using this) (by have := HL.out; simpa using this) ?_; rintro v' w1 ⟨hO, hG, hW⟩; obtain ⟨A9, c9, rfl, _, _⟩ := hO.slice; have HO := Lib.hid hO; have HG := Lib.hid hG; have HW := Lib.hid hW; clear hO hG hW))
    go_ret
    exact ⟨_, rfl, HO.out, fun i hi => by
      rcases HW.out i hi with h9 | h9
      · simp [Value.ownBlock] at h9; omega
      · simp at h9; omega, HAL.out.grown HG.out (by simp) (fun i hi => by simp [Value.ownBlock] at hi; omega)⟩
end
theorem eqRu_some (a : Addr) (n c : Nat) (w : World) : (binOp BinOp.eql 22 (.slice (some a) n c) (.slice none 0 0)).run Tryz.prog w = .ok (.bool false) w := by kernel_rfl
theorem eqRu_none (n c : Nat) (w : World) : (binOp BinOp.eql 22 (.slice none n c) (.slice none 0 0)).run Tryz.prog w = .ok (.bool true) w := by kernel_rfl
section
attribute [local go_sem] eqRu_some eqRu_none
set_option maxRecDepth 100000 in
set_option maxHeartbeats 2000000 in
theorem cloneRu_any (w : World) (v : Value) (L : List (Rc × RV)) (h : ERd elRu w v L) (hl : L.length * elRu.by_ ≤ 140737488355328) :
    Calls Tryz.prog 31 #[v] w fun e w' => ∃ v2, e = .returned v2 ∧ EOwn elRu w' v2 L ∧ (∀ i, v2.ownBlock = some i → w.heap.size ≤ i) ∧ Below w.heap.size w w' := by
  obtain ⟨A, c, rfl, h1, h2, h3⟩ := id h
  have hlm : L.length ≤ maxLen := by omega
  cases A with
  | none =>
    obtain rfl : L = [] := by
      cases L with
      | nil => rfl
      | cons x L => obtain ⟨g, o, e, _⟩ := h3 0 x rfl; cases e
    clear h h1 h2 h3 hl
    go_enter Tryz.func31, Tryz.ntmps31
    go_wp2_with fail
    go_ret
    exact ⟨_, rfl, EOwn.nil_ _, fun i hi => by simp [Value.ownBlock] at hi, Below.refl _ _⟩
  | some a =>
    have HR := Lib.hid h
    have HL := Lib.hid hl
    have HM := Lib.hid hlm
    clear h h1 h2 h3 hl hlm
    go_enter Tryz.func31, Tryz.ntmps31
    have HO0 := Lib.hid (EOwn.block (M := ([] : List (Rc × RV))) elRu_ok (Blk.new w 59 #[]) rfl (by simp))
    have HAL := Lib.hid (show Below w.heap.size w (w.alloc (.cells #[] 59)) from (Below.refl _ _).alloc (Nat.le_refl _) _)
    have HRD := Lib.hid ((HR.out.below HAL.out).reads elRu_ok)
    go_upto_region 3 with (fail)
    go_wp2_with ((at_builtin; refine wpList_eappr2 (e2 := 59) elRu_ok rfl _ _ 22 22 rfl (by kernel_rfl) (by kernel_rfl) (.slice (some ⟨w.heap.size, 0, none⟩) 0 0) [] L (some a) c rfl rfl HO0.out HRD.out (by have := HM.out; simpa using this) (by have := HL.out; simpa using this) ?_; rintro v' w1 ⟨hO, hG, hW⟩; obtain ⟨A9, c9, rfl, _, _⟩ := hO.slice; have HO := Lib.hid hO; have HG := Lib.hid hG; have HW := Lib.hid hW; clear hO hG hW))
    go_ret
    exact ⟨_, rfl, HO.out, fun i hi => by
      rcases HW.out i hi with h9 | h9
      · simp [Value.ownBlock] at h9; omega
      · simp at h9; omega, HAL.out.grown HG.out (by simp) (fun i hi => by simp [Value.ownBlock] at hi; omega)⟩
end
end
section
set_option linter.unusedVariables false
set_option linter.unusedSimpArgs false
open Go.RowKit Go.Maps
theorem encs_setBx (L : List (Rc × RV)) : ∀ (i : Nat) (r : Rc) (x x' : RV), L[i]? = some (r, x) → (elRu.encs L).set (i * 7 + 5) x'.v = elRu.encs (L.set i (r, x')) := by
  induction L with
  | nil => intro i r x x' h; simp at h
  | cons a L ih =>
    intro i r x x' h
    have hl : (elRu.enc a).length = 7 := rfl
    have e : ∀ (b : Rc × RV) (M : List (Rc × RV)), elRu.encs (b :: M) = elRu.enc b ++ elRu.encs M := fun b M => by simp [El.encs]
    cases i with
    | zero =>
      simp only [List.getElem?_cons_zero, Option.some.injEq] at h
      subst h
      rw [List.set_cons_zero, e, e, List.set_append_left _ _ (by rw [hl]; omega)]
      rfl
    | succ i =>
      simp only [List.getElem?_cons_succ] at h
      rw [List.set_cons_succ, e, e, List.set_append_right _ _ (by rw [hl]; omega), hl, show (i + 1) * 7 + 5 - 7 = i * 7 + 5 by omega, ih i r x x' h]
theorem ERow.setBx {w : World} {g cap : Nat} {L : List (Rc × RV)} {i : Nat} {r : Rc} {x x' : RV} (h : ERow elRu w g cap L) (hi : L[i]? = some (r, x)) : ERow elRu (w.setCell ⟨g, i * 7 + 5, none⟩ x'.v) g cap (L.set i (r, x')) := by
  obtain ⟨cur, h1, h2, h3, h4, h5⟩ := h
  refine ⟨cur.setIfInBounds (i * 7 + 5) x'.v, h1.set_ _ _, by simp [h2], by simpa using h3, h4, ?_⟩
  rw [Array.toList_setIfInBounds, List.length_set, List.take_set, h5]
  exact encs_setBx L i r x x' hi
/-- A patch. -/
structure Pa where
  x0 : Int
  y0 : Int
  x1 : Int
  y1 : Int
  z : Int
def elPa : El Pa := { T := 48, k := 5, by_ := 40, z := .agg #[.int .i64 0, .int .i64 0, .int .i64 0, .int .i64 0, .int .i64 0], enc := fun x => [.int .i64 x.x0, .int .i64 x.y0, .int .i64 x.x1, .int .i64 x.y1, .int .i64 x.z] }
theorem elPa_ok : elPa.Ok := ⟨by decide, fun _ => rfl, fun x u hu => by simp only [elPa, List.mem_cons, List.not_mem_nil, or_false] at hu; rcases hu with rfl | rfl | rfl | rfl | rfl <;> rfl, by kernel_rfl, rfl, by decide⟩
/-- Slices that begin a block, told apart. -/
def slR (v : Value) : Option (DataW Unit × List MemPlace) :=
  match v with
  | .slice none 0 0 => some (.lit (.string []), [])
  | .slice (some ⟨b, 0, none⟩) n c => some (.agg [.lit (.int .i64 (b : Nat)), .lit (.int .i64 (n : Nat)), .lit (.int .i64 (c : Nat))], [])
  | _ => none
def slF (v : Value) : DataW Unit :=
  match v with
  | .slice (some ⟨b, 0, none⟩) n c => .agg [.lit (.int .i64 (b : Nat)), .lit (.int .i64 (n : Nat)), .lit (.int .i64 (c : Nat))]
  | _ => .lit (.string [])
def slG (v : Value) : Prop := v = .slice none 0 0 ∨ ∃ b n c, v = .slice (some ⟨b, 0, none⟩) n c
theorem slR_inv (v u : Value) (ps : List MemPlace) (hu : slG u) (h : slR v = some (slF u, ps)) : v = u := by
  unfold slR at h
  rcases hu with rfl | ⟨b, n, c, rfl⟩
  · split at h
    · rfl
    · simp [slF] at h
    · cases h
  · split at h
    · simp [slF] at h
    · simp [slF] at h
      obtain ⟨⟨h1, h2, h3⟩, _⟩ := h
      have e1 := Int.ofNat.inj h1
      have e2 := Int.ofNat.inj h2
      have e3 := Int.ofNat.inj h3
      subst e1; subst e2; subst e3
      rfl
    · cases h
def slC : Cdg := ⟨slR, slF, slG, fun v h => by rcases h with rfl | ⟨b, n, c, rfl⟩ <;> rfl, slR_inv⟩
/-- A table: its rules, each row of its own; its map of the patches that are known. -/
structure TabAt (PN : List Rc → List Pa) (B : Nat) (w : World) (t m : Nat) (rv : Value) (acc : List (Rc × RV)) (n : Nat) (H : Lit → Option Value) (lk : Int) : Prop where
  blk : Blk w t 75 #[rv, .int .i32 lk, .int .u32 0, .map (some m)]
  row : EOwn elRu w rv acc
  rowB : ∀ i, rv.ownBlock = some i → B ≤ i
  bxs : ∀ x ∈ acc, EOwn elR w x.2.v x.1.bx ∧ ∀ i, x.2.v.ownBlock = some i → B ≤ i
  map : GMap 91 slC (.slice none 0 0) w m n H
  kn : ∀ kl v, H kl = some v → ∃ ro ti la, keyOf Tryz.prog 91 (keyV ro ti la) = some kl ∧ EOwn elPa w v (PN ((acc.filter fun x => forB x.1 ro ti la).map (·.1))) ∧ ∀ i, v.ownBlock = some i → B ≤ i
  lo : B ≤ t ∧ B ≤ m
/-- What New tells. -/
def NewP (acc : List (Rc × RV)) (w : World) (e : Ending) (w' : World) : Prop :=
  Below w.heap.size w w' ∧ if 32 < acc.length then e = .returned (.tuple #[.pointer none, .int .i64 2]) else if rursB acc = true then ∃ t m rv acc', e = .returned (.tuple #[ptr t, .int .i64 0]) ∧ acc'.map (·.1) = acc.map (·.1) ∧ ∀ PN, TabAt PN w.heap.size w' t m rv acc' 0 (fun _ => none) 0 else e = .returned (.tuple #[.pointer none, .int .i64 1])
set_option maxRecDepth 100000 in
set_option maxHeartbeats 8000000 in
theorem new_any (w : World) (v : Value) (acc : List (Rc × RV)) (h : RRd w v acc) (hby : ∀ x ∈ acc, x.1.bx.length * elR.by_ ≤ 140737488355328) :
    Calls Tryz.prog 10 #[v] w (NewP acc w) := by
  obtain ⟨A1, c1, rfl, hl1, hl2, -⟩ := id h.1
  have HR := Lib.hid (rurights_any w _ acc h)
  have H1 := Lib.hid h
  have HBY := Lib.hid hby
  clear h hl1 hl2 hby
  by_cases h32 : 32 < acc.length
  · have hi : (32 : Int) < (acc.length : Int) := by omega
    go_enter Tryz.func10, Tryz.ntmps10
    go_wp2_with fail
    go_ret2
    unfold NewP
    exact ⟨Below.refl _ _, by rw [if_pos h32]; rfl⟩
  · have hi : ¬ (32 : Int) < (acc.length : Int) := by omega
    have HN := Lib.hid h32
    cases hA : rursB acc with
    | false =>
      rw [hA] at HR
      have HA := Lib.hid hA
      clear hA
      go_enter Tryz.func10, Tryz.ntmps10
      go_wp2_with fail
      refine HR.out.mono ?_
      rintro e w1 ⟨rfl, hb⟩
      have HB := Lib.hid hb
      clear hb
      go_wp2_with fail
      go_ret2
      unfold NewP
      rw [HA.out]
      exact ⟨HB.out, by rw [if_neg HN.out]; rfl⟩
    | true =>
      rw [hA] at HR
      have HA := Lib.hid hA
      clear hA
      go_enter Tryz.func10, Tryz.ntmps10
      go_wp2_with fail
      refine HR.out.mono ?_
      rintro e w1 ⟨rfl, hb⟩
      have HB := Lib.hid hb
      have HCL := Lib.hid (cloneRu_any w1 _ acc (H1.out.1.below hb) (by have : elRu.by_ = 72 := rfl; rw [this]; omega))
      clear hb HR
      go_wp2_with fail
      refine HCL.out.mono ?_
      rintro e w2 ⟨v2, rfl, hO, hOo, hb⟩
      obtain ⟨A2, c2, rfl, -, -⟩ := hO.slice
      have HB2 := Lib.hid (HB.out.trans (hb.mono HB.out.size))
      have HW1 := Lib.hid HB.out.size
      have HO2 := Lib.hid hO
      have HOO := Lib.hid (show ∀ i, (Value.slice A2 acc.length c2).ownBlock = some i → w.heap.size ≤ i from fun i hi => Nat.le_trans HB.out.size (hOo i hi))
      clear hb hO hOo HCL HB
      go_wp2_with fail
      go_loopw [17] (fun i wr => ∃ (j : Nat) (L : List (Rc × RV)), j ≤ acc.length ∧ i = .int .i64 j ∧ Hid (Below w.heap.size w wr ∧ EOwn elRu wr (.slice A2 acc.length c2) L ∧ L.map (·.1) = acc.map (·.1) ∧ (∀ i, j ≤ i → L[i]? = acc[i]?) ∧ ∀ i x, i < j → L[i]? = some x → EOwn elR wr x.2.v x.1.bx ∧ ∀ b, x.2.v.ownBlock = some b → w.heap.size ≤ b)) (fun i _ => acc.length - (intOf i).toNat)
      case atStart => exact ⟨0, acc, by omega, rfl, Lib.hid ⟨HB2.out, HO2.out, rfl, fun _ _ => rfl, fun i x h => by omega⟩⟩
      case round =>
        rename_i wr
        clear HB2 HO2
        obtain ⟨j, L, hj, rfl, HS⟩ := hrel
        have hLl : L.length = acc.length := by have := congrArg List.length HS.out.2.2.1; simpa using this
        by_cases hlt : j < acc.length
        · have hki : (j : Int) < (acc.length : Int) := by omega
          have hkb : (j : Int) < 32 := by have := HN.out; omega
          have hx : L[j]? = some acc[j] := (HS.out.2.2.2.1 j (Nat.le_refl _)).trans (List.getElem?_eq_getElem hlt)
          have HXB := Lib.hid ((H1.out.2 _ (List.getElem_mem hlt)).below HS.out.1)
          have HXY := Lib.hid (HBY.out _ (List.getElem_mem hlt))
          have HME := Lib.hid (show acc[j] ∈ acc from List.getElem_mem hlt)
          have HTB := Lib.hid (show ∀ i, j ≤ i → L[i]? = acc[i]? from HS.out.2.2.2.1)
          have hxa : acc[j]? = some acc[j] := List.getElem?_eq_getElem hlt
          have HXA := Lib.hid hxa
          clear hxa
          generalize acc[j] = a at *
          obtain ⟨r, xA, xn, xc⟩ := a
          obtain ⟨g, cap, hv2, hrow⟩ : ∃ g cap, Value.slice A2 acc.length c2 = .slice (some ⟨g, 0, none⟩) L.length cap ∧ ERow elRu wr g cap L := by
            rcases HS.out.2.1 with ⟨h9, h8⟩ | h9
            · rw [h8] at hx; simp at hx
            · exact h9
          obtain ⟨rfl, -, rfl⟩ : A2 = some ⟨g, 0, none⟩ ∧ acc.length = L.length ∧ c2 = cap := by simpa using hv2
          have HROW := Lib.hid hrow
          have HGB := Lib.hid (HOO.out g rfl)
          obtain ⟨-, g1, hg1, hc1⟩ := HS.out.2.1.cell elRu_ok hx
          obtain rfl : g = g1 := by simpa using hg1
          have a0 : wr.cell? ⟨g, j * 7, none⟩ = some (.int .i64 r.k) := hc1 0 _ rfl
          have a1 : wr.cell? ⟨g, j * 7 + 1, none⟩ = some (.int .i64 r.roles) := hc1 1 _ rfl
          have a2 : wr.cell? ⟨g, j * 7 + 2, none⟩ = some (.int .i64 r.lo) := hc1 2 _ rfl
          have a3 : wr.cell? ⟨g, j * 7 + 3, none⟩ = some (.int .i64 r.hi) := hc1 3 _ rfl
          have a4 : wr.cell? ⟨g, j * 7 + 4, none⟩ = some (.int .i64 r.labels) := hc1 4 _ rfl
          have a5 : wr.cell? ⟨g, j * 7 + 5, none⟩ = some (.slice xA xn xc) := hc1 5 _ rfl
          have a6 : wr.cell? ⟨g, j * 7 + 6, none⟩ = some (.int .i64 r.zoom) := hc1 6 _ rfl
          have HX := Lib.hid hx
          have HLL := Lib.hid hLl
          clear hc1 hrow hv2 hg1 hx hLl
          go_upto_region 9 with fail
          have hal : Below wr.heap.size wr (wr.alloc (.cells #[.int .i64 r.k, .int .i64 r.roles, .int .i64 r.lo, .int .i64 r.hi, .int .i64 r.labels, .slice xA xn xc, .int .i64 r.zoom] 59)) := (Below.refl _ _).alloc (Nat.le_refl _) _
          have HK := Lib.hid (Blk.new wr 59 #[.int .i64 r.k, .int .i64 r.roles, .int .i64 r.lo, .int .i64 r.hi, .int .i64 r.labels, .slice xA xn xc, .int .i64 r.zoom])
          have HAL := Lib.hid hal
          have HCL := Lib.hid (cloneR_any _ _ r.bx (HXB.out.below hal) HXY.out)
          simp only [RV.v] at HCL
          clear hal a0 a1 a2 a3 a4 a5 a6
          generalize (wr.alloc (.cells #[.int .i64 r.k, .int .i64 r.roles, .int .i64 r.lo, .int .i64 r.hi, .int .i64 r.labels, .slice xA xn xc, .int .i64 r.zoom] 59)) = W3 at *
          have k5 := HK.out.cell 5
          simp only [List.getElem?_toArray, List.getElem?_cons_zero, List.getElem?_cons_succ] at k5
          go_wp2_with fail
          refine HCL.out.mono ?_
          rintro e w4 ⟨v4, rfl, hO4, hO4o, hb4⟩
          obtain ⟨A4, c4, rfl, -, -⟩ := hO4.slice
          have HB4 := Lib.hid (HAL.out.trans (hb4.mono HAL.out.size))
          have HR4 := Lib.hid (HROW.out.keep (HB4.out.block g HROW.out.lt))
          have HO4 := Lib.hid hO4
          have HOO4 := Lib.hid (show ∀ i, (Value.slice A4 r.bx.length c4).ownBlock = some i → wr.heap.size ≤ i from fun i hi => Nat.le_trans HAL.out.size (hO4o i hi))
          clear hO4 hO4o hb4 HCL HK HAL k5
          have hc5 : w4.cell? ⟨g, j * 7 + 5, none⟩ = some (.slice xA xn xc) := by
            obtain ⟨-, g1, hg1, hc1⟩ := (show EOwn elRu w4 (.slice (some ⟨g, 0, none⟩) L.length c2) L from .inr ⟨g, c2, rfl, HR4.out⟩).cell elRu_ok HX.out
            obtain rfl : g = g1 := by simpa using hg1
            exact hc1 5 _ rfl
          have hf5 : w4.frozen? ⟨g, j * 7 + 5, none⟩ = false := by
            obtain ⟨cur, h9, _⟩ := HR4.out
            exact h9.frozen _
          go_wp2_with fail
          have HN2 := Lib.hid (show Below w.heap.size w (w4.setCell ⟨g, j * 7 + 5, none⟩ (.slice A4 r.bx.length c4)) ∧ EOwn elRu (w4.setCell ⟨g, j * 7 + 5, none⟩ (.slice A4 r.bx.length c4)) (.slice (some ⟨g, 0, none⟩) acc.length c2) (L.set j (r, ⟨A4, r.bx.length, c4⟩)) ∧ (L.set j (r, (⟨A4, r.bx.length, c4⟩ : RV))).map (·.1) = acc.map (·.1) ∧ (∀ i, j + 1 ≤ i → (L.set j (r, (⟨A4, r.bx.length, c4⟩ : RV)))[i]? = acc[i]?) ∧ ∀ i x, i < j + 1 → (L.set j (r, (⟨A4, r.bx.length, c4⟩ : RV)))[i]? = some x → EOwn elR (w4.setCell ⟨g, j * 7 + 5, none⟩ (.slice A4 r.bx.length c4)) x.2.v x.1.bx ∧ ∀ b, x.2.v.ownBlock = some b → w.heap.size ≤ b from by
            have hset := HR4.out.setBx (x' := ⟨A4, r.bx.length, c4⟩) HX.out
            have hjl : j < L.length := by have := HLL.out; omega
            refine ⟨(HS.out.1.trans (HB4.out.mono HS.out.1.size)).setCell (p := ⟨g, j * 7 + 5, none⟩) HGB.out _, .inr ⟨g, c2, by rw [List.length_set, HLL.out], hset⟩, ?_, fun i hi => ?_, fun i x hi hx' => ?_⟩
            · rw [List.map_set, ← HS.out.2.2.1]
              apply List.ext_getElem?
              intro i
              rw [List.getElem?_set]
              split
              · rename_i hij
                subst hij
                rw [List.getElem?_map, HX.out]
                simp [hjl]
              · rfl
            · rw [List.getElem?_set_ne (by omega)]
              exact HTB.out i (by omega)
            · have hgne : ∀ b (y : Rc × RV), EOwn elR w4 y.2.v y.1.bx → y.2.v.ownBlock = some b → b ≠ g := fun b y ho hb e => by
                rcases ho with ⟨h9, _⟩ | ⟨g9, cap9, h9, hr9⟩
                · rw [h9] at hb; cases hb
                · rw [h9] at hb
                  have e9 : g9 = b := by simpa [Value.ownBlock] using hb
                  obtain ⟨cur, hcur, _⟩ := hr9
                  obtain ⟨cur2, hcur2, _⟩ := HR4.out
                  exact Blk.ne_ hcur hcur2 (by decide) (e9.trans e)
              by_cases hij : i = j
              · subst hij
                rw [List.getElem?_set_self hjl] at hx'
                cases hx'
                refine ⟨HO4.out.keep fun b hb hb' => Below.heap_setCell _ ⟨g, _, none⟩ _ _ (hgne b (r, ⟨A4, r.bx.length, c4⟩) HO4.out hb'), fun b hb' => Nat.le_trans HS.out.1.size (HOO4.out b hb')⟩
              · rw [List.getElem?_set_ne (by omega)] at hx'
                obtain ⟨h8, h9⟩ := HS.out.2.2.2.2 i x (by omega) hx'
                have h7 := h8.below HB4.out
                exact ⟨h7.keep fun b hb hb' => Below.heap_setCell _ ⟨g, _, none⟩ _ _ (hgne b x h7 hb'), h9⟩)
          clear hc5 hf5 HS HR4 HO4
          go_wp2_with fail
          go_roundw
          case rel => exact ⟨j + 1, _, by omega, by go_num, HN2⟩
          case measure => simp [intOf]; omega
        · obtain rfl : j = acc.length := by omega
          have hmm := @run_makeMap Tryz.prog
          have HFIN := Lib.hid (show ∀ x ∈ L, EOwn elR wr x.2.v x.1.bx ∧ ∀ b, x.2.v.ownBlock = some b → w.heap.size ≤ b from fun x hx => by
            obtain ⟨i, hi⟩ := List.getElem?_of_mem hx
            exact HS.out.2.2.2.2 i x (by have := (List.getElem?_eq_some_iff.1 hi).1; omega) hi)
          go_wp2_with fail
          go_ret2
          unfold NewP
          rw [HA.out, if_neg HN.out, if_pos rfl]
          have hal : Below wr.heap.size wr ((wr.alloc (.map #[] 0)).alloc (.cells #[.slice A2 acc.length c2, .int .i32 0, .int .u32 0, .map (some wr.heap.size)] 75)) := ((Below.refl _ _).alloc (Nat.le_refl _) _).alloc (by simp) _
          have hsz := HS.out.1.size
          refine ⟨HS.out.1.trans (hal.mono hsz), wr.heap.size + 1, wr.heap.size, .slice A2 acc.length c2, L, rfl, HS.out.2.2.1, fun PN => ⟨Blk.newAt (by simp), HS.out.2.1.below hal, HOO.out, fun x hx => ⟨(HFIN.out x hx).1.below hal, (HFIN.out x hx).2⟩, (GMap.made keyKeyed wr).alloc _, fun kl v h => (by cases h), by omega, hsz⟩⟩
end
section
set_option linter.unusedVariables false
set_option linter.unusedSimpArgs false
open Go.RowKit Go.Maps
set_option maxRecDepth 100000 in
set_option maxHeartbeats 8000000 in
theorem rulesfor_any {PN : List Rc → List Pa} {B : Nat} {w : World} {t m : Nat} {rv : Value} {acc : List (Rc × RV)} {n : Nat} {H : Lit → Option Value} {lk : Int} (h : TabAt PN B w t m rv acc n H lk) (hl : acc.length ≤ 32) (ro ti la : Int) :
    Calls Tryz.prog 58 #[ptr t, keyV ro ti la] w fun e w' => ∃ v, e = .returned v ∧ EOwn elRu w' v (acc.filter fun x => forB x.1 ro ti la) ∧ (∀ i, v.ownBlock = some i → w.heap.size ≤ i) ∧ Below w.heap.size w w' := by
  obtain ⟨A2, c2, rfl, -, -⟩ := h.row.slice
  have HA := Lib.hid (show Below w.heap.size w (w.alloc (.cells #[.int .i64 ro, .int .i64 ti, .int .i64 la] 91)) from (Below.refl _ _).alloc (Nat.le_refl _) _)
  have HK := Lib.hid (Blk.new w 91 #[.int .i64 ro, .int .i64 ti, .int .i64 la])
  have HTB := Lib.hid h.blk
  have HRW := Lib.hid h.row
  have HBX := Lib.hid (show ∀ x ∈ acc, ∀ W, Below w.heap.size w W → ERd elR W x.2.v x.1.bx from fun x hx W hW => ERd.of_own elR_ok ((h.bxs x hx).1.below hW))
  have HL := Lib.hid hl
  clear h hl
  simp only [keyV]
  go_enter Tryz.func58, Tryz.ntmps58
  go_upto_region 2 with fail
  have t0 : (w.alloc (.cells #[.int .i64 ro, .int .i64 ti, .int .i64 la] 91)).cell? ⟨t, 0, none⟩ = some (.slice A2 acc.length c2) := (HTB.out.alloc _).cell 0
  go_wp2_with fail
  go_loopw [5, 13] (fun v i wr => ∃ (j : Nat) (v0 : Value), j ≤ acc.length ∧ v = v0 ∧ i = .int .i64 j ∧ Hid (Below w.heap.size w wr ∧ Blk wr w.heap.size 91 #[.int .i64 ro, .int .i64 ti, .int .i64 la] ∧ EOwn elRu wr v0 ((acc.take j).filter fun x => forB x.1 ro ti la) ∧ ∀ i, v0.ownBlock = some i → w.heap.size < i)) (fun _ i _ => acc.length - (intOf i).toNat)
  case atStart => exact ⟨0, _, by omega, rfl, rfl, Lib.hid ⟨HA.out, HK.out, EOwn.nil_ _, fun i hi => by simp [Value.ownBlock] at hi⟩⟩
  case round =>
    rename_i wr
    clear HA HK t0
    obtain ⟨j, v0, hj, hv, rfl, HS⟩ := hrel
    have hv' := hv.symm
    clear hv
    subst hv'
    by_cases hlt : j < acc.length
    · have hki : (j : Int) < (acc.length : Int) := by omega
      have hkb : (j : Int) < 32 := by have := HL.out; omega
      have hx : acc[j]? = some acc[j] := List.getElem?_eq_getElem hlt
      have HTK := Lib.hid (show (acc.take (j + 1)).filter (fun x => forB x.1 ro ti la) = (acc.take j).filter (fun x => forB x.1 ro ti la) ++ if forB (acc[j]).1 ro ti la = true then [acc[j]] else [] from by
        rw [← List.take_append_getElem hlt, List.filter_append]
        cases hf : forB (acc[j]).1 ro ti la <;> simp [hf])
      have HLE := Lib.hid (show ((acc.take j).filter fun x => forB x.1 ro ti la).length ≤ 1000000 from by
        have h1 := List.length_filter_le (fun x : Rc × RV => forB x.1 ro ti la) (acc.take j)
        have h2 : (acc.take j).length ≤ 32 := by rw [List.length_take]; have := HL.out; omega
        omega)
      have HXB := Lib.hid (HBX.out _ (List.getElem_mem hlt))
      obtain ⟨-, g, rfl, hc1⟩ := (HRW.out.below HS.out.1).cell elRu_ok hx
      generalize acc[j] = a at *
      obtain ⟨r, xA, xn, xc⟩ := a
      simp only [RV.v] at HXB
      have a0 : wr.cell? ⟨g, j * 7, none⟩ = some (.int .i64 r.k) := hc1 0 _ rfl
      have a1 : wr.cell? ⟨g, j * 7 + 1, none⟩ = some (.int .i64 r.roles) := hc1 1 _ rfl
      have a2 : wr.cell? ⟨g, j * 7 + 2, none⟩ = some (.int .i64 r.lo) := hc1 2 _ rfl
      have a3 : wr.cell? ⟨g, j * 7 + 3, none⟩ = some (.int .i64 r.hi) := hc1 3 _ rfl
      have a4 : wr.cell? ⟨g, j * 7 + 4, none⟩ = some (.int .i64 r.labels) := hc1 4 _ rfl
      have a5 : wr.cell? ⟨g, j * 7 + 5, none⟩ = some (.slice xA xn xc) := hc1 5 _ rfl
      have a6 : wr.cell? ⟨g, j * 7 + 6, none⟩ = some (.int .i64 r.zoom) := hc1 6 _ rfl
      clear hc1 hx
      go_upto_region 5 with fail
      have hal : Below wr.heap.size wr (wr.alloc (.cells #[.int .i64 r.k, .int .i64 r.roles, .int .i64 r.lo, .int .i64 r.hi, .int .i64 r.labels, .slice xA xn xc, .int .i64 r.zoom] 59)) := (Below.refl _ _).alloc (Nat.le_refl _) _
      have HKR := Lib.hid (Blk.new wr 59 #[.int .i64 r.k, .int .i64 r.roles, .int .i64 r.lo, .int .i64 r.hi, .int .i64 r.labels, .slice xA xn xc, .int .i64 r.zoom])
      have HB3 := Lib.hid (HS.out.1.trans (hal.mono HS.out.1.size))
      have HK3 := Lib.hid (Blk.thru0 HS.out.2.1 hal)
      have HO3 := Lib.hid (HS.out.2.2.1.below hal)
      have HOO := Lib.hid HS.out.2.2.2
      have HFO := Lib.hid (for_any _ r _ ro ti la (HXB.out _ HB3.out))
      simp only [ruV] at HFO
      clear hal a0 a1 a2 a3 a4 a5 a6 HS
      generalize (wr.alloc (.cells #[.int .i64 r.k, .int .i64 r.roles, .int .i64 r.lo, .int .i64 r.hi, .int .i64 r.labels, .slice xA xn xc, .int .i64 r.zoom] 59)) = W3 at *
      generalize wr.heap.size = tr at *
      have r0 := HKR.out.cell 0
      have r1 := HKR.out.cell 1
      have r2 := HKR.out.cell 2
      have r3 := HKR.out.cell 3
      have r4 := HKR.out.cell 4
      have r5 := HKR.out.cell 5
      have r6 := HKR.out.cell 6
      have q0 := HK3.out.cell 0
      have q1 := HK3.out.cell 1
      have q2 := HK3.out.cell 2
      simp only [List.getElem?_toArray, List.getElem?_cons_zero, List.getElem?_cons_succ] at r0 r1 r2 r3 r4 r5 r6 q0 q1 q2
      obtain ⟨bf, hbf⟩ : ∃ bf, forB r ro ti la = bf := ⟨_, rfl⟩
      simp only [hbf] at HFO HTK
      clear hbf
      go_wp2_with fail
      refine HFO.out.mono ?_
      rintro e w4 ⟨rfl, hb⟩
      have HB4 := Lib.hid (HB3.out.trans (hb.mono HB3.out.size))
      have HK4 := Lib.hid (Blk.thru0 HK3.out hb)
      have HR4 := Lib.hid (Blk.thru0 HKR.out hb)
      have HO4 := Lib.hid (HO3.out.below hb)
      clear hb HFO HB3 HK3 HKR HO3 r0 r1 r2 r3 r4 r5 r6 q0 q1 q2
      cases bf with
      | false =>
        have HN := Lib.hid (show EOwn elRu w4 v0 ((acc.take (j + 1)).filter fun x => forB x.1 ro ti la) from by rw [HTK.out]; simpa using HO4.out)
        go_wp2_with fail
        go_roundw
        case rel => exact ⟨j + 1, v0, by omega, rfl, by go_num, Lib.hid ⟨HB4.out, HK4.out, HN.out, HOO.out⟩⟩
        case measure => simp [intOf]; omega
      | true =>
        have r0 := HR4.out.cell 0
        have r1 := HR4.out.cell 1
        have r2 := HR4.out.cell 2
        have r3 := HR4.out.cell 3
        have r4 := HR4.out.cell 4
        have r5 := HR4.out.cell 5
        have r6 := HR4.out.cell 6
        simp only [List.getElem?_toArray, List.getElem?_cons_zero, List.getElem?_cons_succ] at r0 r1 r2 r3 r4 r5 r6
        obtain ⟨A5, c5, rfl, -, -⟩ := HO4.out.slice
        generalize hF : (acc.take j).filter (fun x => forB x.1 ro ti la) = F at *
        go_wp2_with ((at_builtin; refine wpList_epush elRu_ok rfl _ _ 22 rfl (by kernel_rfl) (.slice A5 F.length c5) F (r, (⟨xA, xn, xc⟩ : RV)) w4.heap.size 1 rfl rfl (HO4.out.alloc _) (fun j u hu => new_cell w4 _ _ j (by simpa [elRu, rucells, RV.v] using hu)) HLE.out ?_; intro v' w5 hA))
        have hAL : Below w4.heap.size w4 (w4.alloc (.cells #[.int .i64 r.k, .int .i64 r.roles, .int .i64 r.lo, .int .i64 r.hi, .int .i64 r.labels, .slice xA xn xc, .int .i64 r.zoom] 59)) := (Below.refl _ _).alloc (Nat.le_refl _) _
        have hlt4 := HK4.out.lt
        have hsz : w.heap.size + 1 ≤ (w4.alloc (.cells #[.int .i64 r.k, .int .i64 r.roles, .int .i64 r.lo, .int .i64 r.hi, .int .i64 r.labels, .slice xA xn xc, .int .i64 r.zoom] 59)).heap.size := by have := hAL.size; omega
        have hbl := hA.below hsz (fun i hi => by have := HOO.out i hi; omega)
        have HN := Lib.hid (show Below w.heap.size w w5 ∧ Blk w5 w.heap.size 91 #[.int .i64 ro, .int .i64 ti, .int .i64 la] ∧ EOwn elRu w5 v' ((acc.take (j + 1)).filter fun x => forB x.1 ro ti la) ∧ ∀ i, v'.ownBlock = some i → w.heap.size < i from ⟨(HB4.out.trans (hAL.mono HB4.out.size)).trans (hbl.1.mono (by omega)), (HK4.out.alloc _).below hbl.1 (by omega), by rw [HTK.out]; exact hA.own, fun i hi => hbl.2 i hi⟩)
        clear hA hAL hlt4 hsz hbl r0 r1 r2 r3 r4 r5 r6
        go_wp2_with fail
        go_roundw
        case rel => exact ⟨j + 1, _, by omega, rfl, by go_num, HN⟩
        case measure => simp [intOf]; omega
    · obtain rfl : j = acc.length := by omega
      have HO := Lib.hid (show EOwn elRu wr v0 (acc.filter fun x => forB x.1 ro ti la) from by have := HS.out.2.2.1; rwa [List.take_length] at this)
      have HOO := Lib.hid HS.out.2.2.2
      have HB := Lib.hid HS.out.1
      clear HS
      go_wp2_with fail
      go_ret
      exact ⟨_, rfl, HO.out, fun i hi => Nat.le_of_lt (HOO.out i hi), HB.out⟩
end
section
set_option linter.unusedVariables false
set_option linter.unusedSimpArgs false
open Go.RowKit Go.Maps Go.MuLone
theorem EOwn.offB {α : Type} {E : El α} {w : World} {v : Value} {L : List α} {t : Nat} {T' : TypeId} {cs : Array Value} (h : EOwn E w v L) (hb : Blk w t T' cs) (hne : E.T ≠ T') (i : Nat) (u : Value) : EOwn E (w.setCell ⟨t, i, none⟩ u) v L := h.keep fun b hl hb' => Below.heap_setCell _ ⟨t, i, none⟩ _ _ (by
  rcases h with ⟨h9, _⟩ | ⟨g, cap, h9, hr⟩
  · rw [h9] at hb'; cases hb'
  · rw [h9] at hb'
    obtain rfl : g = b := by simpa [Value.ownBlock] using hb'
    obtain ⟨cur, hcur, _⟩ := hr
    exact Blk.ne_ hcur hb hne)
section
variable {PN : List Rc → List Pa} {B : Nat} {w : World} {t m : Nat} {rv : Value} {acc : List (Rc × RV)} {n : Nat} {H : Lit → Option Value} {lk : Int}
theorem TabAt.tm (h : TabAt PN B w t m rv acc n H lk) : t ≠ m := by
  intro e
  obtain ⟨D, ⟨es, cl, hb, _⟩, _⟩ := h.map
  have := h.blk
  unfold Blk at this
  rw [e, hb] at this
  cases this
theorem TabAt.below {w' : World} (h : TabAt PN B w t m rv acc n H lk) (hb : Below w.heap.size w w') : TabAt PN B w' t m rv acc n H lk :=
  ⟨Blk.thru0 h.blk hb, h.row.below hb, h.rowB, fun x hx => ⟨(h.bxs x hx).1.below hb, (h.bxs x hx).2⟩, h.map.below hb, fun kl v hk => by
    obtain ⟨ro, ti, la, h1, h2, h3⟩ := h.kn kl v hk
    exact ⟨ro, ti, la, h1, h2.below hb, h3⟩, h.lo⟩
theorem TabAt.drew (h : TabAt PN B w t m rv acc n H lk) : TabAt PN B w.drew t m rv acc n H lk := ⟨h.blk, h.row, h.rowB, h.bxs, h.map, h.kn, h.lo⟩
theorem TabAt.lock (h : TabAt PN B w t m rv acc n H lk) (lk' : Int) : TabAt PN B (w.setCell ⟨t, 1, none⟩ (.int .i32 lk')) t m rv acc n H lk' := by
  refine ⟨?_, h.row.offB h.blk (by decide) _ _, h.rowB, fun x hx => ⟨(h.bxs x hx).1.offB h.blk (by decide) _ _, (h.bxs x hx).2⟩, h.map.keep (Below.heap_setCell _ ⟨t, 1, none⟩ _ _ (Ne.symm h.tm)), fun kl v hk => ?_, h.lo⟩
  · have := h.blk.set_ 1 (.int .i32 lk')
    simpa using this
  · obtain ⟨ro, ti, la, h1, h2, h3⟩ := h.kn kl v hk
    exact ⟨ro, ti, la, h1, h2.offB h.blk (by decide) _ _, h3⟩
/-- Patches put into the map. -/
theorem TabAt.put (h : TabAt PN B w t m rv acc n H lk) (ro ti la : Int) (kl : Lit) (hkl : keyOf Tryz.prog 91 (keyV ro ti la) = some kl) (v : Value) (hv : EOwn elPa w v (PN ((acc.filter fun x => forB x.1 ro ti la).map (·.1)))) (hvB : ∀ i, v.ownBlock = some i → B ≤ i) (hn : n < maxLen) :
    ∃ w', (Instr.mapUpdate 66 (.map (some m)) (keyV ro ti la) v).run Tryz.prog w = .ok () w' ∧ TabAt PN B w' t m rv acc (n + 1) (putG H kl v) lk ∧ w.grownBy w' (some m) := by
  have hG : slG v := by
    rcases hv with ⟨h9, _⟩ | ⟨g, cap, h9, _⟩
    · exact .inl h9
    · exact .inr ⟨g, _, cap, h9⟩
  obtain ⟨w', h1, h2, h3⟩ := h.map.store keyKeyed Tryz.underlying66 hkl hG hn
  have hk9 : ∀ {α : Type} {E : El α} {u : Value} {L : List α}, EOwn E w u L → EOwn E w' u L := fun {α E u L} ho => ho.keep fun i hi e => h3.block i hi (by
    intro e2
    have e3 : m = i := by simpa using e2.symm
    subst e3
    rcases ho with ⟨h9, _⟩ | ⟨g, cap, h9, hr⟩
    · rw [h9] at e; cases e
    · rw [h9] at e
      obtain rfl : g = m := by simpa [Value.ownBlock] using e
      obtain ⟨cur, hcur, _⟩ := hr
      obtain ⟨D, ⟨es, cl, hb, _⟩, _⟩ := h.map
      unfold Blk at hcur
      rw [hb] at hcur
      cases hcur)
  refine ⟨w', h1, ⟨(h3.block t h.blk.lt (by simpa using h.tm)).trans h.blk, hk9 h.row, h.rowB, fun x hx => ⟨hk9 (h.bxs x hx).1, (h.bxs x hx).2⟩, h2, fun kl' v' hk => ?_, h.lo⟩, h3⟩
  unfold putG at hk
  by_cases e : kl' = kl
  · rw [if_pos e] at hk
    cases hk
    exact ⟨ro, ti, la, e ▸ hkl, hk9 hv, hvB⟩
  · rw [if_neg e] at hk
    obtain ⟨a, b, c, h4, h5, h6⟩ := h.kn kl' v' hk
    exact ⟨a, b, c, h4, hk9 h5, h6⟩
end
theorem keyV_inj {a b c a' b' c' : Int} (h : keyV a b c = keyV a' b' c') : a = a' ∧ b = b' ∧ c = c' := by
  unfold keyV at h
  simpa using h
end
section
set_option linter.unusedVariables false
set_option linter.unusedSimpArgs false
open Go.RowKit Go.Maps Go.MuLone
/-- All blocks but two are kept. -/
structure ButTM (p q : Nat) (w w' : World) : Prop where
  os : w'.os = w.os
  tape : w'.tape = w.tape
  output : w'.output = w.output
  size : w.heap.size ≤ w'.heap.size
  block : ∀ k, k < w.heap.size → k ≠ p → k ≠ q → w'.heap[k]? = w.heap[k]?
theorem ButTM.low {p q : Nat} {a w w' : World} (h : ButTM p q a w) (hb : Below a.heap.size w w') : ButTM p q a w' := ⟨hb.os.trans h.os, hb.tape.trans h.tape, hb.output.trans h.output, Nat.le_trans h.size hb.size, fun i hi h1 h2 => (hb.block i hi).trans (h.block i hi h1 h2)⟩
theorem ButTM.set {p q : Nat} {a w : World} (h : ButTM p q a w) (o : Nat) (u : Value) : ButTM p q a (w.setCell ⟨p, o, none⟩ u) := by
  have hb := (Below.refl 0 w).setCell (p := ⟨p, o, none⟩) (Nat.zero_le _) u
  exact ⟨hb.os.trans h.os, hb.tape.trans h.tape, hb.output.trans h.output, Nat.le_trans h.size hb.size, fun i hi h1 h2 => (Below.heap_setCell w ⟨p, o, none⟩ u i h1).trans (h.block i hi h1 h2)⟩
theorem ButTM.grown {p q : Nat} {a w w' : World} (h : ButTM p q a w) (hg : w.grownBy w' (some q)) : ButTM p q a w' := ⟨hg.os.trans h.os, hg.tape.trans h.tape, hg.output.trans h.output, Nat.le_trans h.size hg.size, fun i hi h1 h2 => (hg.block i (by have := h.size; omega) (by simpa using h2)).trans (h.block i hi h1 h2)⟩
theorem ButTM.refl (p q : Nat) (w : World) : ButTM p q w w := ⟨rfl, rfl, rfl, Nat.le_refl _, fun _ _ _ _ => rfl⟩
theorem ButTM.drew {p q : Nat} {a w : World} (h : ButTM p q a w) : ButTM p q a w.drew := ⟨h.os, h.tape, h.output, h.size, h.block⟩
theorem ButTM.back {p q : Nat} {a w : World} {t : TypeId} {cs : Array Value} (h : ButTM p q a w) (h1 : Blk a p t cs) (h2 : Blk w p t cs) : But q a w := ⟨h.os, h.tape, h.output, h.size, fun k hk hq => by
  by_cases e : k = p
  · rw [e]; exact h2.trans h1.symm
  · exact h.block k hk e hq⟩
/-- What reckoned tells. -/
def ReckP (PN : List Rc → List Pa) (B : Nat) (t m : Nat) (rv : Value) (acc : List (Rc × RV)) (n : Nat) (ro ti la : Int) (w : World) (e : Ending) (w' : World) : Prop :=
  ∃ v n' H', e = .returned v ∧ n' ≤ n + 1 ∧ TabAt PN B w' t m rv acc n' H' 0 ∧ EOwn elPa w' v (PN ((acc.filter fun x => forB x.1 ro ti la).map (·.1))) ∧ (∀ i, v.ownBlock = some i → B ≤ i) ∧ But m w w'
theorem zero_patches (w : World) : (zeroValue 31).run Tryz.prog w = .ok (.slice none 0 0) w := by kernel_rfl
set_option maxRecDepth 100000 in
set_option maxHeartbeats 8000000 in
theorem reck_any {PN : List Rc → List Pa} {B : Nat} {w : World} {t m : Nat} {rv : Value} {acc : List (Rc × RV)} {n : Nat} {H : Lit → Option Value} (h : TabAt PN B w t m rv acc n H 0) (hl : acc.length ≤ 32) (hn : n + 1 < maxLen) (hB : B ≤ w.heap.size) (ro ti la : Int) (i1 : I64 ro) (i2 : I64 ti) (i3 : I64 la) (hP0 : PN [] = [])
    (HPA : ∀ W v, ButTM t m w W → RRd W v (acc.filter fun x => forB x.1 ro ti la) → Calls Tryz.prog 59 #[v] W fun e w' => ∃ v2, e = .returned v2 ∧ EOwn elPa w' v2 (PN ((acc.filter fun x => forB x.1 ro ti la).map (·.1))) ∧ (∀ i, v2.ownBlock = some i → W.heap.size ≤ i) ∧ Below W.heap.size W w') :
    Calls Tryz.prog 36 #[ptr t, .int .i64 ro, .int .i64 ti, .int .i64 la] w (ReckP PN B t m rv acc n ro ti la w) := by
  obtain ⟨kl, hkl⟩ := key_key ro ti la i1 i2 i3
  have HKL := Lib.hid hkl
  have H0 := Lib.hid h
  have h1 := h.lock 1
  have c1 : w.cell? ⟨t, 1, none⟩ = some (.int .i32 0) := h.blk.cell 1
  have f1 := h.blk.frozen 1
  have HT1 := Lib.hid h1
  have HU1 := Lib.hid ((ButTM.refl t m w).set 1 (.int .i32 1))
  have HS := Lib.hid (show acc.length ≤ 32 ∧ n + 1 < maxLen ∧ B ≤ w.heap.size from ⟨hl, hn, hB⟩)
  have HP := Lib.hid hP0
  have HPP := Lib.hid HPA
  clear h h1 hl hn hB hP0 HPA hkl i1 i2 i3
  go_enter_defers Tryz.func36, Tryz.ntmps36
  go_upto_region 4 with (go_at_call 56; refine (lock_free muLib ⟨t, 1, none⟩ _ c1 f1).mono ?_; rintro e w' ⟨rfl, rfl⟩)
  generalize w.setCell ⟨t, 1, none⟩ (.int .i32 1) = W1 at *
  clear c1 f1
  go_upto_region 6 with fail
  have hal : Below W1.heap.size W1 (W1.alloc (.cells #[.int .i64 ro, .int .i64 ti, .int .i64 la] 91)) := (Below.refl _ _).alloc (Nat.le_refl _) _
  have hsz1 := HU1.out.size
  have HK2 := Lib.hid (Blk.new W1 91 #[.int .i64 ro, .int .i64 ti, .int .i64 la])
  have HT2 := Lib.hid (HT1.out.below hal)
  have HU2 := Lib.hid (HU1.out.low (hal.mono hsz1))
  have HKB := Lib.hid hsz1
  have HKM := Lib.hid (show W1.heap.size ≠ m from by have := HT1.out.map.lt; omega)
  clear hal hsz1 HT1 HU1
  generalize (W1.alloc (.cells #[.int .i64 ro, .int .i64 ti, .int .i64 la] 91)) = W2 at *
  generalize W1.heap.size = kb at *
  have k0 := HK2.out.cell 0
  have k1 := HK2.out.cell 1
  have k2 := HK2.out.cell 2
  have t3 := HT2.out.blk.cell 3
  simp only [List.getElem?_toArray, List.getElem?_cons_zero, List.getElem?_cons_succ] at k0 k1 k2 t3
  have lk := HT2.out.drew.map.look_ok keyKeyed Tryz.underlying66 (zero_patches _) (.inl rfl) HKL.out
  simp only [keyV] at lk
  cases hH : H kl with
  | some v =>
    rw [hH] at lk
    simp only [Option.getD_some, Option.isSome_some] at lk
    obtain ⟨ro', ti', la', e1, e2, e3⟩ := HT2.out.kn kl v hH
    obtain ⟨rfl, rfl, rfl⟩ := keyV_inj (keyKeyed.inj e1 HKL.out)
    obtain ⟨A5, c5, rfl, -, -⟩ := e2.slice
    have HE2 := Lib.hid e2
    have HE3 := Lib.hid e3
    clear e1 e2 e3 hH
    go_region
    have HT3 := Lib.hid HT2.out.drew
    have HU3 := Lib.hid HU2.out.drew
    have HE4 := Lib.hid (show EOwn elPa W2.drew _ _ from HE2.out)
    clear k0 k1 k2 t3 lk HT2 HU2 HE2 HK2
    generalize W2.drew = W3 at *
    go_wp2_with fail
    refine leaves_cons (f := 57) (args := #[.pointer (some ⟨t, 1, none⟩)]) (by simp) (by simp [go_sem]) ?_
    refine (unlock_deferred muLib ⟨t, 1, none⟩ .returning _ (HT3.out.blk.cell 1) (HT3.out.blk.frozen 1)).mono ?_
    rintro e u' w'' ⟨rfl, rfl, rfl⟩
    refine ⟨_, results_tmp rfl _ _ _, ?_⟩
    exact ⟨_, n, H, rfl, by omega, HT3.out.lock 0, HE4.out.offB HT3.out.blk (by decide) _ _, HE3.out, (HU3.out.set 1 (.int .i32 0)).back H0.out.blk (HT3.out.lock 0).blk⟩
  | none =>
    rw [hH] at lk
    simp only [Option.getD_none, Option.isSome_none] at lk
    clear hH
    go_region
    have HT3 := Lib.hid HT2.out.drew
    have HU3 := Lib.hid HU2.out.drew
    have HK3 := Lib.hid (show Blk W2.drew kb 91 #[.int .i64 ro, .int .i64 ti, .int .i64 la] from HK2.out)
    clear k0 k1 k2 t3 lk HT2 HU2 HK2
    generalize W2.drew = W3 at *
    have k0 := HK3.out.cell 0
    have k1 := HK3.out.cell 1
    have k2 := HK3.out.cell 2
    simp only [List.getElem?_toArray, List.getElem?_cons_zero, List.getElem?_cons_succ] at k0 k1 k2
    have HRF := Lib.hid (rulesfor_any HT3.out HS.out.1 ro ti la)
    simp only [keyV] at HRF
    go_wp2_with fail
    refine HRF.out.mono ?_
    rintro e w4 ⟨v4, rfl, hO, hOo, hb⟩
    obtain ⟨A4, c4, rfl, -, -⟩ := hO.slice
    have HT4 := Lib.hid (HT3.out.below hb)
    have HU4 := Lib.hid (HU3.out.low (hb.mono HU3.out.size))
    have HK4 := Lib.hid (Blk.thru0 HK3.out hb)
    have HRD := Lib.hid (show RRd w4 _ (acc.filter fun x => forB x.1 ro ti la) from ⟨ERd.of_own elRu_ok hO, fun x hx => ERd.of_own elR_ok ((HT4.out.bxs x ((List.mem_filter.1 hx).1)).1)⟩)
    clear hO hOo hb HRF HT3 HU3 HK3 k0 k1 k2
    generalize hF : (acc.filter fun x => forB x.1 ro ti la) = F at *
    by_cases hne : F.length = 0
    · have hl0 : ((F.length : Int) == 0) = true := by simp [hne]
      have hF0 : F = [] := List.eq_nil_of_length_eq_zero hne
      have HFF := Lib.hid (show PN ((acc.filter fun x => forB x.1 ro ti la).map (·.1)) = [] by rw [hF, hF0]; exact HP.out)
      clear hne hF0 hF
      go_wp2_with fail
      refine leaves_cons (f := 57) (args := #[.pointer (some ⟨t, 1, none⟩)]) (by simp) (by simp [go_sem]) ?_
      refine (unlock_deferred muLib ⟨t, 1, none⟩ .returning _ (HT4.out.blk.cell 1) (HT4.out.blk.frozen 1)).mono ?_
      rintro e u' w'' ⟨rfl, rfl, rfl⟩
      refine ⟨_, results_tmp rfl _ _ _, ?_⟩
      exact ⟨_, n, H, rfl, by omega, HT4.out.lock 0, by rw [HFF.out]; exact EOwn.nil_ _, fun i hi => by simp [Value.ownBlock] at hi, (HU4.out.set 1 (.int .i32 0)).back H0.out.blk (HT4.out.lock 0).blk⟩
    · have hl0 : ((F.length : Int) == 0) = false := beq_eq_false_iff_ne.2 (by omega)
      have HFE := Lib.hid hF
      clear hne hF
      go_upto_region 12 with fail
      clear hl0
      have k0 := HK4.out.cell 0
      have k1 := HK4.out.cell 1
      have k2 := HK4.out.cell 2
      have t3 := HT4.out.blk.cell 3
      simp only [List.getElem?_toArray, List.getElem?_cons_zero, List.getElem?_cons_succ] at k0 k1 k2 t3
      have HDR := Lib.hid (show Below w4.heap.size w4 w4.drew from (Below.refl _ _).drew)
      have HPW := Lib.hid fun W (hW : Below w4.heap.size w4 W) => HPP.out W _ (HU4.out.low (hW.mono HU4.out.size)) (HRD.out.below hW)
      have HST := Lib.hid (show ∀ W V v, Below w4.heap.size w4 W → W.heap.size ≤ V.heap.size → Below w4.heap.size w4 V → EOwn elPa V v (PN (F.map (·.1))) → (∀ i, v.ownBlock = some i → W.heap.size ≤ i) → ∃ V', (Instr.mapUpdate 66 (.map (some m)) (.agg #[.int .i64 ro, .int .i64 ti, .int .i64 la]) v).run Tryz.prog V = .ok () V' ∧ TabAt PN B V' t m rv acc (n + 1) (putG H kl v) 1 ∧ V.grownBy V' (some m) from fun W V v hW hWV hV ho hoo => (HT4.out.below hV).put ro ti la kl HKL.out v (by rw [HFE.out]; exact ho) (fun i hi => by have h1 := hoo i hi; have h2 := hW.size; have h3 := HU4.out.size; have h4 := HS.out.2.2; omega) (by have := HS.out.2.1; omega))
      have HQ := Lib.hid (show ∀ V, Below w4.heap.size w4 V → V.cell? ⟨kb, 0, none⟩ = some (.int .i64 ro) ∧ V.cell? ⟨kb, 1, none⟩ = some (.int .i64 ti) ∧ V.cell? ⟨kb, 2, none⟩ = some (.int .i64 la) ∧ V.cell? ⟨t, 3, none⟩ = some (.map (some m)) from fun V hV => ⟨(Blk.thru0 HK4.out hV).cell 0, (Blk.thru0 HK4.out hV).cell 1, (Blk.thru0 HK4.out hV).cell 2, (Blk.thru0 HT4.out.blk hV).cell 3⟩)
      have HQV := Lib.hid (show ∀ V V', Below w4.heap.size w4 V → V.grownBy V' (some m) → Blk V' kb 91 #[.int .i64 ro, .int .i64 ti, .int .i64 la] ∧ V'.cell? ⟨kb, 0, none⟩ = some (.int .i64 ro) ∧ V'.cell? ⟨kb, 1, none⟩ = some (.int .i64 ti) ∧ V'.cell? ⟨kb, 2, none⟩ = some (.int .i64 la) ∧ V'.cell? ⟨t, 3, none⟩ = some (.map (some m)) from fun V V' hV hg => by
        have b1 := (Blk.thru0 HK4.out hV).grown hg (by simpa using HKM.out)
        have b2 := (Blk.thru0 HT4.out.blk hV).grown hg (by simpa using HT4.out.tm)
        exact ⟨b1, b1.cell 0, b1.cell 1, b1.cell 2, b2.cell 3⟩)
      have HTR := Lib.hid (show ∀ V', Below w4.drew.heap.size w4.drew V' → Below w4.heap.size w4 V' from fun V' hb => HDR.out.trans hb)
      go_region_held3 (fun w' => w'.cell? ⟨kb, 0, none⟩ = some (.int .i64 ro) ∧ w'.cell? ⟨kb, 1, none⟩ = some (.int .i64 ti) ∧ w'.cell? ⟨kb, 2, none⟩ = some (.int .i64 la) ∧ w'.cell? ⟨t, 3, none⟩ = some (.map (some m))) (first | (with_reducible exact HQ9.out) | (refine ⟨?_, ?_, ?_, ?_⟩ <;> first | assumption | go_keep) | (go_split_ands; refine ⟨?_, ?_, ?_, ?_⟩ <;> first | assumption | go_keep)) (first | (go_at_call 59; with_reducible refine Calls.mono (HPW.out _ ?_) ?_; (first | exact HDR.out); rintro e w5 ⟨v5, rfl, hO5, hOo5, hb5⟩; obtain ⟨A6, c6, rfl, _, _⟩ := hO5.slice; have HB5 := Lib.hid (HTR.out _ hb5); obtain ⟨k0, k1, k2, t3⟩ := HQ.out _ HB5.out; obtain ⟨V', hmu, hT9, hgr⟩ := HST.out _ w5 _ HDR.out hb5.size HB5.out hO5 hOo5; have HT9 := Lib.hid hT9; have HGR := Lib.hid hgr; have HKV := Lib.hid (HQV.out _ V' HB5.out hgr).1; have HQ9 := Lib.hid (HQV.out _ V' HB5.out hgr).2; have HO5 := Lib.hid hO5; have HOO5 := Lib.hid hOo5; clear hO5 hOo5 hb5 hT9 hgr))
      all_goals
        have HU9 := Lib.hid ((HU4.out.low (HB5.out.mono HU4.out.size)).grown HGR.out)
        have HFV : Hid (EOwn elPa V' (.slice A6 (PN (F.map (·.1))).length c6) (PN (F.map (·.1))) ∧ ∀ i, (Value.slice A6 (PN (F.map (·.1))).length c6).ownBlock = some i → B ≤ i) := Lib.hid (by
          obtain ⟨ro', ti', la', e1, e2, e3⟩ := HT9.out.kn kl (.slice A6 (PN (F.map (·.1))).length c6) (by unfold putG; rw [if_pos rfl])
          obtain ⟨rfl, rfl, rfl⟩ := keyV_inj (keyKeyed.inj e1 HKL.out)
          rw [HFE.out] at e2
          exact ⟨e2, e3⟩)
        have HPG : Hid (putG H kl (.slice A6 (PN (F.map (·.1))).length c6) kl = some (.slice A6 (PN (F.map (·.1))).length c6)) := Lib.hid (by unfold putG; rw [if_pos rfl])
        clear k0 k1 k2 t3 HST HQV HQ HTR HPW HDR HB5 HGR hmu HRD HU4 HT4 HK4 HO5 HOO5
        generalize hLP : (PN (F.map (·.1))) = LP at *
        generalize hH' : putG H kl (.slice A6 LP.length c6) = H' at *
        obtain ⟨k0, k1, k2, t3⟩ := HQ9.out
        have lk := HT9.out.drew.map.look keyKeyed Tryz.underlying66 (zero_patches _) (.inl rfl) HKL.out
        rw [HPG.out] at lk
        simp only [keyV, Option.getD_some] at lk
        have HLP := Lib.hid (show PN ((acc.filter fun x => forB x.1 ro ti la).map (·.1)) = LP by rw [HFE.out]; exact hLP)
        clear hLP hH'
        go_upto_region 13 with fail
        go_region
        have HT10 := Lib.hid HT9.out.drew
        have HU10 := Lib.hid HU9.out.drew
        have HF10 := Lib.hid (show EOwn elPa V'.drew _ _ from HFV.out.1)
        clear k0 k1 k2 t3 lk HT9 HU9 HQ9 HKV
        generalize V'.drew = W9 at *
        go_wp2_with fail
        refine leaves_cons (f := 57) (args := #[.pointer (some ⟨t, 1, none⟩)]) (by simp) (by simp [go_sem]) ?_
        refine (unlock_deferred muLib ⟨t, 1, none⟩ .returning _ (HT10.out.blk.cell 1) (HT10.out.blk.frozen 1)).mono ?_
        rintro e u' w'' ⟨rfl, rfl, rfl⟩
        refine ⟨_, results_tmp rfl _ _ _, ?_⟩
        exact ⟨_, n + 1, H', rfl, by omega, HT10.out.lock 0, by rw [HLP.out]; exact HF10.out.offB HT10.out.blk (by decide) _ _, HFV.out.2, (HU10.out.set 1 (.int .i32 0)).back H0.out.blk (HT10.out.lock 0).blk⟩
end
end Go.Proofs.YtmgamlpjgghieaaGreatDoor
