/- policy: line and Print, where all may be, by contract. -/
import Derived.Test.YtileecbccmfpdaaGreatDoorPo15
namespace Go.Proofs.YtileecbccmfpdaaGreatDoor
set_option linter.unusedVariables false
set_option linter.unusedSimpArgs false
open Go.RowKit
/-- A declaration's line. -/
def lineL (F : List Bs) : Bs := Lib.join F [32] ++ (mEnd ++ [10])
abbrev IsB (B b : Nat) (l : Bs) (w : World) : Prop := Lib.IsBuilder 65 5 B b (Lib.byteCells l) w
theorem IsB.below {B b : Nat} {l : Bs} {w w' : World} (h : IsB B b l w) (hb : Below w.heap.size w w') : IsB B b l w' := by
  have hk : ∀ p, Lib.BuilderAt 65 5 B b p (Lib.byteCells l) w → Lib.BuilderAt 65 5 B b p (Lib.byteCells l) w' := by
    intro p hp
    have hlt := hp.lt
    obtain ⟨h1, v, h2, h3, h4⟩ := hp
    refine ⟨h1, v, (hb.block b hlt).trans h2, h3.kept (row := none) ⟨hb.os, hb.tape, hb.output, hb.size, fun k hk _ => hb.block k hk⟩ ?_, h4⟩
    cases v.ownBlock with
    | none => exact Or.inl rfl
    | some i => exact Or.inr (by simp)
  rcases h with h | h
  · exact Or.inl (hk _ h)
  · exact Or.inr (hk _ h)
theorem bytes_app (a b : Bs) : Lib.byteCells a ++ Lib.strCells (bs b) = Lib.byteCells (a ++ b) := by
  simp [Lib.byteCells, Lib.strCells, bs]
theorem wstr_any (B b : Nat) (l s : Bs) (w : World) (h : IsB B b l w) (hl : l.length + s.length ≤ 140737488355328) (hB : B ≤ w.heap.size) :
    Calls Tryz.prog 30 #[.pointer (some ⟨b, 0, none⟩), .string (bs s)] w fun e w' => ∃ v, e = .returned v ∧ IsB B b (l ++ s) w' ∧ Below B w w' := by
  have h0 := Any.Builder_WriteString (P := Tryz.prog) (ρ := Tryz.lays156_ren) { Tryz.lays156 with } Tryz.Builder_Extra_156 B b (Lib.byteCells l) (bs s) w h (by simpa [Lib.byteCells, bs_size] using hl) hB
  rw [bytes_app] at h0
  exact h0.mono fun e w' ⟨h1, h2, h3⟩ => ⟨_, h1, Or.inr h2, h3⟩
theorem bstr_any (B b : Nat) (l : Bs) (w : World) (h : IsB B b l w) (hB : B ≤ w.heap.size) :
    Calls Tryz.prog 33 #[.pointer (some ⟨b, 0, none⟩)] w fun e w' => e = .returned (.string (bs l)) ∧ Below B w w' :=
  Tryz.Builder_String_any B b l w h hB
set_option maxRecDepth 100000 in
theorem line_any (w : World) (v : Value) (F : List Bs) (h : EOwn elS w v F) (hne : F ≠ []) (hl : F.length ≤ 1000000) (hj : (Lib.join F [32]).length ≤ 1000000000) :
    Calls Tryz.prog 32 #[v] w fun e w' => e = .returned (.string (bs (lineL F))) ∧ Below w.heap.size w w' := by
  obtain ⟨A, c, rfl, hc1, hc2⟩ := h.slice
  obtain ⟨x, F', hF⟩ : ∃ x F', F = x :: F' := by
    cases F with
    | nil => exact absurd rfl hne
    | cons x F' => exact ⟨x, F', rfl⟩
  obtain ⟨_, g, rfl, _⟩ := EOwn.cell elS_ok h (i := 0) (x := x) (by rw [hF]; rfl)
  have e1 : (F.map bs).map (·.data.toList) = F := by
    rw [List.map_map]
    have : ((fun b : ByteArray => b.data.toList) ∘ bs) = id := by funext l; simp [bs]
    rw [this, List.map_id]
  have HJ := Tryz.strings_Join g 0 c (F.map bs) ⟨#[32]⟩ w (fun j y hy => by
      rw [List.getElem?_map, Option.map_eq_some_iff] at hy
      obtain ⟨s, hs, rfl⟩ := hy
      obtain ⟨_, g', hg', hc⟩ := EOwn.cell elS_ok h hs
      obtain rfl : g = g' := by simpa using hg'
      have := hc 0 _ rfl
      simpa [elS] using this) (h.lt (i := g) rfl) (by rw [List.length_map]; omega) (by rw [List.length_map]; exact hc1) (by rw [e1]; exact Nat.le_trans hj (by decide))
  rw [e1, List.length_map] at HJ
  have HJ := Lib.hid HJ
  have HE := Lib.hid (show lineL F = (Lib.join F [32] ++ [59]) ++ [10] by simp [lineL, mEnd])
  have hs1 : ¬ 9223372036854775807 < (bs (Lib.join F [32])).size + 1 := by rw [bs_size]; omega
  have hs2 : ¬ 9223372036854775807 < (bs (Lib.join F [32])).size + 1 + 1 := by rw [bs_size]; omega
  have HE2 := Lib.hid (show (⟨(Lib.join F [32]).toArray⟩ : ByteArray) = bs (Lib.join F [32]) from rfl)
  rw [show (⟨(Lib.join F [32]).toArray⟩ : ByteArray) = bs (Lib.join F [32]) from rfl] at HJ
  clear h hne hj hF e1 hc1 hc2
  generalize Lib.join F [32] = J at *
  go_enter Tryz.func32, Tryz.ntmps32
  go_wp2_with fail
  refine HJ.out.mono ?_
  rintro e w1 ⟨rfl, hb⟩
  have HB1 := Lib.hid hb
  clear hb
  go_wp2_with fail
  go_ret
  refine ⟨?_, HB1.out⟩
  rw [HE.out, ← bs_app, ← bs_app]
  rfl
/-- The form of declarations. -/
def printL (L : List Dc) : Bs := (L.map fun d => lineL (formL d)).flatten
theorem printL_snoc (L : List Dc) (d : Dc) : printL (L ++ [d]) = printL L ++ lineL (formL d) := by simp [printL]
theorem join_len (m : Nat) : ∀ F : List Bs, (∀ s ∈ F, s.length ≤ m) → (Lib.join F [32]).length ≤ F.length * (m + 1) := by
  intro F
  cases F with
  | nil => intro _; simp [Lib.join_nil]
  | cons x r =>
    intro h
    rw [Lib.join_cons, List.length_append]
    have h1 := h x (List.mem_cons_self ..)
    have h2 : ∀ r : List Bs, (∀ s ∈ r, s.length ≤ m) → (Lib.joinTail [32] r).length ≤ r.length * (m + 1) := by
      intro r
      induction r with
      | nil => intro _; simp [Lib.joinTail]
      | cons y r ih =>
        intro hr
        have h3 := ih fun s hs => hr s (List.mem_cons_of_mem _ hs)
        have h4 := hr y (List.mem_cons_self ..)
        have e : (Lib.joinTail [32] (y :: r)).length = 1 + y.length + (Lib.joinTail [32] r).length := by simp [Lib.joinTail]; omega
        rw [e, List.length_cons, Nat.add_mul]
        omega
    have h5 := h2 r fun s hs => h s (List.mem_cons_of_mem _ hs)
    rw [List.length_cons, Nat.add_mul]
    omega
theorem RightD.ne {d : Dc} (h : RightD d) : formL d ≠ [] := by
  intro e
  obtain ⟨L, L', d', h1, _, h2, _⟩ := h.back
  have h3 : (tokF [mEnd]).map (fun L => (allP L).1) = some false := by kernel_rfl
  rw [e, List.nil_append] at h1
  rw [h1] at h3
  simp [h2] at h3
theorem RightD.join {d : Dc} (h : RightD d) : (Lib.join (formL d) [32]).length ≤ 51000 := by
  have h1 := join_len 50 (formL d) fun s hs => h.short s (List.mem_append_left _ hs)
  have h2 := h.few
  rw [List.length_append] at h2
  simp only [List.length_cons, List.length_nil] at h2
  omega
theorem RightD.line {d : Dc} (h : RightD d) : (lineL (formL d)).length ≤ 52000 := by
  have := h.join
  simp only [lineL, List.length_append, mEnd, List.length_cons, List.length_nil]
  omega
theorem printL_len (L : List Dc) (h : ∀ d ∈ L, RightD d) : (printL L).length ≤ L.length * 52000 := by
  induction L with
  | nil => simp [printL]
  | cons d L ih =>
    have h1 := ih fun x hx => h x (List.mem_cons_of_mem _ hx)
    have h2 := (h d (List.mem_cons_self ..)).line
    have e : (printL (d :: L)).length = (lineL (formL d)).length + (printL L).length := by simp [printL]
    rw [e, List.length_cons, Nat.add_mul]
    omega
structure PrSt (w : World) (b : Nat) (L : List Dc) (wr : World) : Prop where
  bld : IsB w.heap.size b (printL L) wr
  below : Below w.heap.size w wr
attribute [local go_sem ↓] to_ld44
attribute [local go_sem] run_ld24o
set_option maxRecDepth 100000 in
set_option maxHeartbeats 8000000 in
theorem prints_any (w : World) (v : Value) (acc : List (Dc × RV)) (hV : Vs w) (hs : Hs w) (hg : 0 < w.heap.size) (h : DRd w v acc) (hl : acc.length ≤ 1000000) (hr : ∀ x ∈ acc, RightD x.1) :
    Calls Tryz.prog 16 #[v] w fun e w' => e = .returned (.string (bs (printL (acc.map (·.1))))) ∧ Below w.heap.size w w' := by
  have HRI := Lib.hid (rights_any w v acc hV hs hg h hl hr)
  obtain ⟨A0, c0, rfl, _, _, _⟩ := id h.1
  have HVB := Lib.hid (show ∀ w', Below w.heap.size w w' → Vs w' from fun w' hb => hV.below hb)
  have HHB := Lib.hid (show ∀ w', Below w.heap.size w w' → Hs w' from fun w' hb => hs.low hb)
  have HG := Lib.hid hg
  have HR := Lib.hid h
  have HL := Lib.hid hl
  have HRR := Lib.hid hr
  clear hV hs hg h hl hr
  go_enter Tryz.func16, Tryz.ntmps16
  go_wp2_with fail
  refine HRI.out.mono ?_
  rintro e w1 ⟨rfl, hb⟩
  have HBB := Lib.hid (show IsB w.heap.size w1.heap.size [] (w1.alloc (.cells #[.pointer none, .slice none 0 0] 65)) from by
    rcases Lib.fresh_isBuilder 65 5 w1 with ⟨_, v, h2, h3, h4⟩ | ⟨_, v, h2, _, _⟩
    · refine Or.inl ⟨hb.size, v, h2, ?_, h4⟩
      obtain rfl : v = .slice none 0 0 := by
        have e := h2.symm.trans (heap_alloc_new w1 _)
        simp at e
        exact e
      exact World.ownsRow_nil _ _ _ _
    · have e := h2.symm.trans (heap_alloc_new w1 _)
      simp at e)
  have HST := Lib.hid (show PrSt w w1.heap.size [] (w1.alloc (.cells #[.pointer none, .slice none 0 0] 65)) from ⟨HBB.out, hb.alloc hb.size _⟩)
  have HN1 := Lib.hid (show w.heap.size ≤ w1.heap.size from hb.size)
  clear hb HRI HBB
  go_upto_region 4 with (fail)
  generalize (w1.alloc (.cells #[.pointer none, .slice none 0 0] 65)) = W0 at *
  generalize w1.heap.size = b at *
  go_wp2_with fail
  go_loopw [11] (fun i wr => ∃ k : Nat, k ≤ acc.length ∧ i = .int .i64 k ∧ Hid (PrSt w b ((acc.take k).map (·.1)) wr)) (fun i _ => acc.length - (intOf i).toNat)
  case atStart => exact ⟨0, by omega, rfl, HST⟩
  case round =>
    clear HST
    obtain ⟨k, hk, rfl, HS⟩ := hrel
    have HB := Lib.hid HS.out.below
    by_cases hlt : k < acc.length
    · have hki : (k : Int) < (acc.length : Int) := by omega
      have hx : acc[k]? = some acc[k] := List.getElem?_eq_getElem hlt
      obtain ⟨g, o, rfl, hc⟩ := (HR.out.1.below HB.out).cell hx
      have HXR := Lib.hid (HRR.out _ (List.getElem_mem hlt))
      have HXB := Lib.hid ((HR.out.2 _ (List.getElem_mem hlt)).below HB.out)
      have HTK := Lib.hid (show (acc.take (k + 1)).map (·.1) = (acc.take k).map (·.1) ++ [acc[k].1] by rw [← List.take_append_getElem hlt, List.map_append]; rfl)
      have HPL := Lib.hid (show (printL ((acc.take k).map (·.1))).length ≤ 100000000000 from by
        have h1 := printL_len ((acc.take k).map (·.1)) (fun d hd => by
          obtain ⟨x, hx, rfl⟩ := List.mem_map.1 hd
          exact HRR.out x (List.mem_of_mem_take hx))
        have h2 := HL.out
        have h3 : ((acc.take k).map (·.1)).length ≤ acc.length := by simp; omega
        refine Nat.le_trans h1 ?_
        refine Nat.le_trans (Nat.mul_le_mul_right _ (Nat.le_trans h3 h2)) (by decide))
      generalize acc[k] = x at *
      obtain ⟨d, xv⟩ := x
      have HRG := Lib.hid (show wr.rangeAt g (o + k * 24) (dcells d xv.v) from fun j u hu => hc j u hu)
      have q1 : Rd24o wr g (o + k * 24) := ⟨_, rfl, HRG.out⟩
      obtain ⟨VX, hVX⟩ : ∃ VX, Value.agg (dcells d xv.v).toArray = VX := ⟨_, rfl⟩
      have HVX := Lib.hid hVX
      have q2 : ld24o wr g (o + k * 24) = VX := (ld24o_of rfl HRG.out).trans hVX
      have HTH := Lib.hid ((Blk.new wr 44 #[.int .i64 0, .string ⟨#[]⟩, .int .i64 0, .slice none 0 0, .bool false, .string ⟨#[]⟩, .int .i64 0, .int .i64 0, .int .i64 0, .int .i64 0, .int .i64 0, .bool false, .string ⟨#[]⟩, .int .i64 0, .int .i64 0, .int .i64 0, .bool false, .string ⟨#[]⟩, .int .i64 0, .int .i64 0, .int .i64 0, .int .i64 0, .int .i64 0, .int .i64 0]).there (n := 24) (by decide))
      have HIN := Lib.hid (show (Tryz.prog.info? 44).map (·.size) = some (dcells d xv.v).toArray.size by kernel_rfl)
      have HON := Lib.hid (dcells_one d (bv := xv.v) rfl)
      clear hc hx hVX
      have HCP := Lib.hid (copy_at wr d xv.v)
      go_upto_region 7 with ((refine wpList_store_mid rfl 44 _ _ rfl wr.heap.size 0 (dcells d xv.v).toArray rfl HVX.out.symm HTH.out HIN.out HON.out ?_))
      clear HRG HTH q1 q2 HIN HON
      generalize ((wr.alloc (.cells #[.int .i64 0, .string ⟨#[]⟩, .int .i64 0, .slice none 0 0, .bool false, .string ⟨#[]⟩, .int .i64 0, .int .i64 0, .int .i64 0, .int .i64 0, .int .i64 0, .bool false, .string ⟨#[]⟩, .int .i64 0, .int .i64 0, .int .i64 0, .bool false, .string ⟨#[]⟩, .int .i64 0, .int .i64 0, .int .i64 0, .int .i64 0, .int .i64 0, .int .i64 0] 44)).setCells wr.heap.size 0 (dcells d xv.v).toArray.toList) = W1 at *
      have HRG := Lib.hid (Blk.range HCP.out.1)
      have q1 : Rd24o W1 wr.heap.size 0 := ⟨_, rfl, HRG.out⟩
      have q2 : ld24o W1 wr.heap.size 0 = VX := (ld24o_of rfl HRG.out).trans HVX.out
      have HB1 := Lib.hid (HB.out.trans (HCP.out.2.mono HB.out.size))
      have HI1 := Lib.hid (HS.out.bld.below HCP.out.2)
      have HFM := Lib.hid (form_any W1 d xv.v (HVB.out _ HB1.out) (HHB.out _ HB1.out) HXR.out.i (HXB.out.below HCP.out.2) HXR.out.bx)
      rw [show dV d xv.v = VX from HVX.out] at HFM
      go_wp2_with fail
      refine HFM.out.mono ?_
      rintro e W2 ⟨v2, rfl, hO2, _, hb2⟩
      obtain ⟨A2, c2, rfl, _, _⟩ := hO2.slice
      have HO2 := Lib.hid hO2
      have HB2 := Lib.hid (HB1.out.trans (hb2.mono HB1.out.size))
      have HI2 := Lib.hid (HI1.out.below hb2)
      clear hO2 hb2 HI1 HCP q1 q2 HRG HFM
      have HLN := Lib.hid (line_any W2 _ (formL d) HO2.out HXR.out.ne (by have := HXR.out.few; rw [List.length_append] at this; omega) (Nat.le_trans HXR.out.join (by decide)))
      have HLL := Lib.hid HXR.out.line
      obtain ⟨ln, hLL⟩ : ∃ ln, lineL (formL d) = ln := ⟨_, rfl⟩
      rw [hLL] at HLN HLL
      go_wp2_with fail
      refine HLN.out.mono ?_
      rintro e W3 ⟨rfl, hb3⟩
      have HB3 := Lib.hid (HB2.out.trans (hb3.mono HB2.out.size))
      have HI3 := Lib.hid (HI2.out.below hb3)
      clear hb3 HI2 HO2 HLN
      go_wp2_with fail
      refine (wstr_any w.heap.size b _ ln W3 HI3.out (by have := HPL.out; have := HLL.out; omega) HB3.out.size).mono ?_
      rintro e W4 ⟨v4, rfl, hI4, hb4⟩
      have HN := Lib.hid (show PrSt w b ((acc.take (k + 1)).map (·.1)) W4 from ⟨by rw [HTK.out, printL_snoc]; exact hLL ▸ hI4, HB3.out.trans hb4⟩)
      clear hI4 hb4 HB3 HI3
      have hkb : (k : Int) < 1000000 := by have := HL.out; omega
      go_wp2_with fail
      go_roundw
      case rel => exact ⟨k + 1, by omega, by go_num, HN⟩
      case measure => simp [intOf]; omega
    · obtain rfl : k = acc.length := by omega
      have HI := Lib.hid (show IsB w.heap.size b (printL (acc.map (·.1))) wr from by have := HS.out.bld; rwa [List.take_length] at this)
      go_wp2_with fail
      refine (bstr_any w.heap.size b _ wr HI.out HB.out.size).mono ?_
      rintro e W2 ⟨rfl, hb2⟩
      have HN := Lib.hid (HB.out.trans hb2)
      clear hb2
      go_wp2_with fail
      go_ret
      exact ⟨rfl, HN.out⟩
end Go.Proofs.YtileecbccmfpdaaGreatDoor
