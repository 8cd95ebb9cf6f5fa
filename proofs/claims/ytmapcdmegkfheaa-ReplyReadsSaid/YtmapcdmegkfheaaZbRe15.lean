/- reply: Encode of any answer, by contract. -/
import Derived.Test.YtmapcdmegkfheaaZbRe14
import Derived.Laws.CopyOwn
import Derived.Laws.OwnMore
namespace Go.Proofs.Ytmapcdmegkfheaa
set_option linter.unusedVariables false
set_option linter.unusedSimpArgs false
open Go.RowKit
theorem bare_rows {a : An} (h : bareB a = true) : a.sn = 0 ∧ a.en = 0 := by
  simp only [bareB, Bool.and_eq_true, decide_eq_true_eq] at h
  exact ⟨h.2.2.2.1, h.2.2.2.2⟩
theorem mid_le (op : Int) (h1 : 1 ≤ op) (a : An) : (midW op a).length ≤ onceN op.toNat := by
  unfold midW
  by_cases h4 : op = 4 ∨ op = 5
  · rw [if_pos h4]
    have := rowU_len 8 [a.sec]
    rcases h4 with rfl | rfl <;> exact this
  · rw [if_neg h4]
    by_cases h12 : op = 12
    · rw [if_pos h12]
      have h2 := rowB_len 2 [a.rx, a.ry]
      have h3 := rowB_len 1 [a.lab]
      subst h12
      simp only [List.length_append, List.length_cons, List.length_nil] at *
      have : onceN (12 : Int).toNat = 5 := rfl
      omega
    · rw [if_neg h12]
      by_cases h10 : op = 10
      · rw [if_pos h10]
        have h2 := rowB_len 2 [a.b0, a.b1, a.b2, a.b3]
        subst h10
        exact h2
      · rw [if_neg h10]; exact Nat.zero_le _
/-- What fits has few items, and those only that have them. -/
theorem may_few {w : World} {op m : Int} {a : An} {L : List Snt} {M : List Evt} (h : AnR w a L M) (hm : mayB op m a L M = true) :
    1 ≤ op ∧ op ≤ 19 ∧ 0 ≤ m ∧ m ≤ 64 ∧ L.length * 11 + M.length * 8 ≤ m.toNat * eachN op.toNat ∧ L.length ≤ 64 ∧ M.length ≤ 64 := by
  unfold mayB at hm
  simp only [Bool.and_eq_true] at hm
  obtain ⟨ho, hb, hs, hr⟩ := hm
  have ho2 : 1 ≤ op ∧ op ≤ 19 := by simpa [opB] using ho
  have hb2 : 0 ≤ m ∧ m ≤ 64 := by simpa [mB] using hb
  refine ⟨ho2.1, ho2.2, hb2.1, hb2.2, ?_⟩
  have h1 := h.sl
  have h2 := h.el
  unfold restB at hr
  by_cases hst : a.st = 0
  · rw [if_pos hst] at hr
    simp only [Bool.and_eq_true] at hr
    obtain ⟨hh, hB⟩ := hr
    unfold holdsB at hh
    unfold outA at hB
    by_cases c12 : op = 12
    · subst c12
      have := bare_rows hB
      simp only [show ¬ ((12 : Int) = 4 ∨ (12 : Int) = 5) by decide, if_true, if_false] at this
      omega
    · by_cases c10 : op = 10
      · subst c10
        have := bare_rows hB
        simp only [show ¬ ((10 : Int) = 4 ∨ (10 : Int) = 5) by decide, show ¬ ((10 : Int) = 12) by decide, if_true, if_false] at this
        omega
      · by_cases cs : op = 13 ∨ op = 14 ∨ op = 15 ∨ op = 16
        · rw [if_neg c12, if_neg c10, if_pos cs] at hh
          have h45 : ¬ (op = 4 ∨ op = 5) := by omega
          rw [if_neg h45, if_neg c12, if_neg c10, if_pos cs] at hB
          have hh2 := (bare_rows hB).2
          simp only [] at hh2
          simp only [Bool.and_eq_true, decide_eq_true_eq] at hh
          have he : eachN op.toNat = 11 := by rcases cs with rfl | rfl | rfl | rfl <;> rfl
          rw [he]
          omega
        · by_cases ce : op = 17 ∨ op = 18
          · rw [if_neg c12, if_neg c10, if_neg cs, if_pos ce] at hh
            have h45 : ¬ (op = 4 ∨ op = 5) := by omega
            rw [if_neg h45, if_neg c12, if_neg c10, if_neg cs, if_pos ce] at hB
            have hh2 := (bare_rows hB).1
            simp only [] at hh2
            simp only [Bool.and_eq_true, decide_eq_true_eq] at hh
            have he : eachN op.toNat = 8 := by rcases ce with rfl | rfl <;> rfl
            rw [he]
            omega
          · by_cases c45 : op = 4 ∨ op = 5
            · rw [if_pos c45] at hB
              have := bare_rows hB
              simp only [] at this
              omega
            · rw [if_neg c45, if_neg c12, if_neg c10, if_neg cs, if_neg ce] at hB
              have := bare_rows hB
              omega
  · rw [if_neg hst] at hr
    have := bare_rows hr
    omega
theorem len_eq {op m : Int} (h1 : 1 ≤ op) (h2 : op ≤ 19) (h3 : 0 ≤ m) (h4 : m ≤ 64) : lenN op m = ((3 + onceN op.toNat + m.toNat * eachN op.toNat : Nat) : Int) := by
  unfold lenN
  rw [if_pos ⟨by unfold opB; exact decide_eq_true ⟨h1, h2⟩, by unfold mB; exact decide_eq_true ⟨h3, h4⟩⟩]
  have : m = (m.toNat : Int) := by omega
  rw [this]
  push_cast
  simp
theorem wr_fit {w : World} {op m : Int} {a : An} {L : List Snt} {M : List Evt} (h : AnR w a L M) (hm : mayB op m a L M = true) : (wrW op a L M).length ≤ (lenN op m).toNat ∧ (lenN op m).toNat ≤ 800 ∧ ((lenN op m).toNat : Int) = lenN op m := by
  obtain ⟨h1, h2, h3, h4, h5, h6, h7⟩ := may_few h hm
  rw [len_eq h1 h2 h3 h4, Int.toNat_natCast]
  have a1 := rowB_len 1 [a.st, op, (a.sn : Int) + (a.en : Int)]
  have a2 := mid_le op h1 a
  have a3 := seenW_le L
  have a4 := evtW_le M
  have a5 := onceN_le op.toNat
  have a6 := eachN_le op.toNat
  have a7 : m.toNat * eachN op.toNat ≤ 64 * 11 := Nat.mul_le_mul (by omega) a6
  have hw : (wrW op a L M).length = (rowB 1 [a.st, op, (a.sn : Int) + (a.en : Int)]).length + ((midW op a).length + ((L.flatMap seenW).length + (M.flatMap evtW).length)) := by simp only [wrW, List.length_append]
  simp only [List.length_cons, List.length_nil] at a1
  rw [hw]
  refine ⟨?_, ?_, rfl⟩ <;> omega
/-- An answer's bytes. -/
def encW (op m : Int) (a : An) (L : List Snt) (M : List Evt) : Bs := wrW op a L M ++ List.replicate ((lenN op m).toNat - (wrW op a L M).length) 0
theorem made_n {w : World} {g n : Nat} (h : w.ownsRow 0 5 1 (.slice (some ⟨g, 0, none⟩) n n) n (madeCells (Value.int .u8 0).cells (n * 1)).toList) : Blk w g 5 (List.replicate n (Value.int .u8 0)).toArray := by
  rcases h.2 with ⟨h, _⟩ | ⟨g', cap, cur, hv, _, hb, _, _, hs, ht⟩
  · cases h
  · injection hv with e1 e2 e3
    injection e1 with e1
    injection e1 with e1
    subst e1
    subst e3
    have hc : cur = (List.replicate n (Value.int .u8 0)).toArray := by
      apply Array.ext'
      rw [List.take_of_length_le (by simp [hs])] at ht
      rw [ht, Nat.mul_one]
      exact toList_madeCells_one (Value.int .u8 0) n
    rw [hc] at hb
    exact hb
theorem splice_made (n : Nat) (X : Bs) (h : X.length ≤ n) : splice (List.replicate n (Value.int .u8 0)) 0 (bv X) = bv (X ++ List.replicate (n - X.length) 0) := by
  unfold splice
  rw [List.take_zero, List.nil_append, Nat.zero_add, bv_length, List.drop_replicate, bv_append]
  congr 1
  simp [bv]
def EncP (op m : Int) (a : An) (L : List Snt) (M : List Evt) (w : World) (e : Ending) (w' : World) : Prop :=
  Below w.heap.size w w' ∧ ((opB op = false ∧ e = .returned (.tuple #[.slice none 0 0, .int .i64 51])) ∨ (opB op = true ∧ mayB op m a L M = false ∧ e = .returned (.tuple #[.slice none 0 0, .int .i64 1])) ∨
    (opB op = true ∧ mayB op m a L M = true ∧ ∃ g n, n = (lenN op m).toNat ∧ (encW op m a L M).length = n ∧ w.heap.size ≤ g ∧ e = .returned (.tuple #[.slice (some ⟨g, 0, none⟩) n n, .int .i64 0]) ∧ Blk w' g 5 (bv (encW op m a L M)).toArray))
set_option maxRecDepth 100000 in
set_option maxHeartbeats 8000000 in
theorem encode_any (w : World) (op m : Int) (a : An) (L : List Snt) (M : List Evt) (h : AnR w a L M) (hs : a.sec ≤ 18446744073709551615) :
    Calls Try.prog 14 #[.int .i64 op, .int .i64 m, .agg a.cs] w fun e w' => EncP op m a L M w e w' := by
  obtain ⟨W, hW⟩ : ∃ W, W = w.alloc (.cells a.cs TA) := ⟨_, rfl⟩
  have HBW := Lib.hid (show Below w.heap.size w W by rw [hW]; exact (Below.refl _ _).alloc (Nat.le_refl _) _)
  have HK := Lib.hid (show Blk W w.heap.size TA a.cs by rw [hW]; exact Blk.new _ _ _)
  have e0 : a.cs[0]? = some (.int .i64 a.st) := rfl
  have e1 : a.cs[1]? = some (.int .u64 (a.sec : Int)) := rfl
  have e2 : a.cs[2]? = some (.int .i64 a.rid) := rfl
  have e3 : a.cs[3]? = some (.int .i64 a.rx) := rfl
  have e4 : a.cs[4]? = some (.int .i64 a.ry) := rfl
  have e5 : a.cs[5]? = some (.int .i64 a.lab) := rfl
  have e6 : a.cs[6]? = some (.int .i64 a.b0) := rfl
  have e7 : a.cs[7]? = some (.int .i64 a.b1) := rfl
  have e8 : a.cs[8]? = some (.int .i64 a.b2) := rfl
  have e9 : a.cs[9]? = some (.int .i64 a.b3) := rfl
  have e10 : a.cs[10]? = some (.slice a.sA a.sn a.sc) := rfl
  have e11 : a.cs[11]? = some (.slice a.eA a.en a.ec) := rfl
  have HT := Lib.hid (fun w => rthere_any op w)
  have HFI := Lib.hid (fun W (hW : Below w.heap.size w W) => rfits_any W op m a L M (h.below hW))
  have HSC := Lib.hid hs
  have hWs := hW.symm
  clear hW
  unfold EncP
  cases hop : opB op
  case false =>
    rw [hop] at HT
    go_enter Try.func14, Try.ntmps14
    go_wp2_with fail
    refine (HT.out _).mono ?_
    rintro e w0 ⟨rfl, rfl⟩
    go_wp2_with fail
    go_ret2
    exact ⟨HBW.out, .inl ⟨by trivial, rfl⟩⟩
  case true =>
  rw [hop] at HT
  clear hop
  cases hma : mayB op m a L M
  case false =>
    simp only [hma] at HFI
    clear hma
    go_enter Try.func14, Try.ntmps14
    go_wp2_with fail
    refine (HT.out _).mono ?_
    rintro e w0 ⟨rfl, hw0⟩
    subst hw0
    clear hWs HT
    have k0 := HK.out.cell 0; simp only [e0] at k0
    have k1 := HK.out.cell 1; simp only [e1] at k1
    have k2 := HK.out.cell 2; simp only [e2] at k2
    have k3 := HK.out.cell 3; simp only [e3] at k3
    have k4 := HK.out.cell 4; simp only [e4] at k4
    have k5 := HK.out.cell 5; simp only [e5] at k5
    have k6 := HK.out.cell 6; simp only [e6] at k6
    have k7 := HK.out.cell 7; simp only [e7] at k7
    have k8 := HK.out.cell 8; simp only [e8] at k8
    have k9 := HK.out.cell 9; simp only [e9] at k9
    have k10 := HK.out.cell 10; simp only [e10] at k10
    have k11 := HK.out.cell 11; simp only [e11] at k11
    go_wp2_with fail
    refine (HFI.out _ HBW.out).mono ?_
    rintro e w1 ⟨rfl, hb1⟩
    have HB1 := Lib.hid (below_trans HBW.out hb1)
    clear k0 k1 k2 k3 k4 k5 k6 k7 k8 k9 k10 k11 hb1
    go_wp2_with fail
    go_ret2
    exact ⟨HB1.out, .inr (.inl ⟨by trivial, by trivial, rfl⟩)⟩
  case true =>
  simp only [hma] at HFI
  obtain ⟨q1, q2, q3⟩ := wr_fit h hma
  obtain ⟨_, _, _, _, _, q6, q7⟩ := may_few h hma
  have HWR := Lib.hid (fun W (hW : Below w.heap.size w W) => write_any W op a L M (h.below hW) q6 q7 HSC.out)
  have HLN := Lib.hid (fun w => length_any op m w)
  obtain ⟨n, hn⟩ : ∃ n, n = (lenN op m).toNat := ⟨_, rfl⟩
  have HEN : Hid (encW op m a L M = wrW op a L M ++ List.replicate (n - (wrW op a L M).length) 0) := Lib.hid (by rw [hn]; rfl)
  have HNN := Lib.hid hn
  rw [← q3, ← hn] at HLN
  rw [← hn] at q1 q2
  generalize encW op m a L M = Z at *
  generalize wrW op a L M = X at *
  have HX := Lib.hid q1
  have HN8 := Lib.hid q2
  clear hma q1 q3 q6 q7 hn h
  go_enter Try.func14, Try.ntmps14
  go_wp2_with fail
  refine (HT.out _).mono ?_
  rintro e w0 ⟨rfl, hw0⟩
  subst hw0
  clear hWs HT
  have k0 := HK.out.cell 0; simp only [e0] at k0
  have k1 := HK.out.cell 1; simp only [e1] at k1
  have k2 := HK.out.cell 2; simp only [e2] at k2
  have k3 := HK.out.cell 3; simp only [e3] at k3
  have k4 := HK.out.cell 4; simp only [e4] at k4
  have k5 := HK.out.cell 5; simp only [e5] at k5
  have k6 := HK.out.cell 6; simp only [e6] at k6
  have k7 := HK.out.cell 7; simp only [e7] at k7
  have k8 := HK.out.cell 8; simp only [e8] at k8
  have k9 := HK.out.cell 9; simp only [e9] at k9
  have k10 := HK.out.cell 10; simp only [e10] at k10
  have k11 := HK.out.cell 11; simp only [e11] at k11
  go_wp2_with fail
  refine (HFI.out _ HBW.out).mono ?_
  rintro e w1 ⟨rfl, hb1⟩
  have HB1 := Lib.hid hb1
  clear k0 k1 k2 k3 k4 k5 k6 k7 k8 k9 k10 k11 hb1 HFI
  go_wp2_with fail
  refine (HLN.out _).mono ?_
  rintro e w2 ⟨rfl, hw2⟩
  subst hw2
  obtain ⟨i0, hi0, hz0, hsz0, hby0⟩ := info_parts elB_ok.info
  go_wp2_with ((refine wpList_make_full w1 rfl _ _ _ rfl 0 5 i0 (.int .u8 0) 1 (by kernel_rfl) hi0 hz0 hsz0 .i64 .i64 (n : Int) (n : Int) n rfl rfl rfl rfl (by rw [hby0]; have := HN8.out; have h1 : elB.by_ = 1 := rfl; rw [h1]; omega) (by have := HN8.out; simp only [maxLen]; omega) (Nat.zero_le _) ?_; intro X9 hO hG; have HBX := Lib.hid ((Below.refl w1.heap.size w1).grown hG (Nat.le_refl _) (fun i hi => by cases hi)); have HZX := Lib.hid (made_n hO); clear hO hG; have HAX := Lib.hid ((HK.out.thru0 HB1.out).thru0 HBX.out); have k0 := HAX.out.cell 0; simp only [e0] at k0; have k1 := HAX.out.cell 1; simp only [e1] at k1; have k2 := HAX.out.cell 2; simp only [e2] at k2; have k3 := HAX.out.cell 3; simp only [e3] at k3; have k4 := HAX.out.cell 4; simp only [e4] at k4; have k5 := HAX.out.cell 5; simp only [e5] at k5; have k6 := HAX.out.cell 6; simp only [e6] at k6; have k7 := HAX.out.cell 7; simp only [e7] at k7; have k8 := HAX.out.cell 8; simp only [e8] at k8; have k9 := HAX.out.cell 9; simp only [e9] at k9; have k10 := HAX.out.cell 10; simp only [e10] at k10; have k11 := HAX.out.cell 11; simp only [e11] at k11))
  refine (HWR.out _ (below_trans (below_trans HBW.out HB1.out) HBX.out)).mono ?_
  rintro e w3 ⟨v3, rfl, hf3⟩
  obtain ⟨A3, c3, hv3, _, _⟩ := hf3.own.slice
  subst hv3
  have HF3 := Lib.hid hf3
  have HZ3 := Lib.hid (HZX.out.thru0 hf3.bel)
  have HB3 := Lib.hid (below_trans (below_trans HB1.out HBX.out) hf3.bel)
  have HRD := Lib.hid (EOwn.reads (M := X) elB_ok hf3.own)
  clear hf3 k0 k1 k2 k3 k4 k5 k6 k7 k8 k9 k10 k11
  go_wp2_with ((with_reducible refine wpList_copy_splice rfl (.tmp 21) (.tmp 24) _ _ rfl 5 ?hu ?hs (some ⟨w1.heap.size, 0, none⟩) A3 n n X.length c3 ?hd ?hx w1.heap.size 0 (List.replicate n (Value.int .u8 0)) 5 ?hg (bv X) ?hn ?hp ?hf ?h1 W.heap.size W HB3.out ?hb ?_))
  case hu => kernel_rfl
  case hs => kernel_rfl
  case hd => rfl
  case hx => rfl
  case hg => exact HZ3.out
  case hn => rw [bv_length]; exact (Nat.min_eq_left HX.out).symm
  case hp =>
    intro hp
    obtain ⟨ad, e, _, hc⟩ := HRD.out.2 (by rw [bv_length] at hp; omega)
    have hc2 : ∀ (j : Nat) (v : Value), (bv X)[j]? = some v → w3.cell? (ad.add j) = some v := fun j v hv => hc j v (by rw [rbv_encs]; exact hv)
    first | exact ⟨rfl, ad, e, hc2⟩ | exact ⟨ad, e, hc2⟩
  case hf => rw [bv_length, List.length_replicate]; have := HX.out; omega
  case h1 => exact bv_one _
  case hb => exact HB1.out.size
  intro w4 hg4 hb4
  have HG4 := Lib.hid hg4.out
  have HB4 := Lib.hid (below_trans HBW.out hb4)
  have HGW := Lib.hid (Nat.le_trans HBW.out.size HB1.out.size)
  rw [splice_made n X HX.out, ← HEN.out] at HG4
  have HZL : Hid (Z.length = n) := Lib.hid (by rw [HEN.out, List.length_append, List.length_replicate]; have := HX.out; omega)
  clear hg4 hb4
  go_wp2_with fail
  go_ret2
  exact ⟨HB4.out, .inr (.inr ⟨by trivial, by trivial, _, _, HNN.out, HZL.out, HGW.out, rfl, HG4.out⟩)⟩
end Go.Proofs.Ytmapcdmegkfheaa
