/- reply: write of any answer, by contract. -/
import Derived.Test.YtmapcdmegkfheaaZbRe13
namespace Go.Proofs.Ytmapcdmegkfheaa
set_option linter.unusedVariables false
set_option linter.unusedSimpArgs false
open Go.RowKit
def seenW (s : Snt) : Bs := rowB 2 [s.id] ++ (rowB 1 [s.lev] ++ rowB 2 [s.b0, s.b1, s.b2, s.b3])
def evtW (e : Evt) : Bs := rowB 2 [e.usr] ++ (rowB 1 [e.op, e.st] ++ rowB 4 [e.tick])
def midW (op : Int) (a : An) : Bs :=
  if op = 4 ∨ op = 5 then rowU 8 [a.sec] else if op = 12 then rowB 2 [a.rx, a.ry] ++ rowB 1 [a.lab] else if op = 10 then rowB 2 [a.b0, a.b1, a.b2, a.b3] else []
/-- The bytes of an answer up to its last item. -/
def wrW (op : Int) (a : An) (L : List Snt) (M : List Evt) : Bs := rowB 1 [a.st, op, (a.sn : Int) + (a.en : Int)] ++ (midW op a ++ (L.flatMap seenW ++ M.flatMap evtW))
theorem put_call2 (w : World) (o : Obj) (k : Nat) (h1 : 1 ≤ k) (h8 : k ≤ 8) (L : List Int) (hl : L.length ≤ 100) :
    Calls Try.prog 27 #[.int .i64 (k : Int), .slice (some ⟨w.heap.size + 1, 0, none⟩) L.length L.length] ((w.alloc o).alloc (.cells (L.map fun x => Value.int .i64 x).toArray 3)) fun e w' => ∃ v, e = .returned v ∧ FBy (w.alloc o) v (rowB k L) w' := by
  have h := put_call (w.alloc o) k h1 h8 L hl
  have hs : (w.alloc o).heap.size = w.heap.size + 1 := by simp
  rw [hs] at h
  exact h
theorem keepq {w1 w' : World} {v v' : Value} {L : Bs} {q : Nat} {t : TypeId} {cs : Array Value} (hb : Blk w1 q t cs) (ha : EApp elB v L w1 v' w') (hn : ∀ i, v.ownBlock = some i → i ≠ q) : Blk w' q t cs ∧ ∀ i, v'.ownBlock = some i → i ≠ q :=
  ⟨hb.grown ha.2.1 (fun e => hn _ e.symm rfl), fun i hi => by
    rcases ha.2.2 i hi with h | h
    · exact hn i h
    · have := hb.lt; omega⟩
theorem seenW_le (L : List Snt) : (L.flatMap seenW).length ≤ L.length * 11 := by
  induction L with
  | nil => simp
  | cons x L ih =>
    have h1 := rowB_len 2 [x.id]
    have h2 := rowB_len 1 [x.lev]
    have h3 := rowB_len 2 [x.b0, x.b1, x.b2, x.b3]
    simp only [List.length_cons, List.length_nil] at h1 h2 h3
    rw [List.flatMap_cons, List.length_append, List.length_cons]
    simp only [seenW, List.length_append]
    omega
theorem evtW_le (L : List Evt) : (L.flatMap evtW).length ≤ L.length * 8 := by
  induction L with
  | nil => simp
  | cons x L ih =>
    have h1 := rowB_len 2 [x.usr]
    have h2 := rowB_len 1 [x.op, x.st]
    have h3 := rowB_len 4 [x.tick]
    simp only [List.length_cons, List.length_nil] at h1 h2 h3
    rw [List.flatMap_cons, List.length_append, List.length_cons]
    simp only [evtW, List.length_append]
    omega
theorem tk_seen (L : List Snt) (k : Nat) (h : k < L.length) : (L.take (k + 1)).flatMap seenW = (L.take k).flatMap seenW ++ (rowB 2 [L[k].id] ++ (rowB 1 [L[k].lev] ++ rowB 2 [L[k].b0, L[k].b1, L[k].b2, L[k].b3])) := by
  rw [List.take_succ_eq_append_getElem h, List.flatMap_append]; simp [seenW]
theorem tk_evt (L : List Evt) (k : Nat) (h : k < L.length) : (L.take (k + 1)).flatMap evtW = (L.take k).flatMap evtW ++ (rowB 2 [L[k].usr] ++ (rowB 1 [L[k].op, L[k].st] ++ rowB 4 [L[k].tick])) := by
  rw [List.take_succ_eq_append_getElem h, List.flatMap_append]; simp [evtW]
set_option maxRecDepth 100000 in
set_option maxHeartbeats 8000000 in
theorem write_mint (w : World) (a : An) (L : List Snt) (M : List Evt) (h : AnR w a L M) (hL : L.length ≤ 64) (hM : M.length ≤ 64) (hs : a.sec ≤ 18446744073709551615) :
    Calls Try.prog 28 #[.int .i64 (4), .agg a.cs] w fun e w' => ∃ v, e = .returned v ∧ FBy w v (wrW (4) a L M) w' := by
  obtain ⟨W, hW⟩ : ∃ W, W = w.alloc (.cells a.cs TA) := ⟨_, rfl⟩
  have HBW := Lib.hid (show Below w.heap.size w W by rw [hW]; exact (Below.refl _ _).alloc (Nat.le_refl _) _)
  have HK := Lib.hid (show Blk W w.heap.size TA a.cs by rw [hW]; exact Blk.new _ _ _)
  have e0 : a.cs[0]? = some (.int .i64 a.st) := rfl
  have e1 : a.cs[1]? = some (.int .u64 (a.sec : Int)) := rfl
  have e2 : a.cs[2]? = some (.int .i64 a.rid) := rfl
  have e3 : a.cs[3]? = some (.int .i64 a.rx) := rfl
  have e4 : a.cs[4]? = some (.int .i64 a.ry) := rfl
  have e5 : a.cs[5]? = some (.int .i64 a.lab) := rfl
  have e6 : a.cs[6]? = some (.int .i64 a.b0) := rfl
  have e7 : a.cs[7]? = some (.int .i64 a.b1) := rfl
  have e8 : a.cs[8]? = some (.int .i64 a.b2) := rfl
  have e9 : a.cs[9]? = some (.int .i64 a.b3) := rfl
  have e10 : a.cs[10]? = some (.slice a.sA a.sn a.sc) := rfl
  have e11 : a.cs[11]? = some (.slice a.eA a.en a.ec) := rfl
  have HSC := Lib.hid hs
  obtain ⟨n1, hn1⟩ : ∃ n, n = a.sn := ⟨_, rfl⟩
  obtain ⟨n2, hn2⟩ : ∃ n, n = a.en := ⟨_, rfl⟩
  obtain ⟨sA, hsA⟩ : ∃ n, n = a.sA := ⟨_, rfl⟩
  obtain ⟨eA, heA⟩ : ∃ n, n = a.eA := ⟨_, rfl⟩
  have HRS : Hid (ERd elOS w (.slice sA n1 a.sc) L) := Lib.hid (by rw [hsA, hn1]; exact h.seen)
  have HRE : Hid (ERd elOE w (.slice eA n2 a.ec) M) := Lib.hid (by rw [heA, hn2]; exact h.evs)
  have HN1 : Hid (n1 = L.length) := Lib.hid (hn1.trans h.sl.symm)
  have HN2 : Hid (n2 = M.length) := Lib.hid (hn2.trans h.el.symm)
  have HL1 := Lib.hid hL
  have HL2 := Lib.hid hM
  have hq1 : n1 ≤ 64 := by rw [HN1.out]; exact hL
  have hq2 : n2 ≤ 64 := by rw [HN2.out]; exact hM
  have e10' : a.cs[10]? = some (.slice sA n1 a.sc) := by rw [hn1, hsA]; exact e10
  have e11' : a.cs[11]? = some (.slice eA n2 a.ec) := by rw [hn2, heA]; exact e11
  have HWR : Hid (wrW (4) a L M = rowB 1 [a.st, (4), (n1 : Int) + (n2 : Int)] ++ (midW (4) a ++ (L.flatMap seenW ++ M.flatMap evtW))) := Lib.hid (by rw [hn1, hn2]; rfl)
  clear h hL hM hs e10 e11 hn1 hn2 hsA heA
  have e10 := e10'
  have e11 := e11'
  clear e10' e11'
  have hWs := hW.symm
  have k0 := HK.out.cell 0; simp only [e0] at k0
  have k10 := HK.out.cell 10; simp only [e10] at k10
  have k11 := HK.out.cell 11; simp only [e11] at k11
  have HP0 := Lib.hid (put_call W 1 (by decide) (by decide) [a.st, (4), (n1 : Int) + (n2 : Int)] (by simp))
  have HL0 := Lib.hid (rowB_len 1 [a.st, (4), (n1 : Int) + (n2 : Int)])
  clear hW
  generalize rowB 1 [a.st, (4), (n1 : Int) + (n2 : Int)] = R0 at *
  go_enter Try.func28, Try.ntmps28
  go_wp2_with fail
  refine HP0.out.mono ?_
  rintro e w0 ⟨v0, rfl, hf0⟩
  have HF0 := Lib.hid hf0
  have HLZ : Hid (R0.length ≤ 3) := HL0
  clear hf0 hWs k0 k10 k11 HP0
  obtain ⟨A1, c1, hv1, hl1, hm1⟩ := HF0.out.own.slice
  generalize (R0).length = lj1 at hv1 hl1
  subst hv1
  clear hl1 hm1
  have HP1 := Lib.hid (fun w => putu_call w 8 (by decide) (by decide) [a.sec] (by intro x hx; simp at hx; rw [hx]; exact HSC.out) (by simp))
  have HLP : Hid (R0.length ≤ 3 ∧ (rowU 8 [a.sec]).length ≤ 8) := Lib.hid ⟨HLZ.out, rowU_len _ _⟩
  have HMW : Hid (midW 4 a = rowU 8 [a.sec]) := Lib.hid rfl
  generalize rowU 8 [a.sec] = P1 at *
  have k1 := (HK.out.thru0 HF0.out.bel).cell 1; simp only [e1] at k1
  go_wp2_with fail
  refine (HP1.out _).mono ?_
  rintro e w2 ⟨v2, rfl, hf2⟩
  have HQ2 := Lib.hid hf2
  have HG2 := Lib.hid (HF0.out.below hf2.bel)
  clear hf2 k1
  obtain ⟨Ap2, cp2, hvp2, _, _⟩ := HQ2.out.own.slice
  subst hvp2
  have HR2 := Lib.hid (EOwn.reads (M := P1) elB_ok HQ2.out.own)
  go_wp2_with ((at_builtin; go_loud (refine wpList_eappr2 (e2 := 5) elB_ok rfl _ _ 24 24 rfl (by kernel_rfl) (by kernel_rfl) _ R0 P1 Ap2 cp2 rfl rfl HG2.out.own HR2.out (by have := HLP.out; simp only [maxLen, List.length_append]; omega) (by have := HLP.out; have h1 : elB.by_ = 1 := rfl; rw [h1]; (try simp only [List.length_append]); omega) ?_; intro vn2 wn2 hA; have HFX := Lib.hid (HG2.out.app (Below.refl _ _) hA); clear hA; obtain ⟨A3, c3, hv3, hl3, hm3⟩ := HFX.out.own.slice; generalize (R0 ++ P1).length = lj3 at hv3 hl3; subst hv3; clear hl3 hm3; have k10 := (HK.out.thru0 HFX.out.bel).cell 10; simp only [e10] at k10)))
  have HLX : Hid ((R0 ++ P1).length ≤ 12) := Lib.hid (by rw [List.length_append]; have := HLP.out; omega)
  have HRX : Hid (wrW 4 a L M = R0 ++ P1 ++ (L.flatMap seenW ++ M.flatMap evtW)) := Lib.hid (by rw [HWR.out, HMW.out]; simp only [List.append_assoc])
  generalize R0 ++ P1 = R at *
  have HFS := HFX
  go_loopw [5, 63] (fun b i wr => ∃ k : Nat, k ≤ n1 ∧ i = .int .i64 k ∧ Hid (FBy W b (R ++ (L.take k).flatMap seenW) wr)) (fun _ i _ => n1 - (intOf i).toNat)
  case atStart => exact ⟨0, Nat.zero_le _, rfl, by simpa using HFS⟩
  case round =>
    rename World => wr
    obtain ⟨k, hk, rfl, HF⟩ := hrel
    have HLR : Hid ((R ++ (L.take k).flatMap seenW).length ≤ 800) := Lib.hid (by
      have h1 := seenW_le (L.take k)
      have h2 : (L.take k).length ≤ 64 := by rw [List.length_take]; have := HL1.out; omega
      have h3 := HLX.out
      rw [List.length_append]; omega)
    by_cases hlt : k < n1
    · have hkl : k < L.length := by rw [← HN1.out]; exact hlt
      have hx : L[k]? = some L[k] := List.getElem?_eq_getElem hkl
      have HTK := Lib.hid (tk_seen L k hkl)
      obtain ⟨g, o, hg, a0, a1, a2, a3, a4, a5⟩ := elOS_at (HRS.out.below (below_trans HBW.out HF.out.bel)) hx
      subst hg
      have hlt2 : (k : Int) < n1 := by omega
      generalize L[k] = x at *
      clear hx
      have HP1 := Lib.hid (fun o => put_call2 wr o 2 (by decide) (by decide) [x.id] (by simp))
      have HP2 := Lib.hid (fun w => put_call w 1 (by decide) (by decide) [x.lev] (by simp))
      have HP3 := Lib.hid (fun w => putbox_any w x.b0 x.b1 x.b2 x.b3)
      have HLP : Hid ((R ++ (L.take k).flatMap seenW).length ≤ 800 ∧ (rowB 2 [x.id]).length ≤ 2 ∧ (rowB 1 [x.lev]).length ≤ 1 ∧ (rowB 2 [x.b0, x.b1, x.b2, x.b3]).length ≤ 8) := Lib.hid ⟨HLR.out, rowB_len _ _, rowB_len _ _, rowB_len _ _⟩
      generalize rowB 2 [x.id] = P1 at *
      generalize rowB 1 [x.lev] = P2 at *
      generalize rowB 2 [x.b0, x.b1, x.b2, x.b3] = P3 at *
      have HTK2 : Hid (R ++ (L.take (k + 1)).flatMap seenW = R ++ (L.take k).flatMap seenW ++ P1 ++ P2 ++ P3) := Lib.hid (by rw [HTK.out]; simp only [List.append_assoc])
      generalize R ++ (L.take k).flatMap seenW = Q at *
      clear HTK
      obtain ⟨A4, c4, hv4, hl4, hm4⟩ := HF.out.own.slice
      generalize (Q).length = lj4 at hv4 hl4
      subst hv4
      clear hl4 hm4
      go_wp2_with fail
      refine (HP1.out _).mono ?_
      rintro e w5 ⟨v5, rfl, hf5⟩
      have HQ5 := Lib.hid hf5
      have HG5 := Lib.hid ((HF.out.below ((Below.refl _ _).alloc (Nat.le_refl _) _)).below hf5.bel)
      have HS5 := Lib.hid ((Blk.new wr 59 #[.int .i64 x.id, .int .i64 x.lev, .int .i64 x.b0, .int .i64 x.b1, .int .i64 x.b2, .int .i64 x.b3]).thru0 hf5.bel)
      have HNQ := Lib.hid (fun i hi => Nat.ne_of_lt (HF.out.own.lt (i := i) hi))
      clear hf5 a0 a1 a2 a3 a4 a5
      obtain ⟨Ap5, cp5, hvp5, _, _⟩ := HQ5.out.own.slice
      subst hvp5
      have HR5 := Lib.hid (EOwn.reads (M := P1) elB_ok HQ5.out.own)
      go_wp2_with ((at_builtin; go_loud (refine wpList_eappr2 (e2 := 5) elB_ok rfl _ _ 24 24 rfl (by kernel_rfl) (by kernel_rfl) _ Q P1 Ap5 cp5 rfl rfl HG5.out.own HR5.out (by have := HLP.out; simp only [maxLen, List.length_append]; omega) (by have := HLP.out; have h1 : elB.by_ = 1 := rfl; rw [h1]; (try simp only [List.length_append]); omega) ?_; intro vn5 wn5 hA; have HFa := Lib.hid (HG5.out.app (Below.refl _ _) hA); have HKQ := Lib.hid (keepq HS5.out hA HNQ.out); clear HNQ; have HSan := Lib.hid HKQ.out.1; have HNQ := Lib.hid HKQ.out.2; clear HKQ; have s1 := HSan.out.cell 1; simp only [List.getElem?_toArray, List.getElem?_cons_zero, List.getElem?_cons_succ] at s1; clear hA; obtain ⟨A6, c6, hv6, hl6, hm6⟩ := HFa.out.own.slice; generalize (Q ++ P1).length = lj6 at hv6 hl6; subst hv6; clear hl6 hm6)))
      refine (HP2.out _).mono ?_
      rintro e w7 ⟨v7, rfl, hf7⟩
      have HQ7 := Lib.hid hf7
      have HG7 := Lib.hid (HFa.out.below hf7.bel)
      have HS7 := Lib.hid (HSan.out.thru0 hf7.bel)
      clear hf7 s1
      obtain ⟨Ap7, cp7, hvp7, _, _⟩ := HQ7.out.own.slice
      subst hvp7
      have HR7 := Lib.hid (EOwn.reads (M := P2) elB_ok HQ7.out.own)
      go_wp2_with ((at_builtin; go_loud (refine wpList_eappr2 (e2 := 5) elB_ok rfl _ _ 24 24 rfl (by kernel_rfl) (by kernel_rfl) _ (Q ++ P1) P2 Ap7 cp7 rfl rfl HG7.out.own HR7.out (by have := HLP.out; simp only [maxLen, List.length_append]; omega) (by have := HLP.out; have h1 : elB.by_ = 1 := rfl; rw [h1]; (try simp only [List.length_append]); omega) ?_; intro vn7 wn7 hA; have HFb := Lib.hid (HG7.out.app (Below.refl _ _) hA); have HKQ := Lib.hid (keepq HS7.out hA HNQ.out); clear HNQ; have HSbn := Lib.hid HKQ.out.1; have HNQ := Lib.hid HKQ.out.2; clear HKQ; have s2 := HSbn.out.cell 2; simp only [List.getElem?_toArray, List.getElem?_cons_zero, List.getElem?_cons_succ] at s2; have s3 := HSbn.out.cell 3; simp only [List.getElem?_toArray, List.getElem?_cons_zero, List.getElem?_cons_succ] at s3; have s4 := HSbn.out.cell 4; simp only [List.getElem?_toArray, List.getElem?_cons_zero, List.getElem?_cons_succ] at s4; have s5 := HSbn.out.cell 5; simp only [List.getElem?_toArray, List.getElem?_cons_zero, List.getElem?_cons_succ] at s5; clear hA; obtain ⟨A8, c8, hv8, hl8, hm8⟩ := HFb.out.own.slice; generalize (Q ++ P1 ++ P2).length = lj8 at hv8 hl8; subst hv8; clear hl8 hm8)))
      refine (HP3.out _).mono ?_
      rintro e w9 ⟨v9, rfl, hf9⟩
      have HQ9 := Lib.hid hf9
      have HG9 := Lib.hid (HFb.out.below hf9.bel)
      clear hf9 s2 s3 s4 s5
      obtain ⟨Ap9, cp9, hvp9, _, _⟩ := HQ9.out.own.slice
      subst hvp9
      have HR9 := Lib.hid (EOwn.reads (M := P3) elB_ok HQ9.out.own)
      go_wp2_with ((at_builtin; go_loud (refine wpList_eappr2 (e2 := 5) elB_ok rfl _ _ 24 24 rfl (by kernel_rfl) (by kernel_rfl) _ (Q ++ P1 ++ P2) P3 Ap9 cp9 rfl rfl HG9.out.own HR9.out (by have := HLP.out; simp only [maxLen, List.length_append]; omega) (by have := HLP.out; have h1 : elB.by_ = 1 := rfl; rw [h1]; (try simp only [List.length_append]); omega) ?_; intro vn9 wn9 hA; have HFc := Lib.hid (HG9.out.app (Below.refl _ _) hA); clear hA; obtain ⟨A10, c10, hv10, hl10, hm10⟩ := HFc.out.own.slice; generalize (Q ++ P1 ++ P2 ++ P3).length = lj10 at hv10 hl10; subst hv10; clear hl10 hm10)))
      go_roundw
      case rel => exact ⟨k + 1, by omega, by go_num, Lib.hid (by rw [HTK2.out]; exact HFc.out)⟩
      case measure => simp [intOf]; omega
    · obtain rfl : k = n1 := by omega
      have HT2 : Hid (L.take k = L) := Lib.hid (by rw [HN1.out, List.take_length])
      rw [HT2.out] at HF HLR
      have k11 := (HK.out.thru0 HF.out.bel).cell 11; simp only [e11] at k11
      generalize hRR : R ++ L.flatMap seenW = RR at *
      have HRR := Lib.hid hRR
      clear hRR
      obtain ⟨A11, c11, hv11, hl11, hm11⟩ := HF.out.own.slice
      generalize (RR).length = lj11 at hv11 hl11
      subst hv11
      clear hl11 hm11
      go_wp2_with fail
      have HFT := HF
      go_loopw [5, 88] (fun b i wr => ∃ j : Nat, j ≤ n2 ∧ i = .int .i64 j ∧ Hid (FBy W b (RR ++ (M.take j).flatMap evtW) wr)) (fun _ i _ => n2 - (intOf i).toNat)
      case atStart => exact ⟨0, Nat.zero_le _, rfl, by simpa using HFT⟩
      case round =>
        rename World => wr2
        obtain ⟨j, hj, rfl, HF2⟩ := hrel
        have HLR2 : Hid ((RR ++ (M.take j).flatMap evtW).length ≤ 1600) := Lib.hid (by
          have h1 := evtW_le (M.take j)
          have h2 : (M.take j).length ≤ 64 := by rw [List.length_take]; have := HL2.out; omega
          have h3 := HLR.out
          rw [List.length_append]; omega)
        by_cases hlt3 : j < n2
        · have hkl : j < M.length := by rw [← HN2.out]; exact hlt3
          have hx : M[j]? = some M[j] := List.getElem?_eq_getElem hkl
          have HTK := Lib.hid (tk_evt M j hkl)
          obtain ⟨g, o, hg, a0, a1, a2, a3⟩ := elOE_at (HRE.out.below (below_trans HBW.out HF2.out.bel)) hx
          subst hg
          have hlt4 : (j : Int) < n2 := by omega
          generalize M[j] = x at *
          clear hx
          have HP1 := Lib.hid (fun o => put_call2 wr2 o 2 (by decide) (by decide) [x.usr] (by simp))
          have HP2 := Lib.hid (fun w => put_call w 1 (by decide) (by decide) [x.op, x.st] (by simp))
          have HP3 := Lib.hid (fun w => put_call w 4 (by decide) (by decide) [x.tick] (by simp))
          have HLP : Hid ((RR ++ (M.take j).flatMap evtW).length ≤ 1600 ∧ (rowB 2 [x.usr]).length ≤ 2 ∧ (rowB 1 [x.op, x.st]).length ≤ 2 ∧ (rowB 4 [x.tick]).length ≤ 4) := Lib.hid ⟨HLR2.out, rowB_len _ _, rowB_len _ _, rowB_len _ _⟩
          generalize rowB 2 [x.usr] = P1 at *
          generalize rowB 1 [x.op, x.st] = P2 at *
          generalize rowB 4 [x.tick] = P3 at *
          have HTK2 : Hid (RR ++ (M.take (j + 1)).flatMap evtW = RR ++ (M.take j).flatMap evtW ++ P1 ++ P2 ++ P3) := Lib.hid (by rw [HTK.out]; simp only [List.append_assoc])
          generalize RR ++ (M.take j).flatMap evtW = Q at *
          clear HTK
          obtain ⟨A12, c12, hv12, hl12, hm12⟩ := HF2.out.own.slice
          generalize (Q).length = lj12 at hv12 hl12
          subst hv12
          clear hl12 hm12
          go_wp2_with fail
          refine (HP1.out _).mono ?_
          rintro e w13 ⟨v13, rfl, hf13⟩
          have HQ13 := Lib.hid hf13
          have HG13 := Lib.hid ((HF2.out.below ((Below.refl _ _).alloc (Nat.le_refl _) _)).below hf13.bel)
          have HS13 := Lib.hid ((Blk.new wr2 62 #[.int .i64 x.usr, .int .i64 x.op, .int .i64 x.st, .int .i64 x.tick]).thru0 hf13.bel)
          have HNQ := Lib.hid (fun i hi => Nat.ne_of_lt (HF2.out.own.lt (i := i) hi))
          clear hf13 a0 a1 a2 a3
          obtain ⟨Ap13, cp13, hvp13, _, _⟩ := HQ13.out.own.slice
          subst hvp13
          have HR13 := Lib.hid (EOwn.reads (M := P1) elB_ok HQ13.out.own)
          go_wp2_with ((at_builtin; go_loud (refine wpList_eappr2 (e2 := 5) elB_ok rfl _ _ 24 24 rfl (by kernel_rfl) (by kernel_rfl) _ Q P1 Ap13 cp13 rfl rfl HG13.out.own HR13.out (by have := HLP.out; simp only [maxLen, List.length_append]; omega) (by have := HLP.out; have h1 : elB.by_ = 1 := rfl; rw [h1]; (try simp only [List.length_append]); omega) ?_; intro vn13 wn13 hA; have HFa := Lib.hid (HG13.out.app (Below.refl _ _) hA); have HKQ := Lib.hid (keepq HS13.out hA HNQ.out); clear HNQ; have HSan := Lib.hid HKQ.out.1; have HNQ := Lib.hid HKQ.out.2; clear HKQ; have s1 := HSan.out.cell 1; simp only [List.getElem?_toArray, List.getElem?_cons_zero, List.getElem?_cons_succ] at s1; have s2 := HSan.out.cell 2; simp only [List.getElem?_toArray, List.getElem?_cons_zero, List.getElem?_cons_succ] at s2; clear hA; obtain ⟨A14, c14, hv14, hl14, hm14⟩ := HFa.out.own.slice; generalize (Q ++ P1).length = lj14 at hv14 hl14; subst hv14; clear hl14 hm14)))
          refine (HP2.out _).mono ?_
          rintro e w15 ⟨v15, rfl, hf15⟩
          have HQ15 := Lib.hid hf15
          have HG15 := Lib.hid (HFa.out.below hf15.bel)
          have HS15 := Lib.hid (HSan.out.thru0 hf15.bel)
          clear hf15 s1 s2
          obtain ⟨Ap15, cp15, hvp15, _, _⟩ := HQ15.out.own.slice
          subst hvp15
          have HR15 := Lib.hid (EOwn.reads (M := P2) elB_ok HQ15.out.own)
          go_wp2_with ((at_builtin; go_loud (refine wpList_eappr2 (e2 := 5) elB_ok rfl _ _ 24 24 rfl (by kernel_rfl) (by kernel_rfl) _ (Q ++ P1) P2 Ap15 cp15 rfl rfl HG15.out.own HR15.out (by have := HLP.out; simp only [maxLen, List.length_append]; omega) (by have := HLP.out; have h1 : elB.by_ = 1 := rfl; rw [h1]; (try simp only [List.length_append]); omega) ?_; intro vn15 wn15 hA; have HFb := Lib.hid (HG15.out.app (Below.refl _ _) hA); have HKQ := Lib.hid (keepq HS15.out hA HNQ.out); clear HNQ; have HSbn := Lib.hid HKQ.out.1; have HNQ := Lib.hid HKQ.out.2; clear HKQ; have s3 := HSbn.out.cell 3; simp only [List.getElem?_toArray, List.getElem?_cons_zero, List.getElem?_cons_succ] at s3; clear hA; obtain ⟨A16, c16, hv16, hl16, hm16⟩ := HFb.out.own.slice; generalize (Q ++ P1 ++ P2).length = lj16 at hv16 hl16; subst hv16; clear hl16 hm16)))
          refine (HP3.out _).mono ?_
          rintro e w17 ⟨v17, rfl, hf17⟩
          have HQ17 := Lib.hid hf17
          have HG17 := Lib.hid (HFb.out.below hf17.bel)
          clear hf17 s3
          obtain ⟨Ap17, cp17, hvp17, _, _⟩ := HQ17.out.own.slice
          subst hvp17
          have HR17 := Lib.hid (EOwn.reads (M := P3) elB_ok HQ17.out.own)
          go_wp2_with ((at_builtin; go_loud (refine wpList_eappr2 (e2 := 5) elB_ok rfl _ _ 24 24 rfl (by kernel_rfl) (by kernel_rfl) _ (Q ++ P1 ++ P2) P3 Ap17 cp17 rfl rfl HG17.out.own HR17.out (by have := HLP.out; simp only [maxLen, List.length_append]; omega) (by have := HLP.out; have h1 : elB.by_ = 1 := rfl; rw [h1]; (try simp only [List.length_append]); omega) ?_; intro vn17 wn17 hA; have HFc := Lib.hid (HG17.out.app (Below.refl _ _) hA); clear hA; obtain ⟨A18, c18, hv18, hl18, hm18⟩ := HFc.out.own.slice; generalize (Q ++ P1 ++ P2 ++ P3).length = lj18 at hv18 hl18; subst hv18; clear hl18 hm18)))
          go_roundw
          case rel => exact ⟨j + 1, by omega, by go_num, Lib.hid (by rw [HTK2.out]; exact HFc.out)⟩
          case measure => simp [intOf]; omega
        · obtain rfl : j = n2 := by omega
          have HT3 : Hid (M.take j = M) := Lib.hid (by rw [HN2.out, List.take_length])
          rw [HT3.out] at HF2
          have HEE : Hid (RR ++ M.flatMap evtW = wrW 4 a L M) := Lib.hid (by rw [← HRR.out, HRX.out]; simp only [wrW, List.append_assoc])
          rw [HEE.out] at HF2
          obtain ⟨A19, c19, hv19, hl19, hm19⟩ := HF2.out.own.slice
          generalize (wrW 4 a L M).length = lj19 at hv19 hl19
          subst hv19
          clear hl19 hm19
          go_wp2_with fail
          go_ret
          exact ⟨_, rfl, HF2.out.up HBW.out⟩
set_option maxRecDepth 100000 in
set_option maxHeartbeats 8000000 in
theorem write_att (w : World) (a : An) (L : List Snt) (M : List Evt) (h : AnR w a L M) (hL : L.length ≤ 64) (hM : M.length ≤ 64) (hs : a.sec ≤ 18446744073709551615) :
    Calls Try.prog 28 #[.int .i64 (5), .agg a.cs] w fun e w' => ∃ v, e = .returned v ∧ FBy w v (wrW (5) a L M) w' := by
  obtain ⟨W, hW⟩ : ∃ W, W = w.alloc (.cells a.cs TA) := ⟨_, rfl⟩
  have HBW := Lib.hid (show Below w.heap.size w W by rw [hW]; exact (Below.refl _ _).alloc (Nat.le_refl _) _)
  have HK := Lib.hid (show Blk W w.heap.size TA a.cs by rw [hW]; exact Blk.new _ _ _)
  have e0 : a.cs[0]? = some (.int .i64 a.st) := rfl
  have e1 : a.cs[1]? = some (.int .u64 (a.sec : Int)) := rfl
  have e2 : a.cs[2]? = some (.int .i64 a.rid) := rfl
  have e3 : a.cs[3]? = some (.int .i64 a.rx) := rfl
  have e4 : a.cs[4]? = some (.int .i64 a.ry) := rfl
  have e5 : a.cs[5]? = some (.int .i64 a.lab) := rfl
  have e6 : a.cs[6]? = some (.int .i64 a.b0) := rfl
  have e7 : a.cs[7]? = some (.int .i64 a.b1) := rfl
  have e8 : a.cs[8]? = some (.int .i64 a.b2) := rfl
  have e9 : a.cs[9]? = some (.int .i64 a.b3) := rfl
  have e10 : a.cs[10]? = some (.slice a.sA a.sn a.sc) := rfl
  have e11 : a.cs[11]? = some (.slice a.eA a.en a.ec) := rfl
  have HSC := Lib.hid hs
  obtain ⟨n1, hn1⟩ : ∃ n, n = a.sn := ⟨_, rfl⟩
  obtain ⟨n2, hn2⟩ : ∃ n, n = a.en := ⟨_, rfl⟩
  obtain ⟨sA, hsA⟩ : ∃ n, n = a.sA := ⟨_, rfl⟩
  obtain ⟨eA, heA⟩ : ∃ n, n = a.eA := ⟨_, rfl⟩
  have HRS : Hid (ERd elOS w (.slice sA n1 a.sc) L) := Lib.hid (by rw [hsA, hn1]; exact h.seen)
  have HRE : Hid (ERd elOE w (.slice eA n2 a.ec) M) := Lib.hid (by rw [heA, hn2]; exact h.evs)
  have HN1 : Hid (n1 = L.length) := Lib.hid (hn1.trans h.sl.symm)
  have HN2 : Hid (n2 = M.length) := Lib.hid (hn2.trans h.el.symm)
  have HL1 := Lib.hid hL
  have HL2 := Lib.hid hM
  have hq1 : n1 ≤ 64 := by rw [HN1.out]; exact hL
  have hq2 : n2 ≤ 64 := by rw [HN2.out]; exact hM
  have e10' : a.cs[10]? = some (.slice sA n1 a.sc) := by rw [hn1, hsA]; exact e10
  have e11' : a.cs[11]? = some (.slice eA n2 a.ec) := by rw [hn2, heA]; exact e11
  have HWR : Hid (wrW (5) a L M = rowB 1 [a.st, (5), (n1 : Int) + (n2 : Int)] ++ (midW (5) a ++ (L.flatMap seenW ++ M.flatMap evtW))) := Lib.hid (by rw [hn1, hn2]; rfl)
  clear h hL hM hs e10 e11 hn1 hn2 hsA heA
  have e10 := e10'
  have e11 := e11'
  clear e10' e11'
  have hWs := hW.symm
  have k0 := HK.out.cell 0; simp only [e0] at k0
  have k10 := HK.out.cell 10; simp only [e10] at k10
  have k11 := HK.out.cell 11; simp only [e11] at k11
  have HP0 := Lib.hid (put_call W 1 (by decide) (by decide) [a.st, (5), (n1 : Int) + (n2 : Int)] (by simp))
  have HL0 := Lib.hid (rowB_len 1 [a.st, (5), (n1 : Int) + (n2 : Int)])
  clear hW
  generalize rowB 1 [a.st, (5), (n1 : Int) + (n2 : Int)] = R0 at *
  go_enter Try.func28, Try.ntmps28
  go_wp2_with fail
  refine HP0.out.mono ?_
  rintro e w0 ⟨v0, rfl, hf0⟩
  have HF0 := Lib.hid hf0
  have HLZ : Hid (R0.length ≤ 3) := HL0
  clear hf0 hWs k0 k10 k11 HP0
  obtain ⟨A1, c1, hv1, hl1, hm1⟩ := HF0.out.own.slice
  generalize (R0).length = lj1 at hv1 hl1
  subst hv1
  clear hl1 hm1
  have HP1 := Lib.hid (fun w => putu_call w 8 (by decide) (by decide) [a.sec] (by intro x hx; simp at hx; rw [hx]; exact HSC.out) (by simp))
  have HLP : Hid (R0.length ≤ 3 ∧ (rowU 8 [a.sec]).length ≤ 8) := Lib.hid ⟨HLZ.out, rowU_len _ _⟩
  have HMW : Hid (midW 5 a = rowU 8 [a.sec]) := Lib.hid rfl
  generalize rowU 8 [a.sec] = P1 at *
  have k1 := (HK.out.thru0 HF0.out.bel).cell 1; simp only [e1] at k1
  go_wp2_with fail
  refine (HP1.out _).mono ?_
  rintro e w2 ⟨v2, rfl, hf2⟩
  have HQ2 := Lib.hid hf2
  have HG2 := Lib.hid (HF0.out.below hf2.bel)
  clear hf2 k1
  obtain ⟨Ap2, cp2, hvp2, _, _⟩ := HQ2.out.own.slice
  subst hvp2
  have HR2 := Lib.hid (EOwn.reads (M := P1) elB_ok HQ2.out.own)
  go_wp2_with ((at_builtin; go_loud (refine wpList_eappr2 (e2 := 5) elB_ok rfl _ _ 24 24 rfl (by kernel_rfl) (by kernel_rfl) _ R0 P1 Ap2 cp2 rfl rfl HG2.out.own HR2.out (by have := HLP.out; simp only [maxLen, List.length_append]; omega) (by have := HLP.out; have h1 : elB.by_ = 1 := rfl; rw [h1]; (try simp only [List.length_append]); omega) ?_; intro vn2 wn2 hA; have HFX := Lib.hid (HG2.out.app (Below.refl _ _) hA); clear hA; obtain ⟨A3, c3, hv3, hl3, hm3⟩ := HFX.out.own.slice; generalize (R0 ++ P1).length = lj3 at hv3 hl3; subst hv3; clear hl3 hm3; have k10 := (HK.out.thru0 HFX.out.bel).cell 10; simp only [e10] at k10)))
  have HLX : Hid ((R0 ++ P1).length ≤ 12) := Lib.hid (by rw [List.length_append]; have := HLP.out; omega)
  have HRX : Hid (wrW 5 a L M = R0 ++ P1 ++ (L.flatMap seenW ++ M.flatMap evtW)) := Lib.hid (by rw [HWR.out, HMW.out]; simp only [List.append_assoc])
  generalize R0 ++ P1 = R at *
  have HFS := HFX
  go_loopw [5, 63] (fun b i wr => ∃ k : Nat, k ≤ n1 ∧ i = .int .i64 k ∧ Hid (FBy W b (R ++ (L.take k).flatMap seenW) wr)) (fun _ i _ => n1 - (intOf i).toNat)
  case atStart => exact ⟨0, Nat.zero_le _, rfl, by simpa using HFS⟩
  case round =>
    rename World => wr
    obtain ⟨k, hk, rfl, HF⟩ := hrel
    have HLR : Hid ((R ++ (L.take k).flatMap seenW).length ≤ 800) := Lib.hid (by
      have h1 := seenW_le (L.take k)
      have h2 : (L.take k).length ≤ 64 := by rw [List.length_take]; have := HL1.out; omega
      have h3 := HLX.out
      rw [List.length_append]; omega)
    by_cases hlt : k < n1
    · have hkl : k < L.length := by rw [← HN1.out]; exact hlt
      have hx : L[k]? = some L[k] := List.getElem?_eq_getElem hkl
      have HTK := Lib.hid (tk_seen L k hkl)
      obtain ⟨g, o, hg, a0, a1, a2, a3, a4, a5⟩ := elOS_at (HRS.out.below (below_trans HBW.out HF.out.bel)) hx
      subst hg
      have hlt2 : (k : Int) < n1 := by omega
      generalize L[k] = x at *
      clear hx
      have HP1 := Lib.hid (fun o => put_call2 wr o 2 (by decide) (by decide) [x.id] (by simp))
      have HP2 := Lib.hid (fun w => put_call w 1 (by decide) (by decide) [x.lev] (by simp))
      have HP3 := Lib.hid (fun w => putbox_any w x.b0 x.b1 x.b2 x.b3)
      have HLP : Hid ((R ++ (L.take k).flatMap seenW).length ≤ 800 ∧ (rowB 2 [x.id]).length ≤ 2 ∧ (rowB 1 [x.lev]).length ≤ 1 ∧ (rowB 2 [x.b0, x.b1, x.b2, x.b3]).length ≤ 8) := Lib.hid ⟨HLR.out, rowB_len _ _, rowB_len _ _, rowB_len _ _⟩
      generalize rowB 2 [x.id] = P1 at *
      generalize rowB 1 [x.lev] = P2 at *
      generalize rowB 2 [x.b0, x.b1, x.b2, x.b3] = P3 at *
      have HTK2 : Hid (R ++ (L.take (k + 1)).flatMap seenW = R ++ (L.take k).flatMap seenW ++ P1 ++ P2 ++ P3) := Lib.hid (by rw [HTK.out]; simp only [List.append_assoc])
      generalize R ++ (L.take k).flatMap seenW = Q at *
      clear HTK
      obtain ⟨A4, c4, hv4, hl4, hm4⟩ := HF.out.own.slice
      generalize (Q).length = lj4 at hv4 hl4
      subst hv4
      clear hl4 hm4
      go_wp2_with fail
      refine (HP1.out _).mono ?_
      rintro e w5 ⟨v5, rfl, hf5⟩
      have HQ5 := Lib.hid hf5
      have HG5 := Lib.hid ((HF.out.below ((Below.refl _ _).alloc (Nat.le_refl _) _)).below hf5.bel)
      have HS5 := Lib.hid ((Blk.new wr 59 #[.int .i64 x.id, .int .i64 x.lev, .int .i64 x.b0, .int .i64 x.b1, .int .i64 x.b2, .int .i64 x.b3]).thru0 hf5.bel)
      have HNQ := Lib.hid (fun i hi => Nat.ne_of_lt (HF.out.own.lt (i := i) hi))
      clear hf5 a0 a1 a2 a3 a4 a5
      obtain ⟨Ap5, cp5, hvp5, _, _⟩ := HQ5.out.own.slice
      subst hvp5
      have HR5 := Lib.hid (EOwn.reads (M := P1) elB_ok HQ5.out.own)
      go_wp2_with ((at_builtin; go_loud (refine wpList_eappr2 (e2 := 5) elB_ok rfl _ _ 24 24 rfl (by kernel_rfl) (by kernel_rfl) _ Q P1 Ap5 cp5 rfl rfl HG5.out.own HR5.out (by have := HLP.out; simp only [maxLen, List.length_append]; omega) (by have := HLP.out; have h1 : elB.by_ = 1 := rfl; rw [h1]; (try simp only [List.length_append]); omega) ?_; intro vn5 wn5 hA; have HFa := Lib.hid (HG5.out.app (Below.refl _ _) hA); have HKQ := Lib.hid (keepq HS5.out hA HNQ.out); clear HNQ; have HSan := Lib.hid HKQ.out.1; have HNQ := Lib.hid HKQ.out.2; clear HKQ; have s1 := HSan.out.cell 1; simp only [List.getElem?_toArray, List.getElem?_cons_zero, List.getElem?_cons_succ] at s1; clear hA; obtain ⟨A6, c6, hv6, hl6, hm6⟩ := HFa.out.own.slice; generalize (Q ++ P1).length = lj6 at hv6 hl6; subst hv6; clear hl6 hm6)))
      refine (HP2.out _).mono ?_
      rintro e w7 ⟨v7, rfl, hf7⟩
      have HQ7 := Lib.hid hf7
      have HG7 := Lib.hid (HFa.out.below hf7.bel)
      have HS7 := Lib.hid (HSan.out.thru0 hf7.bel)
      clear hf7 s1
      obtain ⟨Ap7, cp7, hvp7, _, _⟩ := HQ7.out.own.slice
      subst hvp7
      have HR7 := Lib.hid (EOwn.reads (M := P2) elB_ok HQ7.out.own)
      go_wp2_with ((at_builtin; go_loud (refine wpList_eappr2 (e2 := 5) elB_ok rfl _ _ 24 24 rfl (by kernel_rfl) (by kernel_rfl) _ (Q ++ P1) P2 Ap7 cp7 rfl rfl HG7.out.own HR7.out (by have := HLP.out; simp only [maxLen, List.length_append]; omega) (by have := HLP.out; have h1 : elB.by_ = 1 := rfl; rw [h1]; (try simp only [List.length_append]); omega) ?_; intro vn7 wn7 hA; have HFb := Lib.hid (HG7.out.app (Below.refl _ _) hA); have HKQ := Lib.hid (keepq HS7.out hA HNQ.out); clear HNQ; have HSbn := Lib.hid HKQ.out.1; have HNQ := Lib.hid HKQ.out.2; clear HKQ; have s2 := HSbn.out.cell 2; simp only [List.getElem?_toArray, List.getElem?_cons_zero, List.getElem?_cons_succ] at s2; have s3 := HSbn.out.cell 3; simp only [List.getElem?_toArray, List.getElem?_cons_zero, List.getElem?_cons_succ] at s3; have s4 := HSbn.out.cell 4; simp only [List.getElem?_toArray, List.getElem?_cons_zero, List.getElem?_cons_succ] at s4; have s5 := HSbn.out.cell 5; simp only [List.getElem?_toArray, List.getElem?_cons_zero, List.getElem?_cons_succ] at s5; clear hA; obtain ⟨A8, c8, hv8, hl8, hm8⟩ := HFb.out.own.slice; generalize (Q ++ P1 ++ P2).length = lj8 at hv8 hl8; subst hv8; clear hl8 hm8)))
      refine (HP3.out _).mono ?_
      rintro e w9 ⟨v9, rfl, hf9⟩
      have HQ9 := Lib.hid hf9
      have HG9 := Lib.hid (HFb.out.below hf9.bel)
      clear hf9 s2 s3 s4 s5
      obtain ⟨Ap9, cp9, hvp9, _, _⟩ := HQ9.out.own.slice
      subst hvp9
      have HR9 := Lib.hid (EOwn.reads (M := P3) elB_ok HQ9.out.own)
      go_wp2_with ((at_builtin; go_loud (refine wpList_eappr2 (e2 := 5) elB_ok rfl _ _ 24 24 rfl (by kernel_rfl) (by kernel_rfl) _ (Q ++ P1 ++ P2) P3 Ap9 cp9 rfl rfl HG9.out.own HR9.out (by have := HLP.out; simp only [maxLen, List.length_append]; omega) (by have := HLP.out; have h1 : elB.by_ = 1 := rfl; rw [h1]; (try simp only [List.length_append]); omega) ?_; intro vn9 wn9 hA; have HFc := Lib.hid (HG9.out.app (Below.refl _ _) hA); clear hA; obtain ⟨A10, c10, hv10, hl10, hm10⟩ := HFc.out.own.slice; generalize (Q ++ P1 ++ P2 ++ P3).length = lj10 at hv10 hl10; subst hv10; clear hl10 hm10)))
      go_roundw
      case rel => exact ⟨k + 1, by omega, by go_num, Lib.hid (by rw [HTK2.out]; exact HFc.out)⟩
      case measure => simp [intOf]; omega
    · obtain rfl : k = n1 := by omega
      have HT2 : Hid (L.take k = L) := Lib.hid (by rw [HN1.out, List.take_length])
      rw [HT2.out] at HF HLR
      have k11 := (HK.out.thru0 HF.out.bel).cell 11; simp only [e11] at k11
      generalize hRR : R ++ L.flatMap seenW = RR at *
      have HRR := Lib.hid hRR
      clear hRR
      obtain ⟨A11, c11, hv11, hl11, hm11⟩ := HF.out.own.slice
      generalize (RR).length = lj11 at hv11 hl11
      subst hv11
      clear hl11 hm11
      go_wp2_with fail
      have HFT := HF
      go_loopw [5, 88] (fun b i wr => ∃ j : Nat, j ≤ n2 ∧ i = .int .i64 j ∧ Hid (FBy W b (RR ++ (M.take j).flatMap evtW) wr)) (fun _ i _ => n2 - (intOf i).toNat)
      case atStart => exact ⟨0, Nat.zero_le _, rfl, by simpa using HFT⟩
      case round =>
        rename World => wr2
        obtain ⟨j, hj, rfl, HF2⟩ := hrel
        have HLR2 : Hid ((RR ++ (M.take j).flatMap evtW).length ≤ 1600) := Lib.hid (by
          have h1 := evtW_le (M.take j)
          have h2 : (M.take j).length ≤ 64 := by rw [List.length_take]; have := HL2.out; omega
          have h3 := HLR.out
          rw [List.length_append]; omega)
        by_cases hlt3 : j < n2
        · have hkl : j < M.length := by rw [← HN2.out]; exact hlt3
          have hx : M[j]? = some M[j] := List.getElem?_eq_getElem hkl
          have HTK := Lib.hid (tk_evt M j hkl)
          obtain ⟨g, o, hg, a0, a1, a2, a3⟩ := elOE_at (HRE.out.below (below_trans HBW.out HF2.out.bel)) hx
          subst hg
          have hlt4 : (j : Int) < n2 := by omega
          generalize M[j] = x at *
          clear hx
          have HP1 := Lib.hid (fun o => put_call2 wr2 o 2 (by decide) (by decide) [x.usr] (by simp))
          have HP2 := Lib.hid (fun w => put_call w 1 (by decide) (by decide) [x.op, x.st] (by simp))
          have HP3 := Lib.hid (fun w => put_call w 4 (by decide) (by decide) [x.tick] (by simp))
          have HLP : Hid ((RR ++ (M.take j).flatMap evtW).length ≤ 1600 ∧ (rowB 2 [x.usr]).length ≤ 2 ∧ (rowB 1 [x.op, x.st]).length ≤ 2 ∧ (rowB 4 [x.tick]).length ≤ 4) := Lib.hid ⟨HLR2.out, rowB_len _ _, rowB_len _ _, rowB_len _ _⟩
          generalize rowB 2 [x.usr] = P1 at *
          generalize rowB 1 [x.op, x.st] = P2 at *
          generalize rowB 4 [x.tick] = P3 at *
          have HTK2 : Hid (RR ++ (M.take (j + 1)).flatMap evtW = RR ++ (M.take j).flatMap evtW ++ P1 ++ P2 ++ P3) := Lib.hid (by rw [HTK.out]; simp only [List.append_assoc])
          generalize RR ++ (M.take j).flatMap evtW = Q at *
          clear HTK
          obtain ⟨A12, c12, hv12, hl12, hm12⟩ := HF2.out.own.slice
          generalize (Q).length = lj12 at hv12 hl12
          subst hv12
          clear hl12 hm12
          go_wp2_with fail
          refine (HP1.out _).mono ?_
          rintro e w13 ⟨v13, rfl, hf13⟩
          have HQ13 := Lib.hid hf13
          have HG13 := Lib.hid ((HF2.out.below ((Below.refl _ _).alloc (Nat.le_refl _) _)).below hf13.bel)
          have HS13 := Lib.hid ((Blk.new wr2 62 #[.int .i64 x.usr, .int .i64 x.op, .int .i64 x.st, .int .i64 x.tick]).thru0 hf13.bel)
          have HNQ := Lib.hid (fun i hi => Nat.ne_of_lt (HF2.out.own.lt (i := i) hi))
          clear hf13 a0 a1 a2 a3
          obtain ⟨Ap13, cp13, hvp13, _, _⟩ := HQ13.out.own.slice
          subst hvp13
          have HR13 := Lib.hid (EOwn.reads (M := P1) elB_ok HQ13.out.own)
          go_wp2_with ((at_builtin; go_loud (refine wpList_eappr2 (e2 := 5) elB_ok rfl _ _ 24 24 rfl (by kernel_rfl) (by kernel_rfl) _ Q P1 Ap13 cp13 rfl rfl HG13.out.own HR13.out (by have := HLP.out; simp only [maxLen, List.length_append]; omega) (by have := HLP.out; have h1 : elB.by_ = 1 := rfl; rw [h1]; (try simp only [List.length_append]); omega) ?_; intro vn13 wn13 hA; have HFa := Lib.hid (HG13.out.app (Below.refl _ _) hA); have HKQ := Lib.hid (keepq HS13.out hA HNQ.out); clear HNQ; have HSan := Lib.hid HKQ.out.1; have HNQ := Lib.hid HKQ.out.2; clear HKQ; have s1 := HSan.out.cell 1; simp only [List.getElem?_toArray, List.getElem?_cons_zero, List.getElem?_cons_succ] at s1; have s2 := HSan.out.cell 2; simp only [List.getElem?_toArray, List.getElem?_cons_zero, List.getElem?_cons_succ] at s2; clear hA; obtain ⟨A14, c14, hv14, hl14, hm14⟩ := HFa.out.own.slice; generalize (Q ++ P1).length = lj14 at hv14 hl14; subst hv14; clear hl14 hm14)))
          refine (HP2.out _).mono ?_
          rintro e w15 ⟨v15, rfl, hf15⟩
          have HQ15 := Lib.hid hf15
          have HG15 := Lib.hid (HFa.out.below hf15.bel)
          have HS15 := Lib.hid (HSan.out.thru0 hf15.bel)
          clear hf15 s1 s2
          obtain ⟨Ap15, cp15, hvp15, _, _⟩ := HQ15.out.own.slice
          subst hvp15
          have HR15 := Lib.hid (EOwn.reads (M := P2) elB_ok HQ15.out.own)
          go_wp2_with ((at_builtin; go_loud (refine wpList_eappr2 (e2 := 5) elB_ok rfl _ _ 24 24 rfl (by kernel_rfl) (by kernel_rfl) _ (Q ++ P1) P2 Ap15 cp15 rfl rfl HG15.out.own HR15.out (by have := HLP.out; simp only [maxLen, List.length_append]; omega) (by have := HLP.out; have h1 : elB.by_ = 1 := rfl; rw [h1]; (try simp only [List.length_append]); omega) ?_; intro vn15 wn15 hA; have HFb := Lib.hid (HG15.out.app (Below.refl _ _) hA); have HKQ := Lib.hid (keepq HS15.out hA HNQ.out); clear HNQ; have HSbn := Lib.hid HKQ.out.1; have HNQ := Lib.hid HKQ.out.2; clear HKQ; have s3 := HSbn.out.cell 3; simp only [List.getElem?_toArray, List.getElem?_cons_zero, List.getElem?_cons_succ] at s3; clear hA; obtain ⟨A16, c16, hv16, hl16, hm16⟩ := HFb.out.own.slice; generalize (Q ++ P1 ++ P2).length = lj16 at hv16 hl16; subst hv16; clear hl16 hm16)))
          refine (HP3.out _).mono ?_
          rintro e w17 ⟨v17, rfl, hf17⟩
          have HQ17 := Lib.hid hf17
          have HG17 := Lib.hid (HFb.out.below hf17.bel)
          clear hf17 s3
          obtain ⟨Ap17, cp17, hvp17, _, _⟩ := HQ17.out.own.slice
          subst hvp17
          have HR17 := Lib.hid (EOwn.reads (M := P3) elB_ok HQ17.out.own)
          go_wp2_with ((at_builtin; go_loud (refine wpList_eappr2 (e2 := 5) elB_ok rfl _ _ 24 24 rfl (by kernel_rfl) (by kernel_rfl) _ (Q ++ P1 ++ P2) P3 Ap17 cp17 rfl rfl HG17.out.own HR17.out (by have := HLP.out; simp only [maxLen, List.length_append]; omega) (by have := HLP.out; have h1 : elB.by_ = 1 := rfl; rw [h1]; (try simp only [List.length_append]); omega) ?_; intro vn17 wn17 hA; have HFc := Lib.hid (HG17.out.app (Below.refl _ _) hA); clear hA; obtain ⟨A18, c18, hv18, hl18, hm18⟩ := HFc.out.own.slice; generalize (Q ++ P1 ++ P2 ++ P3).length = lj18 at hv18 hl18; subst hv18; clear hl18 hm18)))
          go_roundw
          case rel => exact ⟨j + 1, by omega, by go_num, Lib.hid (by rw [HTK2.out]; exact HFc.out)⟩
          case measure => simp [intOf]; omega
        · obtain rfl : j = n2 := by omega
          have HT3 : Hid (M.take j = M) := Lib.hid (by rw [HN2.out, List.take_length])
          rw [HT3.out] at HF2
          have HEE : Hid (RR ++ M.flatMap evtW = wrW 5 a L M) := Lib.hid (by rw [← HRR.out, HRX.out]; simp only [wrW, List.append_assoc])
          rw [HEE.out] at HF2
          obtain ⟨A19, c19, hv19, hl19, hm19⟩ := HF2.out.own.slice
          generalize (wrW 5 a L M).length = lj19 at hv19 hl19
          subst hv19
          clear hl19 hm19
          go_wp2_with fail
          go_ret
          exact ⟨_, rfl, HF2.out.up HBW.out⟩
set_option maxRecDepth 100000 in
set_option maxHeartbeats 8000000 in
theorem write_pub (w : World) (a : An) (L : List Snt) (M : List Evt) (h : AnR w a L M) (hL : L.length ≤ 64) (hM : M.length ≤ 64) (hs : a.sec ≤ 18446744073709551615) :
    Calls Try.prog 28 #[.int .i64 (10), .agg a.cs] w fun e w' => ∃ v, e = .returned v ∧ FBy w v (wrW (10) a L M) w' := by
  obtain ⟨W, hW⟩ : ∃ W, W = w.alloc (.cells a.cs TA) := ⟨_, rfl⟩
  have HBW := Lib.hid (show Below w.heap.size w W by rw [hW]; exact (Below.refl _ _).alloc (Nat.le_refl _) _)
  have HK := Lib.hid (show Blk W w.heap.size TA a.cs by rw [hW]; exact Blk.new _ _ _)
  have e0 : a.cs[0]? = some (.int .i64 a.st) := rfl
  have e1 : a.cs[1]? = some (.int .u64 (a.sec : Int)) := rfl
  have e2 : a.cs[2]? = some (.int .i64 a.rid) := rfl
  have e3 : a.cs[3]? = some (.int .i64 a.rx) := rfl
  have e4 : a.cs[4]? = some (.int .i64 a.ry) := rfl
  have e5 : a.cs[5]? = some (.int .i64 a.lab) := rfl
  have e6 : a.cs[6]? = some (.int .i64 a.b0) := rfl
  have e7 : a.cs[7]? = some (.int .i64 a.b1) := rfl
  have e8 : a.cs[8]? = some (.int .i64 a.b2) := rfl
  have e9 : a.cs[9]? = some (.int .i64 a.b3) := rfl
  have e10 : a.cs[10]? = some (.slice a.sA a.sn a.sc) := rfl
  have e11 : a.cs[11]? = some (.slice a.eA a.en a.ec) := rfl
  have HSC := Lib.hid hs
  obtain ⟨n1, hn1⟩ : ∃ n, n = a.sn := ⟨_, rfl⟩
  obtain ⟨n2, hn2⟩ : ∃ n, n = a.en := ⟨_, rfl⟩
  obtain ⟨sA, hsA⟩ : ∃ n, n = a.sA := ⟨_, rfl⟩
  obtain ⟨eA, heA⟩ : ∃ n, n = a.eA := ⟨_, rfl⟩
  have HRS : Hid (ERd elOS w (.slice sA n1 a.sc) L) := Lib.hid (by rw [hsA, hn1]; exact h.seen)
  have HRE : Hid (ERd elOE w (.slice eA n2 a.ec) M) := Lib.hid (by rw [heA, hn2]; exact h.evs)
  have HN1 : Hid (n1 = L.length) := Lib.hid (hn1.trans h.sl.symm)
  have HN2 : Hid (n2 = M.length) := Lib.hid (hn2.trans h.el.symm)
  have HL1 := Lib.hid hL
  have HL2 := Lib.hid hM
  have hq1 : n1 ≤ 64 := by rw [HN1.out]; exact hL
  have hq2 : n2 ≤ 64 := by rw [HN2.out]; exact hM
  have e10' : a.cs[10]? = some (.slice sA n1 a.sc) := by rw [hn1, hsA]; exact e10
  have e11' : a.cs[11]? = some (.slice eA n2 a.ec) := by rw [hn2, heA]; exact e11
  have HWR : Hid (wrW (10) a L M = rowB 1 [a.st, (10), (n1 : Int) + (n2 : Int)] ++ (midW (10) a ++ (L.flatMap seenW ++ M.flatMap evtW))) := Lib.hid (by rw [hn1, hn2]; rfl)
  clear h hL hM hs e10 e11 hn1 hn2 hsA heA
  have e10 := e10'
  have e11 := e11'
  clear e10' e11'
  have hWs := hW.symm
  have k0 := HK.out.cell 0; simp only [e0] at k0
  have k10 := HK.out.cell 10; simp only [e10] at k10
  have k11 := HK.out.cell 11; simp only [e11] at k11
  have HP0 := Lib.hid (put_call W 1 (by decide) (by decide) [a.st, (10), (n1 : Int) + (n2 : Int)] (by simp))
  have HL0 := Lib.hid (rowB_len 1 [a.st, (10), (n1 : Int) + (n2 : Int)])
  clear hW
  generalize rowB 1 [a.st, (10), (n1 : Int) + (n2 : Int)] = R0 at *
  go_enter Try.func28, Try.ntmps28
  go_wp2_with fail
  refine HP0.out.mono ?_
  rintro e w0 ⟨v0, rfl, hf0⟩
  have HF0 := Lib.hid hf0
  have HLZ : Hid (R0.length ≤ 3) := HL0
  clear hf0 hWs k0 k10 k11 HP0
  obtain ⟨A1, c1, hv1, hl1, hm1⟩ := HF0.out.own.slice
  generalize (R0).length = lj1 at hv1 hl1
  subst hv1
  clear hl1 hm1
  have HP1 := Lib.hid (fun w => putbox_any w a.b0 a.b1 a.b2 a.b3)
  have HLP : Hid (R0.length ≤ 3 ∧ (rowB 2 [a.b0, a.b1, a.b2, a.b3]).length ≤ 8) := Lib.hid ⟨HLZ.out, rowB_len _ _⟩
  have HMW : Hid (midW 10 a = rowB 2 [a.b0, a.b1, a.b2, a.b3]) := Lib.hid rfl
  generalize rowB 2 [a.b0, a.b1, a.b2, a.b3] = P1 at *
  have k6 := (HK.out.thru0 HF0.out.bel).cell 6; simp only [e6] at k6
  have k7 := (HK.out.thru0 HF0.out.bel).cell 7; simp only [e7] at k7
  have k8 := (HK.out.thru0 HF0.out.bel).cell 8; simp only [e8] at k8
  have k9 := (HK.out.thru0 HF0.out.bel).cell 9; simp only [e9] at k9
  go_wp2_with fail
  refine (HP1.out _).mono ?_
  rintro e w2 ⟨v2, rfl, hf2⟩
  have HQ2 := Lib.hid hf2
  have HG2 := Lib.hid (HF0.out.below hf2.bel)
  clear hf2 k6 k7 k8 k9
  obtain ⟨Ap2, cp2, hvp2, _, _⟩ := HQ2.out.own.slice
  subst hvp2
  have HR2 := Lib.hid (EOwn.reads (M := P1) elB_ok HQ2.out.own)
  go_wp2_with ((at_builtin; go_loud (refine wpList_eappr2 (e2 := 5) elB_ok rfl _ _ 24 24 rfl (by kernel_rfl) (by kernel_rfl) _ R0 P1 Ap2 cp2 rfl rfl HG2.out.own HR2.out (by have := HLP.out; simp only [maxLen, List.length_append]; omega) (by have := HLP.out; have h1 : elB.by_ = 1 := rfl; rw [h1]; (try simp only [List.length_append]); omega) ?_; intro vn2 wn2 hA; have HFX := Lib.hid (HG2.out.app (Below.refl _ _) hA); clear hA; obtain ⟨A3, c3, hv3, hl3, hm3⟩ := HFX.out.own.slice; generalize (R0 ++ P1).length = lj3 at hv3 hl3; subst hv3; clear hl3 hm3; have k10 := (HK.out.thru0 HFX.out.bel).cell 10; simp only [e10] at k10)))
  have HLX : Hid ((R0 ++ P1).length ≤ 12) := Lib.hid (by rw [List.length_append]; have := HLP.out; omega)
  have HRX : Hid (wrW 10 a L M = R0 ++ P1 ++ (L.flatMap seenW ++ M.flatMap evtW)) := Lib.hid (by rw [HWR.out, HMW.out]; simp only [List.append_assoc])
  generalize R0 ++ P1 = R at *
  have HFS := HFX
  go_loopw [5, 63] (fun b i wr => ∃ k : Nat, k ≤ n1 ∧ i = .int .i64 k ∧ Hid (FBy W b (R ++ (L.take k).flatMap seenW) wr)) (fun _ i _ => n1 - (intOf i).toNat)
  case atStart => exact ⟨0, Nat.zero_le _, rfl, by simpa using HFS⟩
  case round =>
    rename World => wr
    obtain ⟨k, hk, rfl, HF⟩ := hrel
    have HLR : Hid ((R ++ (L.take k).flatMap seenW).length ≤ 800) := Lib.hid (by
      have h1 := seenW_le (L.take k)
      have h2 : (L.take k).length ≤ 64 := by rw [List.length_take]; have := HL1.out; omega
      have h3 := HLX.out
      rw [List.length_append]; omega)
    by_cases hlt : k < n1
    · have hkl : k < L.length := by rw [← HN1.out]; exact hlt
      have hx : L[k]? = some L[k] := List.getElem?_eq_getElem hkl
      have HTK := Lib.hid (tk_seen L k hkl)
      obtain ⟨g, o, hg, a0, a1, a2, a3, a4, a5⟩ := elOS_at (HRS.out.below (below_trans HBW.out HF.out.bel)) hx
      subst hg
      have hlt2 : (k : Int) < n1 := by omega
      generalize L[k] = x at *
      clear hx
      have HP1 := Lib.hid (fun o => put_call2 wr o 2 (by decide) (by decide) [x.id] (by simp))
      have HP2 := Lib.hid (fun w => put_call w 1 (by decide) (by decide) [x.lev] (by simp))
      have HP3 := Lib.hid (fun w => putbox_any w x.b0 x.b1 x.b2 x.b3)
      have HLP : Hid ((R ++ (L.take k).flatMap seenW).length ≤ 800 ∧ (rowB 2 [x.id]).length ≤ 2 ∧ (rowB 1 [x.lev]).length ≤ 1 ∧ (rowB 2 [x.b0, x.b1, x.b2, x.b3]).length ≤ 8) := Lib.hid ⟨HLR.out, rowB_len _ _, rowB_len _ _, rowB_len _ _⟩
      generalize rowB 2 [x.id] = P1 at *
      generalize rowB 1 [x.lev] = P2 at *
      generalize rowB 2 [x.b0, x.b1, x.b2, x.b3] = P3 at *
      have HTK2 : Hid (R ++ (L.take (k + 1)).flatMap seenW = R ++ (L.take k).flatMap seenW ++ P1 ++ P2 ++ P3) := Lib.hid (by rw [HTK.out]; simp only [List.append_assoc])
      generalize R ++ (L.take k).flatMap seenW = Q at *
      clear HTK
      obtain ⟨A4, c4, hv4, hl4, hm4⟩ := HF.out.own.slice
      generalize (Q).length = lj4 at hv4 hl4
      subst hv4
      clear hl4 hm4
      go_wp2_with fail
      refine (HP1.out _).mono ?_
      rintro e w5 ⟨v5, rfl, hf5⟩
      have HQ5 := Lib.hid hf5
      have HG5 := Lib.hid ((HF.out.below ((Below.refl _ _).alloc (Nat.le_refl _) _)).below hf5.bel)
      have HS5 := Lib.hid ((Blk.new wr 59 #[.int .i64 x.id, .int .i64 x.lev, .int .i64 x.b0, .int .i64 x.b1, .int .i64 x.b2, .int .i64 x.b3]).thru0 hf5.bel)
      have HNQ := Lib.hid (fun i hi => Nat.ne_of_lt (HF.out.own.lt (i := i) hi))
      clear hf5 a0 a1 a2 a3 a4 a5
      obtain ⟨Ap5, cp5, hvp5, _, _⟩ := HQ5.out.own.slice
      subst hvp5
      have HR5 := Lib.hid (EOwn.reads (M := P1) elB_ok HQ5.out.own)
      go_wp2_with ((at_builtin; go_loud (refine wpList_eappr2 (e2 := 5) elB_ok rfl _ _ 24 24 rfl (by kernel_rfl) (by kernel_rfl) _ Q P1 Ap5 cp5 rfl rfl HG5.out.own HR5.out (by have := HLP.out; simp only [maxLen, List.length_append]; omega) (by have := HLP.out; have h1 : elB.by_ = 1 := rfl; rw [h1]; (try simp only [List.length_append]); omega) ?_; intro vn5 wn5 hA; have HFa := Lib.hid (HG5.out.app (Below.refl _ _) hA); have HKQ := Lib.hid (keepq HS5.out hA HNQ.out); clear HNQ; have HSan := Lib.hid HKQ.out.1; have HNQ := Lib.hid HKQ.out.2; clear HKQ; have s1 := HSan.out.cell 1; simp only [List.getElem?_toArray, List.getElem?_cons_zero, List.getElem?_cons_succ] at s1; clear hA; obtain ⟨A6, c6, hv6, hl6, hm6⟩ := HFa.out.own.slice; generalize (Q ++ P1).length = lj6 at hv6 hl6; subst hv6; clear hl6 hm6)))
      refine (HP2.out _).mono ?_
      rintro e w7 ⟨v7, rfl, hf7⟩
      have HQ7 := Lib.hid hf7
      have HG7 := Lib.hid (HFa.out.below hf7.bel)
      have HS7 := Lib.hid (HSan.out.thru0 hf7.bel)
      clear hf7 s1
      obtain ⟨Ap7, cp7, hvp7, _, _⟩ := HQ7.out.own.slice
      subst hvp7
      have HR7 := Lib.hid (EOwn.reads (M := P2) elB_ok HQ7.out.own)
      go_wp2_with ((at_builtin; go_loud (refine wpList_eappr2 (e2 := 5) elB_ok rfl _ _ 24 24 rfl (by kernel_rfl) (by kernel_rfl) _ (Q ++ P1) P2 Ap7 cp7 rfl rfl HG7.out.own HR7.out (by have := HLP.out; simp only [maxLen, List.length_append]; omega) (by have := HLP.out; have h1 : elB.by_ = 1 := rfl; rw [h1]; (try simp only [List.length_append]); omega) ?_; intro vn7 wn7 hA; have HFb := Lib.hid (HG7.out.app (Below.refl _ _) hA); have HKQ := Lib.hid (keepq HS7.out hA HNQ.out); clear HNQ; have HSbn := Lib.hid HKQ.out.1; have HNQ := Lib.hid HKQ.out.2; clear HKQ; have s2 := HSbn.out.cell 2; simp only [List.getElem?_toArray, List.getElem?_cons_zero, List.getElem?_cons_succ] at s2; have s3 := HSbn.out.cell 3; simp only [List.getElem?_toArray, List.getElem?_cons_zero, List.getElem?_cons_succ] at s3; have s4 := HSbn.out.cell 4; simp only [List.getElem?_toArray, List.getElem?_cons_zero, List.getElem?_cons_succ] at s4; have s5 := HSbn.out.cell 5; simp only [List.getElem?_toArray, List.getElem?_cons_zero, List.getElem?_cons_succ] at s5; clear hA; obtain ⟨A8, c8, hv8, hl8, hm8⟩ := HFb.out.own.slice; generalize (Q ++ P1 ++ P2).length = lj8 at hv8 hl8; subst hv8; clear hl8 hm8)))
      refine (HP3.out _).mono ?_
      rintro e w9 ⟨v9, rfl, hf9⟩
      have HQ9 := Lib.hid hf9
      have HG9 := Lib.hid (HFb.out.below hf9.bel)
      clear hf9 s2 s3 s4 s5
      obtain ⟨Ap9, cp9, hvp9, _, _⟩ := HQ9.out.own.slice
      subst hvp9
      have HR9 := Lib.hid (EOwn.reads (M := P3) elB_ok HQ9.out.own)
      go_wp2_with ((at_builtin; go_loud (refine wpList_eappr2 (e2 := 5) elB_ok rfl _ _ 24 24 rfl (by kernel_rfl) (by kernel_rfl) _ (Q ++ P1 ++ P2) P3 Ap9 cp9 rfl rfl HG9.out.own HR9.out (by have := HLP.out; simp only [maxLen, List.length_append]; omega) (by have := HLP.out; have h1 : elB.by_ = 1 := rfl; rw [h1]; (try simp only [List.length_append]); omega) ?_; intro vn9 wn9 hA; have HFc := Lib.hid (HG9.out.app (Below.refl _ _) hA); clear hA; obtain ⟨A10, c10, hv10, hl10, hm10⟩ := HFc.out.own.slice; generalize (Q ++ P1 ++ P2 ++ P3).length = lj10 at hv10 hl10; subst hv10; clear hl10 hm10)))
      go_roundw
      case rel => exact ⟨k + 1, by omega, by go_num, Lib.hid (by rw [HTK2.out]; exact HFc.out)⟩
      case measure => simp [intOf]; omega
    · obtain rfl : k = n1 := by omega
      have HT2 : Hid (L.take k = L) := Lib.hid (by rw [HN1.out, List.take_length])
      rw [HT2.out] at HF HLR
      have k11 := (HK.out.thru0 HF.out.bel).cell 11; simp only [e11] at k11
      generalize hRR : R ++ L.flatMap seenW = RR at *
      have HRR := Lib.hid hRR
      clear hRR
      obtain ⟨A11, c11, hv11, hl11, hm11⟩ := HF.out.own.slice
      generalize (RR).length = lj11 at hv11 hl11
      subst hv11
      clear hl11 hm11
      go_wp2_with fail
      have HFT := HF
      go_loopw [5, 88] (fun b i wr => ∃ j : Nat, j ≤ n2 ∧ i = .int .i64 j ∧ Hid (FBy W b (RR ++ (M.take j).flatMap evtW) wr)) (fun _ i _ => n2 - (intOf i).toNat)
      case atStart => exact ⟨0, Nat.zero_le _, rfl, by simpa using HFT⟩
      case round =>
        rename World => wr2
        obtain ⟨j, hj, rfl, HF2⟩ := hrel
        have HLR2 : Hid ((RR ++ (M.take j).flatMap evtW).length ≤ 1600) := Lib.hid (by
          have h1 := evtW_le (M.take j)
          have h2 : (M.take j).length ≤ 64 := by rw [List.length_take]; have := HL2.out; omega
          have h3 := HLR.out
          rw [List.length_append]; omega)
        by_cases hlt3 : j < n2
        · have hkl : j < M.length := by rw [← HN2.out]; exact hlt3
          have hx : M[j]? = some M[j] := List.getElem?_eq_getElem hkl
          have HTK := Lib.hid (tk_evt M j hkl)
          obtain ⟨g, o, hg, a0, a1, a2, a3⟩ := elOE_at (HRE.out.below (below_trans HBW.out HF2.out.bel)) hx
          subst hg
          have hlt4 : (j : Int) < n2 := by omega
          generalize M[j] = x at *
          clear hx
          have HP1 := Lib.hid (fun o => put_call2 wr2 o 2 (by decide) (by decide) [x.usr] (by simp))
          have HP2 := Lib.hid (fun w => put_call w 1 (by decide) (by decide) [x.op, x.st] (by simp))
          have HP3 := Lib.hid (fun w => put_call w 4 (by decide) (by decide) [x.tick] (by simp))
          have HLP : Hid ((RR ++ (M.take j).flatMap evtW).length ≤ 1600 ∧ (rowB 2 [x.usr]).length ≤ 2 ∧ (rowB 1 [x.op, x.st]).length ≤ 2 ∧ (rowB 4 [x.tick]).length ≤ 4) := Lib.hid ⟨HLR2.out, rowB_len _ _, rowB_len _ _, rowB_len _ _⟩
          generalize rowB 2 [x.usr] = P1 at *
          generalize rowB 1 [x.op, x.st] = P2 at *
          generalize rowB 4 [x.tick] = P3 at *
          have HTK2 : Hid (RR ++ (M.take (j + 1)).flatMap evtW = RR ++ (M.take j).flatMap evtW ++ P1 ++ P2 ++ P3) := Lib.hid (by rw [HTK.out]; simp only [List.append_assoc])
          generalize RR ++ (M.take j).flatMap evtW = Q at *
          clear HTK
          obtain ⟨A12, c12, hv12, hl12, hm12⟩ := HF2.out.own.slice
          generalize (Q).length = lj12 at hv12 hl12
          subst hv12
          clear hl12 hm12
          go_wp2_with fail
          refine (HP1.out _).mono ?_
          rintro e w13 ⟨v13, rfl, hf13⟩
          have HQ13 := Lib.hid hf13
          have HG13 := Lib.hid ((HF2.out.below ((Below.refl _ _).alloc (Nat.le_refl _) _)).below hf13.bel)
          have HS13 := Lib.hid ((Blk.new wr2 62 #[.int .i64 x.usr, .int .i64 x.op, .int .i64 x.st, .int .i64 x.tick]).thru0 hf13.bel)
          have HNQ := Lib.hid (fun i hi => Nat.ne_of_lt (HF2.out.own.lt (i := i) hi))
          clear hf13 a0 a1 a2 a3
          obtain ⟨Ap13, cp13, hvp13, _, _⟩ := HQ13.out.own.slice
          subst hvp13
          have HR13 := Lib.hid (EOwn.reads (M := P1) elB_ok HQ13.out.own)
          go_wp2_with ((at_builtin; go_loud (refine wpList_eappr2 (e2 := 5) elB_ok rfl _ _ 24 24 rfl (by kernel_rfl) (by kernel_rfl) _ Q P1 Ap13 cp13 rfl rfl HG13.out.own HR13.out (by have := HLP.out; simp only [maxLen, List.length_append]; omega) (by have := HLP.out; have h1 : elB.by_ = 1 := rfl; rw [h1]; (try simp only [List.length_append]); omega) ?_; intro vn13 wn13 hA; have HFa := Lib.hid (HG13.out.app (Below.refl _ _) hA); have HKQ := Lib.hid (keepq HS13.out hA HNQ.out); clear HNQ; have HSan := Lib.hid HKQ.out.1; have HNQ := Lib.hid HKQ.out.2; clear HKQ; have s1 := HSan.out.cell 1; simp only [List.getElem?_toArray, List.getElem?_cons_zero, List.getElem?_cons_succ] at s1; have s2 := HSan.out.cell 2; simp only [List.getElem?_toArray, List.getElem?_cons_zero, List.getElem?_cons_succ] at s2; clear hA; obtain ⟨A14, c14, hv14, hl14, hm14⟩ := HFa.out.own.slice; generalize (Q ++ P1).length = lj14 at hv14 hl14; subst hv14; clear hl14 hm14)))
          refine (HP2.out _).mono ?_
          rintro e w15 ⟨v15, rfl, hf15⟩
          have HQ15 := Lib.hid hf15
          have HG15 := Lib.hid (HFa.out.below hf15.bel)
          have HS15 := Lib.hid (HSan.out.thru0 hf15.bel)
          clear hf15 s1 s2
          obtain ⟨Ap15, cp15, hvp15, _, _⟩ := HQ15.out.own.slice
          subst hvp15
          have HR15 := Lib.hid (EOwn.reads (M := P2) elB_ok HQ15.out.own)
          go_wp2_with ((at_builtin; go_loud (refine wpList_eappr2 (e2 := 5) elB_ok rfl _ _ 24 24 rfl (by kernel_rfl) (by kernel_rfl) _ (Q ++ P1) P2 Ap15 cp15 rfl rfl HG15.out.own HR15.out (by have := HLP.out; simp only [maxLen, List.length_append]; omega) (by have := HLP.out; have h1 : elB.by_ = 1 := rfl; rw [h1]; (try simp only [List.length_append]); omega) ?_; intro vn15 wn15 hA; have HFb := Lib.hid (HG15.out.app (Below.refl _ _) hA); have HKQ := Lib.hid (keepq HS15.out hA HNQ.out); clear HNQ; have HSbn := Lib.hid HKQ.out.1; have HNQ := Lib.hid HKQ.out.2; clear HKQ; have s3 := HSbn.out.cell 3; simp only [List.getElem?_toArray, List.getElem?_cons_zero, List.getElem?_cons_succ] at s3; clear hA; obtain ⟨A16, c16, hv16, hl16, hm16⟩ := HFb.out.own.slice; generalize (Q ++ P1 ++ P2).length = lj16 at hv16 hl16; subst hv16; clear hl16 hm16)))
          refine (HP3.out _).mono ?_
          rintro e w17 ⟨v17, rfl, hf17⟩
          have HQ17 := Lib.hid hf17
          have HG17 := Lib.hid (HFb.out.below hf17.bel)
          clear hf17 s3
          obtain ⟨Ap17, cp17, hvp17, _, _⟩ := HQ17.out.own.slice
          subst hvp17
          have HR17 := Lib.hid (EOwn.reads (M := P3) elB_ok HQ17.out.own)
          go_wp2_with ((at_builtin; go_loud (refine wpList_eappr2 (e2 := 5) elB_ok rfl _ _ 24 24 rfl (by kernel_rfl) (by kernel_rfl) _ (Q ++ P1 ++ P2) P3 Ap17 cp17 rfl rfl HG17.out.own HR17.out (by have := HLP.out; simp only [maxLen, List.length_append]; omega) (by have := HLP.out; have h1 : elB.by_ = 1 := rfl; rw [h1]; (try simp only [List.length_append]); omega) ?_; intro vn17 wn17 hA; have HFc := Lib.hid (HG17.out.app (Below.refl _ _) hA); clear hA; obtain ⟨A18, c18, hv18, hl18, hm18⟩ := HFc.out.own.slice; generalize (Q ++ P1 ++ P2 ++ P3).length = lj18 at hv18 hl18; subst hv18; clear hl18 hm18)))
          go_roundw
          case rel => exact ⟨j + 1, by omega, by go_num, Lib.hid (by rw [HTK2.out]; exact HFc.out)⟩
          case measure => simp [intOf]; omega
        · obtain rfl : j = n2 := by omega
          have HT3 : Hid (M.take j = M) := Lib.hid (by rw [HN2.out, List.take_length])
          rw [HT3.out] at HF2
          have HEE : Hid (RR ++ M.flatMap evtW = wrW 10 a L M) := Lib.hid (by rw [← HRR.out, HRX.out]; simp only [wrW, List.append_assoc])
          rw [HEE.out] at HF2
          obtain ⟨A19, c19, hv19, hl19, hm19⟩ := HF2.out.own.slice
          generalize (wrW 10 a L M).length = lj19 at hv19 hl19
          subst hv19
          clear hl19 hm19
          go_wp2_with fail
          go_ret
          exact ⟨_, rfl, HF2.out.up HBW.out⟩
set_option maxRecDepth 100000 in
set_option maxHeartbeats 8000000 in
theorem write_where (w : World) (a : An) (L : List Snt) (M : List Evt) (h : AnR w a L M) (hL : L.length ≤ 64) (hM : M.length ≤ 64) (hs : a.sec ≤ 18446744073709551615) :
    Calls Try.prog 28 #[.int .i64 (12), .agg a.cs] w fun e w' => ∃ v, e = .returned v ∧ FBy w v (wrW (12) a L M) w' := by
  obtain ⟨W, hW⟩ : ∃ W, W = w.alloc (.cells a.cs TA) := ⟨_, rfl⟩
  have HBW := Lib.hid (show Below w.heap.size w W by rw [hW]; exact (Below.refl _ _).alloc (Nat.le_refl _) _)
  have HK := Lib.hid (show Blk W w.heap.size TA a.cs by rw [hW]; exact Blk.new _ _ _)
  have e0 : a.cs[0]? = some (.int .i64 a.st) := rfl
  have e1 : a.cs[1]? = some (.int .u64 (a.sec : Int)) := rfl
  have e2 : a.cs[2]? = some (.int .i64 a.rid) := rfl
  have e3 : a.cs[3]? = some (.int .i64 a.rx) := rfl
  have e4 : a.cs[4]? = some (.int .i64 a.ry) := rfl
  have e5 : a.cs[5]? = some (.int .i64 a.lab) := rfl
  have e6 : a.cs[6]? = some (.int .i64 a.b0) := rfl
  have e7 : a.cs[7]? = some (.int .i64 a.b1) := rfl
  have e8 : a.cs[8]? = some (.int .i64 a.b2) := rfl
  have e9 : a.cs[9]? = some (.int .i64 a.b3) := rfl
  have e10 : a.cs[10]? = some (.slice a.sA a.sn a.sc) := rfl
  have e11 : a.cs[11]? = some (.slice a.eA a.en a.ec) := rfl
  have HSC := Lib.hid hs
  obtain ⟨n1, hn1⟩ : ∃ n, n = a.sn := ⟨_, rfl⟩
  obtain ⟨n2, hn2⟩ : ∃ n, n = a.en := ⟨_, rfl⟩
  obtain ⟨sA, hsA⟩ : ∃ n, n = a.sA := ⟨_, rfl⟩
  obtain ⟨eA, heA⟩ : ∃ n, n = a.eA := ⟨_, rfl⟩
  have HRS : Hid (ERd elOS w (.slice sA n1 a.sc) L) := Lib.hid (by rw [hsA, hn1]; exact h.seen)
  have HRE : Hid (ERd elOE w (.slice eA n2 a.ec) M) := Lib.hid (by rw [heA, hn2]; exact h.evs)
  have HN1 : Hid (n1 = L.length) := Lib.hid (hn1.trans h.sl.symm)
  have HN2 : Hid (n2 = M.length) := Lib.hid (hn2.trans h.el.symm)
  have HL1 := Lib.hid hL
  have HL2 := Lib.hid hM
  have hq1 : n1 ≤ 64 := by rw [HN1.out]; exact hL
  have hq2 : n2 ≤ 64 := by rw [HN2.out]; exact hM
  have e10' : a.cs[10]? = some (.slice sA n1 a.sc) := by rw [hn1, hsA]; exact e10
  have e11' : a.cs[11]? = some (.slice eA n2 a.ec) := by rw [hn2, heA]; exact e11
  have HWR : Hid (wrW (12) a L M = rowB 1 [a.st, (12), (n1 : Int) + (n2 : Int)] ++ (midW (12) a ++ (L.flatMap seenW ++ M.flatMap evtW))) := Lib.hid (by rw [hn1, hn2]; rfl)
  clear h hL hM hs e10 e11 hn1 hn2 hsA heA
  have e10 := e10'
  have e11 := e11'
  clear e10' e11'
  have hWs := hW.symm
  have k0 := HK.out.cell 0; simp only [e0] at k0
  have k10 := HK.out.cell 10; simp only [e10] at k10
  have k11 := HK.out.cell 11; simp only [e11] at k11
  have HP0 := Lib.hid (put_call W 1 (by decide) (by decide) [a.st, (12), (n1 : Int) + (n2 : Int)] (by simp))
  have HL0 := Lib.hid (rowB_len 1 [a.st, (12), (n1 : Int) + (n2 : Int)])
  clear hW
  generalize rowB 1 [a.st, (12), (n1 : Int) + (n2 : Int)] = R0 at *
  go_enter Try.func28, Try.ntmps28
  go_wp2_with fail
  refine HP0.out.mono ?_
  rintro e w0 ⟨v0, rfl, hf0⟩
  have HF0 := Lib.hid hf0
  have HLZ : Hid (R0.length ≤ 3) := HL0
  clear hf0 hWs k0 k10 k11 HP0
  obtain ⟨A1, c1, hv1, hl1, hm1⟩ := HF0.out.own.slice
  generalize (R0).length = lj1 at hv1 hl1
  subst hv1
  clear hl1 hm1
  have HP1 := Lib.hid (fun w => put_call w 2 (by decide) (by decide) [a.rx, a.ry] (by simp))
  have HP2 := Lib.hid (fun w => put_call w 1 (by decide) (by decide) [a.lab] (by simp))
  have HLP : Hid (R0.length ≤ 3 ∧ (rowB 2 [a.rx, a.ry]).length ≤ 4 ∧ (rowB 1 [a.lab]).length ≤ 1) := Lib.hid ⟨HLZ.out, rowB_len _ _, rowB_len _ _⟩
  have HMW : Hid (midW 12 a = rowB 2 [a.rx, a.ry] ++ rowB 1 [a.lab]) := Lib.hid rfl
  generalize rowB 2 [a.rx, a.ry] = P1 at *
  generalize rowB 1 [a.lab] = P2 at *
  have k3 := (HK.out.thru0 HF0.out.bel).cell 3; simp only [e3] at k3
  have k4 := (HK.out.thru0 HF0.out.bel).cell 4; simp only [e4] at k4
  go_wp2_with fail
  refine (HP1.out _).mono ?_
  rintro e w2 ⟨v2, rfl, hf2⟩
  have HQ2 := Lib.hid hf2
  have HG2 := Lib.hid (HF0.out.below hf2.bel)
  clear hf2 k3 k4
  obtain ⟨Ap2, cp2, hvp2, _, _⟩ := HQ2.out.own.slice
  subst hvp2
  have HR2 := Lib.hid (EOwn.reads (M := P1) elB_ok HQ2.out.own)
  go_wp2_with ((at_builtin; go_loud (refine wpList_eappr2 (e2 := 5) elB_ok rfl _ _ 24 24 rfl (by kernel_rfl) (by kernel_rfl) _ R0 P1 Ap2 cp2 rfl rfl HG2.out.own HR2.out (by have := HLP.out; simp only [maxLen, List.length_append]; omega) (by have := HLP.out; have h1 : elB.by_ = 1 := rfl; rw [h1]; (try simp only [List.length_append]); omega) ?_; intro vn2 wn2 hA; have HFa := Lib.hid (HG2.out.app (Below.refl _ _) hA); clear hA; obtain ⟨A3, c3, hv3, hl3, hm3⟩ := HFa.out.own.slice; generalize (R0 ++ P1).length = lj3 at hv3 hl3; subst hv3; clear hl3 hm3; have k5 := (HK.out.thru0 HFa.out.bel).cell 5; simp only [e5] at k5)))
  refine (HP2.out _).mono ?_
  rintro e w4 ⟨v4, rfl, hf4⟩
  have HQ4 := Lib.hid hf4
  have HG4 := Lib.hid (HFa.out.below hf4.bel)
  clear hf4 k5
  obtain ⟨Ap4, cp4, hvp4, _, _⟩ := HQ4.out.own.slice
  subst hvp4
  have HR4 := Lib.hid (EOwn.reads (M := P2) elB_ok HQ4.out.own)
  go_wp2_with ((at_builtin; go_loud (refine wpList_eappr2 (e2 := 5) elB_ok rfl _ _ 24 24 rfl (by kernel_rfl) (by kernel_rfl) _ (R0 ++ P1) P2 Ap4 cp4 rfl rfl HG4.out.own HR4.out (by have := HLP.out; simp only [maxLen, List.length_append]; omega) (by have := HLP.out; have h1 : elB.by_ = 1 := rfl; rw [h1]; (try simp only [List.length_append]); omega) ?_; intro vn4 wn4 hA; have HFX := Lib.hid (HG4.out.app (Below.refl _ _) hA); clear hA; obtain ⟨A5, c5, hv5, hl5, hm5⟩ := HFX.out.own.slice; generalize (R0 ++ P1 ++ P2).length = lj5 at hv5 hl5; subst hv5; clear hl5 hm5; have k10 := (HK.out.thru0 HFX.out.bel).cell 10; simp only [e10] at k10)))
  have HLX : Hid ((R0 ++ P1 ++ P2).length ≤ 12) := Lib.hid (by simp only [List.length_append]; have := HLP.out; omega)
  have HRX : Hid (wrW 12 a L M = R0 ++ P1 ++ P2 ++ (L.flatMap seenW ++ M.flatMap evtW)) := Lib.hid (by rw [HWR.out, HMW.out]; simp only [List.append_assoc])
  generalize R0 ++ P1 ++ P2 = R at *
  have HFS := HFX
  go_loopw [5, 63] (fun b i wr => ∃ k : Nat, k ≤ n1 ∧ i = .int .i64 k ∧ Hid (FBy W b (R ++ (L.take k).flatMap seenW) wr)) (fun _ i _ => n1 - (intOf i).toNat)
  case atStart => exact ⟨0, Nat.zero_le _, rfl, by simpa using HFS⟩
  case round =>
    rename World => wr
    obtain ⟨k, hk, rfl, HF⟩ := hrel
    have HLR : Hid ((R ++ (L.take k).flatMap seenW).length ≤ 800) := Lib.hid (by
      have h1 := seenW_le (L.take k)
      have h2 : (L.take k).length ≤ 64 := by rw [List.length_take]; have := HL1.out; omega
      have h3 := HLX.out
      rw [List.length_append]; omega)
    by_cases hlt : k < n1
    · have hkl : k < L.length := by rw [← HN1.out]; exact hlt
      have hx : L[k]? = some L[k] := List.getElem?_eq_getElem hkl
      have HTK := Lib.hid (tk_seen L k hkl)
      obtain ⟨g, o, hg, a0, a1, a2, a3, a4, a5⟩ := elOS_at (HRS.out.below (below_trans HBW.out HF.out.bel)) hx
      subst hg
      have hlt2 : (k : Int) < n1 := by omega
      generalize L[k] = x at *
      clear hx
      have HP1 := Lib.hid (fun o => put_call2 wr o 2 (by decide) (by decide) [x.id] (by simp))
      have HP2 := Lib.hid (fun w => put_call w 1 (by decide) (by decide) [x.lev] (by simp))
      have HP3 := Lib.hid (fun w => putbox_any w x.b0 x.b1 x.b2 x.b3)
      have HLP : Hid ((R ++ (L.take k).flatMap seenW).length ≤ 800 ∧ (rowB 2 [x.id]).length ≤ 2 ∧ (rowB 1 [x.lev]).length ≤ 1 ∧ (rowB 2 [x.b0, x.b1, x.b2, x.b3]).length ≤ 8) := Lib.hid ⟨HLR.out, rowB_len _ _, rowB_len _ _, rowB_len _ _⟩
      generalize rowB 2 [x.id] = P1 at *
      generalize rowB 1 [x.lev] = P2 at *
      generalize rowB 2 [x.b0, x.b1, x.b2, x.b3] = P3 at *
      have HTK2 : Hid (R ++ (L.take (k + 1)).flatMap seenW = R ++ (L.take k).flatMap seenW ++ P1 ++ P2 ++ P3) := Lib.hid (by rw [HTK.out]; simp only [List.append_assoc])
      generalize R ++ (L.take k).flatMap seenW = Q at *
      clear HTK
      obtain ⟨A6, c6, hv6, hl6, hm6⟩ := HF.out.own.slice
      generalize (Q).length = lj6 at hv6 hl6
      subst hv6
      clear hl6 hm6
      go_wp2_with fail
      refine (HP1.out _).mono ?_
      rintro e w7 ⟨v7, rfl, hf7⟩
      have HQ7 := Lib.hid hf7
      have HG7 := Lib.hid ((HF.out.below ((Below.refl _ _).alloc (Nat.le_refl _) _)).below hf7.bel)
      have HS7 := Lib.hid ((Blk.new wr 59 #[.int .i64 x.id, .int .i64 x.lev, .int .i64 x.b0, .int .i64 x.b1, .int .i64 x.b2, .int .i64 x.b3]).thru0 hf7.bel)
      have HNQ := Lib.hid (fun i hi => Nat.ne_of_lt (HF.out.own.lt (i := i) hi))
      clear hf7 a0 a1 a2 a3 a4 a5
      obtain ⟨Ap7, cp7, hvp7, _, _⟩ := HQ7.out.own.slice
      subst hvp7
      have HR7 := Lib.hid (EOwn.reads (M := P1) elB_ok HQ7.out.own)
      go_wp2_with ((at_builtin; go_loud (refine wpList_eappr2 (e2 := 5) elB_ok rfl _ _ 24 24 rfl (by kernel_rfl) (by kernel_rfl) _ Q P1 Ap7 cp7 rfl rfl HG7.out.own HR7.out (by have := HLP.out; simp only [maxLen, List.length_append]; omega) (by have := HLP.out; have h1 : elB.by_ = 1 := rfl; rw [h1]; (try simp only [List.length_append]); omega) ?_; intro vn7 wn7 hA; have HFa := Lib.hid (HG7.out.app (Below.refl _ _) hA); have HKQ := Lib.hid (keepq HS7.out hA HNQ.out); clear HNQ; have HSan := Lib.hid HKQ.out.1; have HNQ := Lib.hid HKQ.out.2; clear HKQ; have s1 := HSan.out.cell 1; simp only [List.getElem?_toArray, List.getElem?_cons_zero, List.getElem?_cons_succ] at s1; clear hA; obtain ⟨A8, c8, hv8, hl8, hm8⟩ := HFa.out.own.slice; generalize (Q ++ P1).length = lj8 at hv8 hl8; subst hv8; clear hl8 hm8)))
      refine (HP2.out _).mono ?_
      rintro e w9 ⟨v9, rfl, hf9⟩
      have HQ9 := Lib.hid hf9
      have HG9 := Lib.hid (HFa.out.below hf9.bel)
      have HS9 := Lib.hid (HSan.out.thru0 hf9.bel)
      clear hf9 s1
      obtain ⟨Ap9, cp9, hvp9, _, _⟩ := HQ9.out.own.slice
      subst hvp9
      have HR9 := Lib.hid (EOwn.reads (M := P2) elB_ok HQ9.out.own)
      go_wp2_with ((at_builtin; go_loud (refine wpList_eappr2 (e2 := 5) elB_ok rfl _ _ 24 24 rfl (by kernel_rfl) (by kernel_rfl) _ (Q ++ P1) P2 Ap9 cp9 rfl rfl HG9.out.own HR9.out (by have := HLP.out; simp only [maxLen, List.length_append]; omega) (by have := HLP.out; have h1 : elB.by_ = 1 := rfl; rw [h1]; (try simp only [List.length_append]); omega) ?_; intro vn9 wn9 hA; have HFb := Lib.hid (HG9.out.app (Below.refl _ _) hA); have HKQ := Lib.hid (keepq HS9.out hA HNQ.out); clear HNQ; have HSbn := Lib.hid HKQ.out.1; have HNQ := Lib.hid HKQ.out.2; clear HKQ; have s2 := HSbn.out.cell 2; simp only [List.getElem?_toArray, List.getElem?_cons_zero, List.getElem?_cons_succ] at s2; have s3 := HSbn.out.cell 3; simp only [List.getElem?_toArray, List.getElem?_cons_zero, List.getElem?_cons_succ] at s3; have s4 := HSbn.out.cell 4; simp only [List.getElem?_toArray, List.getElem?_cons_zero, List.getElem?_cons_succ] at s4; have s5 := HSbn.out.cell 5; simp only [List.getElem?_toArray, List.getElem?_cons_zero, List.getElem?_cons_succ] at s5; clear hA; obtain ⟨A10, c10, hv10, hl10, hm10⟩ := HFb.out.own.slice; generalize (Q ++ P1 ++ P2).length = lj10 at hv10 hl10; subst hv10; clear hl10 hm10)))
      refine (HP3.out _).mono ?_
      rintro e w11 ⟨v11, rfl, hf11⟩
      have HQ11 := Lib.hid hf11
      have HG11 := Lib.hid (HFb.out.below hf11.bel)
      clear hf11 s2 s3 s4 s5
      obtain ⟨Ap11, cp11, hvp11, _, _⟩ := HQ11.out.own.slice
      subst hvp11
      have HR11 := Lib.hid (EOwn.reads (M := P3) elB_ok HQ11.out.own)
      go_wp2_with ((at_builtin; go_loud (refine wpList_eappr2 (e2 := 5) elB_ok rfl _ _ 24 24 rfl (by kernel_rfl) (by kernel_rfl) _ (Q ++ P1 ++ P2) P3 Ap11 cp11 rfl rfl HG11.out.own HR11.out (by have := HLP.out; simp only [maxLen, List.length_append]; omega) (by have := HLP.out; have h1 : elB.by_ = 1 := rfl; rw [h1]; (try simp only [List.length_append]); omega) ?_; intro vn11 wn11 hA; have HFc := Lib.hid (HG11.out.app (Below.refl _ _) hA); clear hA; obtain ⟨A12, c12, hv12, hl12, hm12⟩ := HFc.out.own.slice; generalize (Q ++ P1 ++ P2 ++ P3).length = lj12 at hv12 hl12; subst hv12; clear hl12 hm12)))
      go_roundw
      case rel => exact ⟨k + 1, by omega, by go_num, Lib.hid (by rw [HTK2.out]; exact HFc.out)⟩
      case measure => simp [intOf]; omega
    · obtain rfl : k = n1 := by omega
      have HT2 : Hid (L.take k = L) := Lib.hid (by rw [HN1.out, List.take_length])
      rw [HT2.out] at HF HLR
      have k11 := (HK.out.thru0 HF.out.bel).cell 11; simp only [e11] at k11
      generalize hRR : R ++ L.flatMap seenW = RR at *
      have HRR := Lib.hid hRR
      clear hRR
      obtain ⟨A13, c13, hv13, hl13, hm13⟩ := HF.out.own.slice
      generalize (RR).length = lj13 at hv13 hl13
      subst hv13
      clear hl13 hm13
      go_wp2_with fail
      have HFT := HF
      go_loopw [5, 88] (fun b i wr => ∃ j : Nat, j ≤ n2 ∧ i = .int .i64 j ∧ Hid (FBy W b (RR ++ (M.take j).flatMap evtW) wr)) (fun _ i _ => n2 - (intOf i).toNat)
      case atStart => exact ⟨0, Nat.zero_le _, rfl, by simpa using HFT⟩
      case round =>
        rename World => wr2
        obtain ⟨j, hj, rfl, HF2⟩ := hrel
        have HLR2 : Hid ((RR ++ (M.take j).flatMap evtW).length ≤ 1600) := Lib.hid (by
          have h1 := evtW_le (M.take j)
          have h2 : (M.take j).length ≤ 64 := by rw [List.length_take]; have := HL2.out; omega
          have h3 := HLR.out
          rw [List.length_append]; omega)
        by_cases hlt3 : j < n2
        · have hkl : j < M.length := by rw [← HN2.out]; exact hlt3
          have hx : M[j]? = some M[j] := List.getElem?_eq_getElem hkl
          have HTK := Lib.hid (tk_evt M j hkl)
          obtain ⟨g, o, hg, a0, a1, a2, a3⟩ := elOE_at (HRE.out.below (below_trans HBW.out HF2.out.bel)) hx
          subst hg
          have hlt4 : (j : Int) < n2 := by omega
          generalize M[j] = x at *
          clear hx
          have HP1 := Lib.hid (fun o => put_call2 wr2 o 2 (by decide) (by decide) [x.usr] (by simp))
          have HP2 := Lib.hid (fun w => put_call w 1 (by decide) (by decide) [x.op, x.st] (by simp))
          have HP3 := Lib.hid (fun w => put_call w 4 (by decide) (by decide) [x.tick] (by simp))
          have HLP : Hid ((RR ++ (M.take j).flatMap evtW).length ≤ 1600 ∧ (rowB 2 [x.usr]).length ≤ 2 ∧ (rowB 1 [x.op, x.st]).length ≤ 2 ∧ (rowB 4 [x.tick]).length ≤ 4) := Lib.hid ⟨HLR2.out, rowB_len _ _, rowB_len _ _, rowB_len _ _⟩
          generalize rowB 2 [x.usr] = P1 at *
          generalize rowB 1 [x.op, x.st] = P2 at *
          generalize rowB 4 [x.tick] = P3 at *
          have HTK2 : Hid (RR ++ (M.take (j + 1)).flatMap evtW = RR ++ (M.take j).flatMap evtW ++ P1 ++ P2 ++ P3) := Lib.hid (by rw [HTK.out]; simp only [List.append_assoc])
          generalize RR ++ (M.take j).flatMap evtW = Q at *
          clear HTK
          obtain ⟨A14, c14, hv14, hl14, hm14⟩ := HF2.out.own.slice
          generalize (Q).length = lj14 at hv14 hl14
          subst hv14
          clear hl14 hm14
          go_wp2_with fail
          refine (HP1.out _).mono ?_
          rintro e w15 ⟨v15, rfl, hf15⟩
          have HQ15 := Lib.hid hf15
          have HG15 := Lib.hid ((HF2.out.below ((Below.refl _ _).alloc (Nat.le_refl _) _)).below hf15.bel)
          have HS15 := Lib.hid ((Blk.new wr2 62 #[.int .i64 x.usr, .int .i64 x.op, .int .i64 x.st, .int .i64 x.tick]).thru0 hf15.bel)
          have HNQ := Lib.hid (fun i hi => Nat.ne_of_lt (HF2.out.own.lt (i := i) hi))
          clear hf15 a0 a1 a2 a3
          obtain ⟨Ap15, cp15, hvp15, _, _⟩ := HQ15.out.own.slice
          subst hvp15
          have HR15 := Lib.hid (EOwn.reads (M := P1) elB_ok HQ15.out.own)
          go_wp2_with ((at_builtin; go_loud (refine wpList_eappr2 (e2 := 5) elB_ok rfl _ _ 24 24 rfl (by kernel_rfl) (by kernel_rfl) _ Q P1 Ap15 cp15 rfl rfl HG15.out.own HR15.out (by have := HLP.out; simp only [maxLen, List.length_append]; omega) (by have := HLP.out; have h1 : elB.by_ = 1 := rfl; rw [h1]; (try simp only [List.length_append]); omega) ?_; intro vn15 wn15 hA; have HFa := Lib.hid (HG15.out.app (Below.refl _ _) hA); have HKQ := Lib.hid (keepq HS15.out hA HNQ.out); clear HNQ; have HSan := Lib.hid HKQ.out.1; have HNQ := Lib.hid HKQ.out.2; clear HKQ; have s1 := HSan.out.cell 1; simp only [List.getElem?_toArray, List.getElem?_cons_zero, List.getElem?_cons_succ] at s1; have s2 := HSan.out.cell 2; simp only [List.getElem?_toArray, List.getElem?_cons_zero, List.getElem?_cons_succ] at s2; clear hA; obtain ⟨A16, c16, hv16, hl16, hm16⟩ := HFa.out.own.slice; generalize (Q ++ P1).length = lj16 at hv16 hl16; subst hv16; clear hl16 hm16)))
          refine (HP2.out _).mono ?_
          rintro e w17 ⟨v17, rfl, hf17⟩
          have HQ17 := Lib.hid hf17
          have HG17 := Lib.hid (HFa.out.below hf17.bel)
          have HS17 := Lib.hid (HSan.out.thru0 hf17.bel)
          clear hf17 s1 s2
          obtain ⟨Ap17, cp17, hvp17, _, _⟩ := HQ17.out.own.slice
          subst hvp17
          have HR17 := Lib.hid (EOwn.reads (M := P2) elB_ok HQ17.out.own)
          go_wp2_with ((at_builtin; go_loud (refine wpList_eappr2 (e2 := 5) elB_ok rfl _ _ 24 24 rfl (by kernel_rfl) (by kernel_rfl) _ (Q ++ P1) P2 Ap17 cp17 rfl rfl HG17.out.own HR17.out (by have := HLP.out; simp only [maxLen, List.length_append]; omega) (by have := HLP.out; have h1 : elB.by_ = 1 := rfl; rw [h1]; (try simp only [List.length_append]); omega) ?_; intro vn17 wn17 hA; have HFb := Lib.hid (HG17.out.app (Below.refl _ _) hA); have HKQ := Lib.hid (keepq HS17.out hA HNQ.out); clear HNQ; have HSbn := Lib.hid HKQ.out.1; have HNQ := Lib.hid HKQ.out.2; clear HKQ; have s3 := HSbn.out.cell 3; simp only [List.getElem?_toArray, List.getElem?_cons_zero, List.getElem?_cons_succ] at s3; clear hA; obtain ⟨A18, c18, hv18, hl18, hm18⟩ := HFb.out.own.slice; generalize (Q ++ P1 ++ P2).length = lj18 at hv18 hl18; subst hv18; clear hl18 hm18)))
          refine (HP3.out _).mono ?_
          rintro e w19 ⟨v19, rfl, hf19⟩
          have HQ19 := Lib.hid hf19
          have HG19 := Lib.hid (HFb.out.below hf19.bel)
          clear hf19 s3
          obtain ⟨Ap19, cp19, hvp19, _, _⟩ := HQ19.out.own.slice
          subst hvp19
          have HR19 := Lib.hid (EOwn.reads (M := P3) elB_ok HQ19.out.own)
          go_wp2_with ((at_builtin; go_loud (refine wpList_eappr2 (e2 := 5) elB_ok rfl _ _ 24 24 rfl (by kernel_rfl) (by kernel_rfl) _ (Q ++ P1 ++ P2) P3 Ap19 cp19 rfl rfl HG19.out.own HR19.out (by have := HLP.out; simp only [maxLen, List.length_append]; omega) (by have := HLP.out; have h1 : elB.by_ = 1 := rfl; rw [h1]; (try simp only [List.length_append]); omega) ?_; intro vn19 wn19 hA; have HFc := Lib.hid (HG19.out.app (Below.refl _ _) hA); clear hA; obtain ⟨A20, c20, hv20, hl20, hm20⟩ := HFc.out.own.slice; generalize (Q ++ P1 ++ P2 ++ P3).length = lj20 at hv20 hl20; subst hv20; clear hl20 hm20)))
          go_roundw
          case rel => exact ⟨j + 1, by omega, by go_num, Lib.hid (by rw [HTK2.out]; exact HFc.out)⟩
          case measure => simp [intOf]; omega
        · obtain rfl : j = n2 := by omega
          have HT3 : Hid (M.take j = M) := Lib.hid (by rw [HN2.out, List.take_length])
          rw [HT3.out] at HF2
          have HEE : Hid (RR ++ M.flatMap evtW = wrW 12 a L M) := Lib.hid (by rw [← HRR.out, HRX.out]; simp only [wrW, List.append_assoc])
          rw [HEE.out] at HF2
          obtain ⟨A21, c21, hv21, hl21, hm21⟩ := HF2.out.own.slice
          generalize (wrW 12 a L M).length = lj21 at hv21 hl21
          subst hv21
          clear hl21 hm21
          go_wp2_with fail
          go_ret
          exact ⟨_, rfl, HF2.out.up HBW.out⟩
set_option maxRecDepth 100000 in
set_option maxHeartbeats 8000000 in
theorem write_else (w : World) (a : An) (L : List Snt) (M : List Evt) (op : Int) (h4 : op ≠ 4) (h5 : op ≠ 5) (h10 : op ≠ 10) (h12 : op ≠ 12) (h : AnR w a L M) (hL : L.length ≤ 64) (hM : M.length ≤ 64) (hs : a.sec ≤ 18446744073709551615) :
    Calls Try.prog 28 #[.int .i64 (op), .agg a.cs] w fun e w' => ∃ v, e = .returned v ∧ FBy w v (wrW (op) a L M) w' := by
  obtain ⟨W, hW⟩ : ∃ W, W = w.alloc (.cells a.cs TA) := ⟨_, rfl⟩
  have HBW := Lib.hid (show Below w.heap.size w W by rw [hW]; exact (Below.refl _ _).alloc (Nat.le_refl _) _)
  have HK := Lib.hid (show Blk W w.heap.size TA a.cs by rw [hW]; exact Blk.new _ _ _)
  have e0 : a.cs[0]? = some (.int .i64 a.st) := rfl
  have e1 : a.cs[1]? = some (.int .u64 (a.sec : Int)) := rfl
  have e2 : a.cs[2]? = some (.int .i64 a.rid) := rfl
  have e3 : a.cs[3]? = some (.int .i64 a.rx) := rfl
  have e4 : a.cs[4]? = some (.int .i64 a.ry) := rfl
  have e5 : a.cs[5]? = some (.int .i64 a.lab) := rfl
  have e6 : a.cs[6]? = some (.int .i64 a.b0) := rfl
  have e7 : a.cs[7]? = some (.int .i64 a.b1) := rfl
  have e8 : a.cs[8]? = some (.int .i64 a.b2) := rfl
  have e9 : a.cs[9]? = some (.int .i64 a.b3) := rfl
  have e10 : a.cs[10]? = some (.slice a.sA a.sn a.sc) := rfl
  have e11 : a.cs[11]? = some (.slice a.eA a.en a.ec) := rfl
  have HSC := Lib.hid hs
  obtain ⟨n1, hn1⟩ : ∃ n, n = a.sn := ⟨_, rfl⟩
  obtain ⟨n2, hn2⟩ : ∃ n, n = a.en := ⟨_, rfl⟩
  obtain ⟨sA, hsA⟩ : ∃ n, n = a.sA := ⟨_, rfl⟩
  obtain ⟨eA, heA⟩ : ∃ n, n = a.eA := ⟨_, rfl⟩
  have HRS : Hid (ERd elOS w (.slice sA n1 a.sc) L) := Lib.hid (by rw [hsA, hn1]; exact h.seen)
  have HRE : Hid (ERd elOE w (.slice eA n2 a.ec) M) := Lib.hid (by rw [heA, hn2]; exact h.evs)
  have HN1 : Hid (n1 = L.length) := Lib.hid (hn1.trans h.sl.symm)
  have HN2 : Hid (n2 = M.length) := Lib.hid (hn2.trans h.el.symm)
  have HL1 := Lib.hid hL
  have HL2 := Lib.hid hM
  have hq1 : n1 ≤ 64 := by rw [HN1.out]; exact hL
  have hq2 : n2 ≤ 64 := by rw [HN2.out]; exact hM
  have e10' : a.cs[10]? = some (.slice sA n1 a.sc) := by rw [hn1, hsA]; exact e10
  have e11' : a.cs[11]? = some (.slice eA n2 a.ec) := by rw [hn2, heA]; exact e11
  have HWR : Hid (wrW (op) a L M = rowB 1 [a.st, (op), (n1 : Int) + (n2 : Int)] ++ (midW (op) a ++ (L.flatMap seenW ++ M.flatMap evtW))) := Lib.hid (by rw [hn1, hn2]; rfl)
  clear h hL hM hs e10 e11 hn1 hn2 hsA heA
  have e10 := e10'
  have e11 := e11'
  clear e10' e11'
  have hWs := hW.symm
  have k0 := HK.out.cell 0; simp only [e0] at k0
  have k10 := HK.out.cell 10; simp only [e10] at k10
  have k11 := HK.out.cell 11; simp only [e11] at k11
  have HP0 := Lib.hid (put_call W 1 (by decide) (by decide) [a.st, (op), (n1 : Int) + (n2 : Int)] (by simp))
  have HL0 := Lib.hid (rowB_len 1 [a.st, (op), (n1 : Int) + (n2 : Int)])
  clear hW
  generalize rowB 1 [a.st, (op), (n1 : Int) + (n2 : Int)] = R0 at *
  go_enter Try.func28, Try.ntmps28
  go_wp2_with fail
  refine HP0.out.mono ?_
  rintro e w0 ⟨v0, rfl, hf0⟩
  have HF0 := Lib.hid hf0
  have HLZ : Hid (R0.length ≤ 3) := HL0
  clear hf0 hWs k0 k10 k11 HP0
  obtain ⟨A1, c1, hv1, hl1, hm1⟩ := HF0.out.own.slice
  generalize (R0).length = lj1 at hv1 hl1
  subst hv1
  clear hl1 hm1
  have b4 : (op == 4) = false := beq_eq_false_iff_ne.2 h4
  have b5 : (op == 5) = false := beq_eq_false_iff_ne.2 h5
  have b10 : (op == 10) = false := beq_eq_false_iff_ne.2 h10
  have b12 : (op == 12) = false := beq_eq_false_iff_ne.2 h12
  have HMW : Hid (midW op a = []) := Lib.hid (by unfold midW; rw [if_neg (by omega), if_neg h12, if_neg h10])
  have k10 := (HK.out.thru0 HF0.out.bel).cell 10; simp only [e10] at k10
  have HFX := HF0
  have HLX : Hid (R0.length ≤ 12) := Lib.hid (by have := HLZ.out; omega)
  have HRX : Hid (wrW op a L M = R0 ++ (L.flatMap seenW ++ M.flatMap evtW)) := Lib.hid (by rw [HWR.out, HMW.out]; simp only [List.nil_append])
  generalize R0 = R at *
  go_wp2_with fail
  have HFS := HFX
  go_loopw [5, 63] (fun b i wr => ∃ k : Nat, k ≤ n1 ∧ i = .int .i64 k ∧ Hid (FBy W b (R ++ (L.take k).flatMap seenW) wr)) (fun _ i _ => n1 - (intOf i).toNat)
  case atStart => exact ⟨0, Nat.zero_le _, rfl, by simpa using HFS⟩
  case round =>
    rename World => wr
    obtain ⟨k, hk, rfl, HF⟩ := hrel
    have HLR : Hid ((R ++ (L.take k).flatMap seenW).length ≤ 800) := Lib.hid (by
      have h1 := seenW_le (L.take k)
      have h2 : (L.take k).length ≤ 64 := by rw [List.length_take]; have := HL1.out; omega
      have h3 := HLX.out
      rw [List.length_append]; omega)
    by_cases hlt : k < n1
    · have hkl : k < L.length := by rw [← HN1.out]; exact hlt
      have hx : L[k]? = some L[k] := List.getElem?_eq_getElem hkl
      have HTK := Lib.hid (tk_seen L k hkl)
      obtain ⟨g, o, hg, a0, a1, a2, a3, a4, a5⟩ := elOS_at (HRS.out.below (below_trans HBW.out HF.out.bel)) hx
      subst hg
      have hlt2 : (k : Int) < n1 := by omega
      generalize L[k] = x at *
      clear hx
      have HP1 := Lib.hid (fun o => put_call2 wr o 2 (by decide) (by decide) [x.id] (by simp))
      have HP2 := Lib.hid (fun w => put_call w 1 (by decide) (by decide) [x.lev] (by simp))
      have HP3 := Lib.hid (fun w => putbox_any w x.b0 x.b1 x.b2 x.b3)
      have HLP : Hid ((R ++ (L.take k).flatMap seenW).length ≤ 800 ∧ (rowB 2 [x.id]).length ≤ 2 ∧ (rowB 1 [x.lev]).length ≤ 1 ∧ (rowB 2 [x.b0, x.b1, x.b2, x.b3]).length ≤ 8) := Lib.hid ⟨HLR.out, rowB_len _ _, rowB_len _ _, rowB_len _ _⟩
      generalize rowB 2 [x.id] = P1 at *
      generalize rowB 1 [x.lev] = P2 at *
      generalize rowB 2 [x.b0, x.b1, x.b2, x.b3] = P3 at *
      have HTK2 : Hid (R ++ (L.take (k + 1)).flatMap seenW = R ++ (L.take k).flatMap seenW ++ P1 ++ P2 ++ P3) := Lib.hid (by rw [HTK.out]; simp only [List.append_assoc])
      generalize R ++ (L.take k).flatMap seenW = Q at *
      clear HTK
      obtain ⟨A2, c2, hv2, hl2, hm2⟩ := HF.out.own.slice
      generalize (Q).length = lj2 at hv2 hl2
      subst hv2
      clear hl2 hm2
      go_wp2_with fail
      refine (HP1.out _).mono ?_
      rintro e w3 ⟨v3, rfl, hf3⟩
      have HQ3 := Lib.hid hf3
      have HG3 := Lib.hid ((HF.out.below ((Below.refl _ _).alloc (Nat.le_refl _) _)).below hf3.bel)
      have HS3 := Lib.hid ((Blk.new wr 59 #[.int .i64 x.id, .int .i64 x.lev, .int .i64 x.b0, .int .i64 x.b1, .int .i64 x.b2, .int .i64 x.b3]).thru0 hf3.bel)
      have HNQ := Lib.hid (fun i hi => Nat.ne_of_lt (HF.out.own.lt (i := i) hi))
      clear hf3 a0 a1 a2 a3 a4 a5
      obtain ⟨Ap3, cp3, hvp3, _, _⟩ := HQ3.out.own.slice
      subst hvp3
      have HR3 := Lib.hid (EOwn.reads (M := P1) elB_ok HQ3.out.own)
      go_wp2_with ((at_builtin; go_loud (refine wpList_eappr2 (e2 := 5) elB_ok rfl _ _ 24 24 rfl (by kernel_rfl) (by kernel_rfl) _ Q P1 Ap3 cp3 rfl rfl HG3.out.own HR3.out (by have := HLP.out; simp only [maxLen, List.length_append]; omega) (by have := HLP.out; have h1 : elB.by_ = 1 := rfl; rw [h1]; (try simp only [List.length_append]); omega) ?_; intro vn3 wn3 hA; have HFa := Lib.hid (HG3.out.app (Below.refl _ _) hA); have HKQ := Lib.hid (keepq HS3.out hA HNQ.out); clear HNQ; have HSan := Lib.hid HKQ.out.1; have HNQ := Lib.hid HKQ.out.2; clear HKQ; have s1 := HSan.out.cell 1; simp only [List.getElem?_toArray, List.getElem?_cons_zero, List.getElem?_cons_succ] at s1; clear hA; obtain ⟨A4, c4, hv4, hl4, hm4⟩ := HFa.out.own.slice; generalize (Q ++ P1).length = lj4 at hv4 hl4; subst hv4; clear hl4 hm4)))
      refine (HP2.out _).mono ?_
      rintro e w5 ⟨v5, rfl, hf5⟩
      have HQ5 := Lib.hid hf5
      have HG5 := Lib.hid (HFa.out.below hf5.bel)
      have HS5 := Lib.hid (HSan.out.thru0 hf5.bel)
      clear hf5 s1
      obtain ⟨Ap5, cp5, hvp5, _, _⟩ := HQ5.out.own.slice
      subst hvp5
      have HR5 := Lib.hid (EOwn.reads (M := P2) elB_ok HQ5.out.own)
      go_wp2_with ((at_builtin; go_loud (refine wpList_eappr2 (e2 := 5) elB_ok rfl _ _ 24 24 rfl (by kernel_rfl) (by kernel_rfl) _ (Q ++ P1) P2 Ap5 cp5 rfl rfl HG5.out.own HR5.out (by have := HLP.out; simp only [maxLen, List.length_append]; omega) (by have := HLP.out; have h1 : elB.by_ = 1 := rfl; rw [h1]; (try simp only [List.length_append]); omega) ?_; intro vn5 wn5 hA; have HFb := Lib.hid (HG5.out.app (Below.refl _ _) hA); have HKQ := Lib.hid (keepq HS5.out hA HNQ.out); clear HNQ; have HSbn := Lib.hid HKQ.out.1; have HNQ := Lib.hid HKQ.out.2; clear HKQ; have s2 := HSbn.out.cell 2; simp only [List.getElem?_toArray, List.getElem?_cons_zero, List.getElem?_cons_succ] at s2; have s3 := HSbn.out.cell 3; simp only [List.getElem?_toArray, List.getElem?_cons_zero, List.getElem?_cons_succ] at s3; have s4 := HSbn.out.cell 4; simp only [List.getElem?_toArray, List.getElem?_cons_zero, List.getElem?_cons_succ] at s4; have s5 := HSbn.out.cell 5; simp only [List.getElem?_toArray, List.getElem?_cons_zero, List.getElem?_cons_succ] at s5; clear hA; obtain ⟨A6, c6, hv6, hl6, hm6⟩ := HFb.out.own.slice; generalize (Q ++ P1 ++ P2).length = lj6 at hv6 hl6; subst hv6; clear hl6 hm6)))
      refine (HP3.out _).mono ?_
      rintro e w7 ⟨v7, rfl, hf7⟩
      have HQ7 := Lib.hid hf7
      have HG7 := Lib.hid (HFb.out.below hf7.bel)
      clear hf7 s2 s3 s4 s5
      obtain ⟨Ap7, cp7, hvp7, _, _⟩ := HQ7.out.own.slice
      subst hvp7
      have HR7 := Lib.hid (EOwn.reads (M := P3) elB_ok HQ7.out.own)
      go_wp2_with ((at_builtin; go_loud (refine wpList_eappr2 (e2 := 5) elB_ok rfl _ _ 24 24 rfl (by kernel_rfl) (by kernel_rfl) _ (Q ++ P1 ++ P2) P3 Ap7 cp7 rfl rfl HG7.out.own HR7.out (by have := HLP.out; simp only [maxLen, List.length_append]; omega) (by have := HLP.out; have h1 : elB.by_ = 1 := rfl; rw [h1]; (try simp only [List.length_append]); omega) ?_; intro vn7 wn7 hA; have HFc := Lib.hid (HG7.out.app (Below.refl _ _) hA); clear hA; obtain ⟨A8, c8, hv8, hl8, hm8⟩ := HFc.out.own.slice; generalize (Q ++ P1 ++ P2 ++ P3).length = lj8 at hv8 hl8; subst hv8; clear hl8 hm8)))
      go_roundw
      case rel => exact ⟨k + 1, by omega, by go_num, Lib.hid (by rw [HTK2.out]; exact HFc.out)⟩
      case measure => simp [intOf]; omega
    · obtain rfl : k = n1 := by omega
      have HT2 : Hid (L.take k = L) := Lib.hid (by rw [HN1.out, List.take_length])
      rw [HT2.out] at HF HLR
      have k11 := (HK.out.thru0 HF.out.bel).cell 11; simp only [e11] at k11
      generalize hRR : R ++ L.flatMap seenW = RR at *
      have HRR := Lib.hid hRR
      clear hRR
      obtain ⟨A9, c9, hv9, hl9, hm9⟩ := HF.out.own.slice
      generalize (RR).length = lj9 at hv9 hl9
      subst hv9
      clear hl9 hm9
      go_wp2_with fail
      have HFT := HF
      go_loopw [5, 88] (fun b i wr => ∃ j : Nat, j ≤ n2 ∧ i = .int .i64 j ∧ Hid (FBy W b (RR ++ (M.take j).flatMap evtW) wr)) (fun _ i _ => n2 - (intOf i).toNat)
      case atStart => exact ⟨0, Nat.zero_le _, rfl, by simpa using HFT⟩
      case round =>
        rename World => wr2
        obtain ⟨j, hj, rfl, HF2⟩ := hrel
        have HLR2 : Hid ((RR ++ (M.take j).flatMap evtW).length ≤ 1600) := Lib.hid (by
          have h1 := evtW_le (M.take j)
          have h2 : (M.take j).length ≤ 64 := by rw [List.length_take]; have := HL2.out; omega
          have h3 := HLR.out
          rw [List.length_append]; omega)
        by_cases hlt3 : j < n2
        · have hkl : j < M.length := by rw [← HN2.out]; exact hlt3
          have hx : M[j]? = some M[j] := List.getElem?_eq_getElem hkl
          have HTK := Lib.hid (tk_evt M j hkl)
          obtain ⟨g, o, hg, a0, a1, a2, a3⟩ := elOE_at (HRE.out.below (below_trans HBW.out HF2.out.bel)) hx
          subst hg
          have hlt4 : (j : Int) < n2 := by omega
          generalize M[j] = x at *
          clear hx
          have HP1 := Lib.hid (fun o => put_call2 wr2 o 2 (by decide) (by decide) [x.usr] (by simp))
          have HP2 := Lib.hid (fun w => put_call w 1 (by decide) (by decide) [x.op, x.st] (by simp))
          have HP3 := Lib.hid (fun w => put_call w 4 (by decide) (by decide) [x.tick] (by simp))
          have HLP : Hid ((RR ++ (M.take j).flatMap evtW).length ≤ 1600 ∧ (rowB 2 [x.usr]).length ≤ 2 ∧ (rowB 1 [x.op, x.st]).length ≤ 2 ∧ (rowB 4 [x.tick]).length ≤ 4) := Lib.hid ⟨HLR2.out, rowB_len _ _, rowB_len _ _, rowB_len _ _⟩
          generalize rowB 2 [x.usr] = P1 at *
          generalize rowB 1 [x.op, x.st] = P2 at *
          generalize rowB 4 [x.tick] = P3 at *
          have HTK2 : Hid (RR ++ (M.take (j + 1)).flatMap evtW = RR ++ (M.take j).flatMap evtW ++ P1 ++ P2 ++ P3) := Lib.hid (by rw [HTK.out]; simp only [List.append_assoc])
          generalize RR ++ (M.take j).flatMap evtW = Q at *
          clear HTK
          obtain ⟨A10, c10, hv10, hl10, hm10⟩ := HF2.out.own.slice
          generalize (Q).length = lj10 at hv10 hl10
          subst hv10
          clear hl10 hm10
          go_wp2_with fail
          refine (HP1.out _).mono ?_
          rintro e w11 ⟨v11, rfl, hf11⟩
          have HQ11 := Lib.hid hf11
          have HG11 := Lib.hid ((HF2.out.below ((Below.refl _ _).alloc (Nat.le_refl _) _)).below hf11.bel)
          have HS11 := Lib.hid ((Blk.new wr2 62 #[.int .i64 x.usr, .int .i64 x.op, .int .i64 x.st, .int .i64 x.tick]).thru0 hf11.bel)
          have HNQ := Lib.hid (fun i hi => Nat.ne_of_lt (HF2.out.own.lt (i := i) hi))
          clear hf11 a0 a1 a2 a3
          obtain ⟨Ap11, cp11, hvp11, _, _⟩ := HQ11.out.own.slice
          subst hvp11
          have HR11 := Lib.hid (EOwn.reads (M := P1) elB_ok HQ11.out.own)
          go_wp2_with ((at_builtin; go_loud (refine wpList_eappr2 (e2 := 5) elB_ok rfl _ _ 24 24 rfl (by kernel_rfl) (by kernel_rfl) _ Q P1 Ap11 cp11 rfl rfl HG11.out.own HR11.out (by have := HLP.out; simp only [maxLen, List.length_append]; omega) (by have := HLP.out; have h1 : elB.by_ = 1 := rfl; rw [h1]; (try simp only [List.length_append]); omega) ?_; intro vn11 wn11 hA; have HFa := Lib.hid (HG11.out.app (Below.refl _ _) hA); have HKQ := Lib.hid (keepq HS11.out hA HNQ.out); clear HNQ; have HSan := Lib.hid HKQ.out.1; have HNQ := Lib.hid HKQ.out.2; clear HKQ; have s1 := HSan.out.cell 1; simp only [List.getElem?_toArray, List.getElem?_cons_zero, List.getElem?_cons_succ] at s1; have s2 := HSan.out.cell 2; simp only [List.getElem?_toArray, List.getElem?_cons_zero, List.getElem?_cons_succ] at s2; clear hA; obtain ⟨A12, c12, hv12, hl12, hm12⟩ := HFa.out.own.slice; generalize (Q ++ P1).length = lj12 at hv12 hl12; subst hv12; clear hl12 hm12)))
          refine (HP2.out _).mono ?_
          rintro e w13 ⟨v13, rfl, hf13⟩
          have HQ13 := Lib.hid hf13
          have HG13 := Lib.hid (HFa.out.below hf13.bel)
          have HS13 := Lib.hid (HSan.out.thru0 hf13.bel)
          clear hf13 s1 s2
          obtain ⟨Ap13, cp13, hvp13, _, _⟩ := HQ13.out.own.slice
          subst hvp13
          have HR13 := Lib.hid (EOwn.reads (M := P2) elB_ok HQ13.out.own)
          go_wp2_with ((at_builtin; go_loud (refine wpList_eappr2 (e2 := 5) elB_ok rfl _ _ 24 24 rfl (by kernel_rfl) (by kernel_rfl) _ (Q ++ P1) P2 Ap13 cp13 rfl rfl HG13.out.own HR13.out (by have := HLP.out; simp only [maxLen, List.length_append]; omega) (by have := HLP.out; have h1 : elB.by_ = 1 := rfl; rw [h1]; (try simp only [List.length_append]); omega) ?_; intro vn13 wn13 hA; have HFb := Lib.hid (HG13.out.app (Below.refl _ _) hA); have HKQ := Lib.hid (keepq HS13.out hA HNQ.out); clear HNQ; have HSbn := Lib.hid HKQ.out.1; have HNQ := Lib.hid HKQ.out.2; clear HKQ; have s3 := HSbn.out.cell 3; simp only [List.getElem?_toArray, List.getElem?_cons_zero, List.getElem?_cons_succ] at s3; clear hA; obtain ⟨A14, c14, hv14, hl14, hm14⟩ := HFb.out.own.slice; generalize (Q ++ P1 ++ P2).length = lj14 at hv14 hl14; subst hv14; clear hl14 hm14)))
          refine (HP3.out _).mono ?_
          rintro e w15 ⟨v15, rfl, hf15⟩
          have HQ15 := Lib.hid hf15
          have HG15 := Lib.hid (HFb.out.below hf15.bel)
          clear hf15 s3
          obtain ⟨Ap15, cp15, hvp15, _, _⟩ := HQ15.out.own.slice
          subst hvp15
          have HR15 := Lib.hid (EOwn.reads (M := P3) elB_ok HQ15.out.own)
          go_wp2_with ((at_builtin; go_loud (refine wpList_eappr2 (e2 := 5) elB_ok rfl _ _ 24 24 rfl (by kernel_rfl) (by kernel_rfl) _ (Q ++ P1 ++ P2) P3 Ap15 cp15 rfl rfl HG15.out.own HR15.out (by have := HLP.out; simp only [maxLen, List.length_append]; omega) (by have := HLP.out; have h1 : elB.by_ = 1 := rfl; rw [h1]; (try simp only [List.length_append]); omega) ?_; intro vn15 wn15 hA; have HFc := Lib.hid (HG15.out.app (Below.refl _ _) hA); clear hA; obtain ⟨A16, c16, hv16, hl16, hm16⟩ := HFc.out.own.slice; generalize (Q ++ P1 ++ P2 ++ P3).length = lj16 at hv16 hl16; subst hv16; clear hl16 hm16)))
          go_roundw
          case rel => exact ⟨j + 1, by omega, by go_num, Lib.hid (by rw [HTK2.out]; exact HFc.out)⟩
          case measure => simp [intOf]; omega
        · obtain rfl : j = n2 := by omega
          have HT3 : Hid (M.take j = M) := Lib.hid (by rw [HN2.out, List.take_length])
          rw [HT3.out] at HF2
          have HEE : Hid (RR ++ M.flatMap evtW = wrW op a L M) := Lib.hid (by rw [← HRR.out, HRX.out]; simp only [wrW, List.append_assoc])
          rw [HEE.out] at HF2
          obtain ⟨A17, c17, hv17, hl17, hm17⟩ := HF2.out.own.slice
          generalize (wrW op a L M).length = lj17 at hv17 hl17
          subst hv17
          clear hl17 hm17
          go_wp2_with fail
          go_ret
          exact ⟨_, rfl, HF2.out.up HBW.out⟩
theorem write_any (w : World) (op : Int) (a : An) (L : List Snt) (M : List Evt) (h : AnR w a L M) (hL : L.length ≤ 64) (hM : M.length ≤ 64) (hs : a.sec ≤ 18446744073709551615) :
    Calls Try.prog 28 #[.int .i64 op, .agg a.cs] w fun e w' => ∃ v, e = .returned v ∧ FBy w v (wrW op a L M) w' := by
  by_cases h4 : op = 4
  · subst h4; exact write_mint w a L M h hL hM hs
  · by_cases h5 : op = 5
    · subst h5; exact write_att w a L M h hL hM hs
    · by_cases h10 : op = 10
      · subst h10; exact write_pub w a L M h hL hM hs
      · by_cases h12 : op = 12
        · subst h12; exact write_where w a L M h hL hM hs
        · exact write_else w a L M op h4 h5 h10 h12 h hL hM hs
end Go.Proofs.Ytmapcdmegkfheaa
