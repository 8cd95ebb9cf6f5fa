/- reply: the document's Bytes, by contract. -/
import Derived.Test.YtmapcdmegkfheaaZbRe15
import Derived.Test.YtmapcdmegkfheaaZbRe17
import Derived.StillTailTactics
import Derived.Deep.RegionHeld3
import Derived.Deep.Cut
namespace Go.Proofs.Ytmapcdmegkfheaa
set_option linter.unusedVariables false
set_option linter.unusedSimpArgs false
open Go.RowKit
def seenE (s : Snt) : Bs := be 2 (toU s.id) ++ (be 1 (toU s.lev) ++ rectE s.b0 s.b1 s.b2 s.b3)
def evtE (e : Evt) : Bs := be 2 (toU e.usr) ++ (be 1 (toU e.op) ++ (be 1 (toU e.st) ++ be 4 (toU e.tick)))
def midE (op : Int) (a : An) : Bs :=
  if a.st ≠ 0 then [] else if op = 4 ∨ op = 5 then be 8 a.sec else if op = 12 then be 2 (toU a.rx) ++ (be 2 (toU a.ry) ++ be 1 (toU a.lab)) else if op = 10 then rectE a.b0 a.b1 a.b2 a.b3 else []
def headE (op : Int) (a : An) : Bs := [UInt8.ofNat a.st.toNat, UInt8.ofNat op.toNat, UInt8.ofNat (a.sn + a.en)]
/-- The document's bytes up to the last item. -/
def refE (op : Int) (a : An) (L : List Snt) (M : List Evt) : Bs := headE op a ++ (midE op a ++ (L.flatMap seenE ++ M.flatMap evtE))
def bytE (op m : Int) (a : An) (L : List Snt) (M : List Evt) : Bs := refE op a L M ++ List.replicate ((lenN op m).toNat - (refE op a L M).length) 0
theorem rectE_len (a b c d : Int) : (rectE a b c d).length = 8 := by simp [rectE, be_length]
theorem seenE_len (L : List Snt) : (L.flatMap seenE).length = L.length * 11 := by
  induction L with
  | nil => simp
  | cons x L ih =>
    rw [List.flatMap_cons, List.length_append, ih]
    simp only [seenE, List.length_append, be_length, rectE_len, List.length_cons]
    omega
theorem evtE_len (L : List Evt) : (L.flatMap evtE).length = L.length * 8 := by
  induction L with
  | nil => simp
  | cons x L ih =>
    rw [List.flatMap_cons, List.length_append, ih]
    simp only [evtE, List.length_append, be_length, List.length_cons]
    omega
theorem tk_seenE (L : List Snt) (k : Nat) (h : k < L.length) : (L.take (k + 1)).flatMap seenE = (L.take k).flatMap seenE ++ (be 2 (toU L[k].id) ++ (be 1 (toU L[k].lev) ++ rectE L[k].b0 L[k].b1 L[k].b2 L[k].b3)) := by
  rw [List.take_succ_eq_append_getElem h, List.flatMap_append]; simp [seenE]
theorem tk_evtE (L : List Evt) (k : Nat) (h : k < L.length) : (L.take (k + 1)).flatMap evtE = (L.take k).flatMap evtE ++ (be 2 (toU L[k].usr) ++ (be 1 (toU L[k].op) ++ (be 1 (toU L[k].st) ++ be 4 (toU L[k].tick)))) := by
  rw [List.take_succ_eq_append_getElem h, List.flatMap_append]; simp [evtE]
def lenOf : Value → Nat
  | .slice _ n _ => n
  | _ => 0
theorem head_own (w : World) (s o c : Nat) (zs zo zc : Int) (h1 : zs = s) (h2 : zo = o) (h3 : zc = c) (hs : s ≤ 255) (ho : o ≤ 255) (hc : c ≤ 255) : FBy w (.slice (some ⟨w.heap.size, 0, none⟩) 3 3) [UInt8.ofNat s, UInt8.ofNat o, UInt8.ofNat c] (w.alloc (.cells #[.int .u8 zs, .int .u8 zo, .int .u8 zc] 5)) := by
  subst h1; subst h2; subst h3
  refine ⟨?_, (Below.refl _ _).alloc (Nat.le_refl _) _, fun i hi => by simp [Value.ownBlock] at hi; omega⟩
  have he : ∀ n : Nat, n ≤ 255 → (UInt8.ofNat n).toNat = n := fun n hn => by simp [UInt8.toNat_ofNat]; omega
  exact EOwn.block (M := [UInt8.ofNat s, UInt8.ofNat o, UInt8.ofNat c]) elB_ok (Blk.new w 5 _) (by rw [rbv_encs]; simp [bv, he s hs, he o ho, he c hc]) (by simp)
theorem rput1 (w0 w : World) (v : Value) (R : Bs) (n : Nat) (hn : n ≤ 18446744073709551615) (h : FBy w0 v R w) (hl : R.length ≤ 2000) :
    Calls Try.prog 36 #[v, .int .u64 (n : Int), .int .i64 1] w fun e w' => ∃ v', e = .returned v' ∧ Ap w0 w v (R ++ be 1 n) v' w' := rput_any w0 w v R n 1 (by decide) (by decide) hn h hl
theorem rput2 (w0 w : World) (v : Value) (R : Bs) (n : Nat) (hn : n ≤ 18446744073709551615) (h : FBy w0 v R w) (hl : R.length ≤ 2000) :
    Calls Try.prog 36 #[v, .int .u64 (n : Int), .int .i64 2] w fun e w' => ∃ v', e = .returned v' ∧ Ap w0 w v (R ++ be 2 n) v' w' := rput_any w0 w v R n 2 (by decide) (by decide) hn h hl
theorem rput4 (w0 w : World) (v : Value) (R : Bs) (n : Nat) (hn : n ≤ 18446744073709551615) (h : FBy w0 v R w) (hl : R.length ≤ 2000) :
    Calls Try.prog 36 #[v, .int .u64 (n : Int), .int .i64 4] w fun e w' => ∃ v', e = .returned v' ∧ Ap w0 w v (R ++ be 4 n) v' w' := rput_any w0 w v R n 4 (by decide) (by decide) hn h hl
theorem rput8 (w0 w : World) (v : Value) (R : Bs) (n : Nat) (hn : n ≤ 18446744073709551615) (h : FBy w0 v R w) (hl : R.length ≤ 2000) :
    Calls Try.prog 36 #[v, .int .u64 (n : Int), .int .i64 8] w fun e w' => ∃ v', e = .returned v' ∧ Ap w0 w v (R ++ be 8 n) v' w' := rput_any w0 w v R n 8 (by decide) (by decide) hn h hl
set_option maxRecDepth 100000 in
set_option maxHeartbeats 8000000 in
theorem rbytes_bare (w : World) (m : Int) (a : An) (L : List Snt) (M : List Evt) (op : Int) (h : AnR w a L M) (hma : mayB (op) m a L M = true) (hs : a.sec ≤ 18446744073709551615) (hst : a.st ≠ 0) :
    Calls Try.prog 17 #[.int .i64 (op), .int .i64 m, .agg a.cs] w fun e w' => ∃ v, e = .returned v ∧ FBy w v (bytE (op) m a L M) w' := by
  obtain ⟨q1, q2, q3, q4, q5, q6, q7⟩ := may_few h hma
  have hwi : withinB a.st 0 12 = true := by unfold mayB at hma; simp only [Bool.and_eq_true] at hma; exact hma.2.2.1
  have hwi2 : 0 ≤ a.st ∧ a.st ≤ 12 := by simpa [withinB] using hwi
  obtain ⟨nn, hnn⟩ : ∃ n, n = (lenN (op) m).toNat := ⟨_, rfl⟩
  obtain ⟨r1, r2, r3⟩ := wr_fit h hma
  have HN8 : Hid (nn ≤ 800) := Lib.hid (by rw [hnn]; exact r2)
  have HNN := Lib.hid hnn
  have HLN := Lib.hid (fun w => rlength_any (op) m w)
  rw [← r3, ← hnn] at HLN
  clear r1 r2 r3 hnn hwi
  obtain ⟨st, hste⟩ : ∃ s : Nat, a.st = (s : Int) := ⟨a.st.toNat, by omega⟩
  have hst12 : st ≤ 12 := by omega
  obtain ⟨W, hW⟩ : ∃ W, W = w.alloc (.cells a.cs TA) := ⟨_, rfl⟩
  have HBW := Lib.hid (show Below w.heap.size w W by rw [hW]; exact (Below.refl _ _).alloc (Nat.le_refl _) _)
  have HK := Lib.hid (show Blk W w.heap.size TA a.cs by rw [hW]; exact Blk.new _ _ _)
  obtain ⟨sn, hsn⟩ : ∃ n, n = a.sn := ⟨_, rfl⟩
  obtain ⟨en, hen⟩ : ∃ n, n = a.en := ⟨_, rfl⟩
  obtain ⟨sA, hsA⟩ : ∃ n, n = a.sA := ⟨_, rfl⟩
  obtain ⟨eA, heA⟩ : ∃ n, n = a.eA := ⟨_, rfl⟩
  have HRS : Hid (ERd elOS W (.slice sA sn a.sc) L) := Lib.hid (by rw [hsA, hsn]; exact h.seen.below HBW.out)
  have HRE : Hid (ERd elOE W (.slice eA en a.ec) M) := Lib.hid (by rw [heA, hen]; exact h.evs.below HBW.out)
  have HN1 : Hid (sn = L.length) := Lib.hid (hsn.trans h.sl.symm)
  have HN2 : Hid (en = M.length) := Lib.hid (hen.trans h.el.symm)
  have hq1 : sn ≤ 64 := by rw [HN1.out]; exact q6
  have hq2 : en ≤ 64 := by rw [HN2.out]; exact q7
  have e0 : a.cs[0]? = some (.int .i64 (st : Int)) := by rw [← hste]; rfl
  have e1 : a.cs[1]? = some (.int .u64 (a.sec : Int)) := rfl
  have e2 : a.cs[2]? = some (.int .i64 a.rid) := rfl
  have e3 : a.cs[3]? = some (.int .i64 a.rx) := rfl
  have e4 : a.cs[4]? = some (.int .i64 a.ry) := rfl
  have e5 : a.cs[5]? = some (.int .i64 a.lab) := rfl
  have e6 : a.cs[6]? = some (.int .i64 a.b0) := rfl
  have e7 : a.cs[7]? = some (.int .i64 a.b1) := rfl
  have e8 : a.cs[8]? = some (.int .i64 a.b2) := rfl
  have e9 : a.cs[9]? = some (.int .i64 a.b3) := rfl
  have e10 : a.cs[10]? = some (.slice sA sn a.sc) := by rw [hsA, hsn]; rfl
  have e11 : a.cs[11]? = some (.slice eA en a.ec) := by rw [heA, hen]; rfl
  obtain ⟨kk, hkk⟩ : ∃ kk : Nat, op = (kk : Int) := ⟨op.toNat, by omega⟩
  subst hkk
  have HSC := Lib.hid hs
  have HHE : Hid (headE (kk : Int) a = [UInt8.ofNat st, UInt8.ofNat kk, UInt8.ofNat (sn + en)]) := Lib.hid (by unfold headE; rw [hste, hsn, hen]; rfl)
  have HH3 : Hid ((headE (kk : Int) a).length = 3) := Lib.hid rfl
  have hst1 : ((st : Int) == 0) = false := by simp; omega
  have hz : a.sn = 0 ∧ a.en = 0 := by
    unfold mayB restB at hma
    rw [if_neg hst] at hma
    simp only [Bool.and_eq_true] at hma
    exact bare_rows hma.2.2.2
  have hz1 : sn = 0 := by rw [hsn]; exact hz.1
  have hz2 : en = 0 := by rw [hen]; exact hz.2
  have HLN0 : Hid (L = []) := Lib.hid (List.eq_nil_of_length_eq_zero (by rw [← HN1.out]; exact hz1))
  have HMN0 : Hid (M = []) := Lib.hid (List.eq_nil_of_length_eq_zero (by rw [← HN2.out]; exact hz2))
  clear hsn hen
  subst hz1
  subst hz2
  clear hz
  have HMW : Hid (midE (kk : Int) a = []) := Lib.hid (by unfold midE; rw [if_pos hst])
  have HRF : Hid (refE (kk : Int) a L M = headE (kk : Int) a ++ (midE (kk : Int) a ++ (L.flatMap seenE ++ M.flatMap evtE))) := Lib.hid rfl
  have hWs := hW.symm
  clear h hma hs hW hsA heA hste q5 q6 q7 hwi2
  clear hst
  have k0 := (HK.out.thru0 (Below.refl _ _)).cell 0; simp only [e0] at k0
  have k10 := (HK.out.thru0 (Below.refl _ _)).cell 10; simp only [e10] at k10
  have k11 := (HK.out.thru0 (Below.refl _ _)).cell 11; simp only [e11] at k11
  obtain ⟨W1, hW1⟩ : ∃ W1, W1 = W.alloc (.cells #[.int .u8 (st : Int), .int .u8 (kk : Int), .int .u8 0] 5) := ⟨_, rfl⟩
  have HFa : Hid (FBy W (.slice (some ⟨W.heap.size, 0, none⟩) 3 3) (headE (kk : Int) a) W1) := Lib.hid (by rw [HHE.out, hW1]; exact head_own W st kk (0 + 0) _ _ _ (by first | rfl | omega) (by first | rfl | omega) (by first | rfl | omega) (by omega) (by omega) (by omega))
  have hWs1 := hW1.symm
  clear hW1 HHE
  generalize headE (kk : Int) a = R0 at *
  have y0 := (HK.out.thru0 HFa.out.bel).cell 0; simp only [e0] at y0
  have y10 := (HK.out.thru0 HFa.out.bel).cell 10; simp only [e10] at y10
  have y11 := (HK.out.thru0 HFa.out.bel).cell 11; simp only [e11] at y11
  clear HSC
  go_enter Try.func17, Try.ntmps17
  go_wp2_with fail
  refine wp_loop_rounds 1 ?_
  rw [rounds_succ]
  go_wp2_with fail
  refine wp_loop_rounds 1 ?_
  rw [rounds_succ]
  go_wp2_with fail
  have HRX : Hid (refE (kk : Int) a L M = R0) := Lib.hid (by rw [HRF.out, HMW.out, HLN0.out, HMN0.out]; simp)
  have HFX := HFa
  have HFS := HFX
  go_loopw [7] (fun b wr => ∃ j : Nat, j ≤ nn - (R0).length ∧ Hid (FBy W b ((R0) ++ List.replicate j 0) wr)) (fun b _ => nn - lenOf b)
  case atStart => exact ⟨0, Nat.zero_le _, by simpa using HFS⟩
  case round =>
    rename World => wr
    obtain ⟨j, hj, HF⟩ := hrel
    have HLQ : Hid (((R0) ++ List.replicate j (0 : UInt8)).length = (R0).length + j) := Lib.hid (by rw [List.length_append, List.length_replicate])
    obtain ⟨A9, c9, hv9, hl9, hm9⟩ := HF.out.own.slice
    rw [HLQ.out] at hv9 hl9
    have HN8' := HN8.out
    generalize hrl : (R0).length = rl at *
    subst hv9
    have HJ := Lib.hid hj
    by_cases hlt : rl + j < nn
    · have HSU : Hid ((R0) ++ List.replicate (j + 1) (0 : UInt8) = (R0) ++ List.replicate j 0 ++ [0]) := Lib.hid (by rw [List.replicate_succ', ← List.append_assoc])
      have hlt2 : ((rl + j : Nat) : Int) < (nn : Int) := by omega
      go_wp2_with fail
      refine (HLN.out _).mono ?_
      rintro e wl ⟨rfl, hbl⟩
      have HG := Lib.hid (HF.out.below hbl)
      clear hbl
      have HOW := Lib.hid (HG.out.own.below ((Below.refl _ _).alloc (Nat.le_refl _) (.cells #[.int .u8 0] 5)))
      have HRM := Lib.hid (show Reads (wl.alloc (.cells #[.int .u8 0] 5)) (wl.alloc (.cells #[.int .u8 0] 5)).heap.size 1 (some ⟨wl.heap.size, 0, none⟩) 1 (elB.encs [0]) from one_new2 wl 0 5)
      generalize hQ : (R0) ++ List.replicate j (0 : UInt8) = Q at *
      go_wp2_with ((at_builtin; go_loud (refine wpList_eappr2 (e2 := 5) elB_ok rfl _ _ 24 24 rfl (by kernel_rfl) (by kernel_rfl) _ Q [0] (some ⟨wl.heap.size, 0, none⟩) 1 rfl rfl HOW.out HRM.out (by have h1 := HLQ.out; simp only [maxLen, List.length_cons, List.length_nil]; omega) (by have h2 := HLQ.out; have h1 : elB.by_ = 1 := rfl; rw [h1, List.length_cons, List.length_nil]; omega) ?_; intro v' w9 hA; have HF9 := Lib.hid (HG.out.app ((Below.refl _ _).alloc (Nat.le_refl _) _) hA); have HLV := Lib.hid hA.1.slice; clear hA)))
      go_roundw
      case rel => exact ⟨j + 1, by omega, Lib.hid (by rw [HSU.out]; exact HF9.out)⟩
      case measure =>
        obtain ⟨A8, c8, hv8, _, _⟩ := HLV.out
        have h1 := HLQ.out
        rw [hv8]
        simp only [lenOf, List.length_append, List.length_cons, List.length_nil]
        omega
    · have HJ2 : Hid (j = nn - rl) := Lib.hid (by have := HJ.out; omega)
      have HBY : Hid ((R0) ++ List.replicate j (0 : UInt8) = bytE ((kk : Int)) m a L M) := Lib.hid (by unfold bytE; rw [HRX.out, ← HNN.out, HJ2.out, hrl])
      have hge : ¬ (((rl + j : Nat) : Int) < (nn : Int)) := by omega
      go_wp2_with fail
      refine (HLN.out _).mono ?_
      rintro e wl ⟨rfl, hbl⟩
      have HG := Lib.hid (HF.out.below hbl)
      rw [HBY.out] at HG
      clear hbl
      go_wp2_with fail
      go_ret
      exact ⟨_, rfl, HG.out.up HBW.out⟩
set_option maxRecDepth 100000 in
set_option maxHeartbeats 8000000 in
theorem rbytes_mint (w : World) (m : Int) (a : An) (L : List Snt) (M : List Evt) (h : AnR w a L M) (hma : mayB (4) m a L M = true) (hs : a.sec ≤ 18446744073709551615) (hst : a.st = 0) :
    Calls Try.prog 17 #[.int .i64 (4), .int .i64 m, .agg a.cs] w fun e w' => ∃ v, e = .returned v ∧ FBy w v (bytE (4) m a L M) w' := by
  obtain ⟨q1, q2, q3, q4, q5, q6, q7⟩ := may_few h hma
  have hwi : withinB a.st 0 12 = true := by unfold mayB at hma; simp only [Bool.and_eq_true] at hma; exact hma.2.2.1
  have hwi2 : 0 ≤ a.st ∧ a.st ≤ 12 := by simpa [withinB] using hwi
  obtain ⟨nn, hnn⟩ : ∃ n, n = (lenN (4) m).toNat := ⟨_, rfl⟩
  obtain ⟨r1, r2, r3⟩ := wr_fit h hma
  have HN8 : Hid (nn ≤ 800) := Lib.hid (by rw [hnn]; exact r2)
  have HNN := Lib.hid hnn
  have HLN := Lib.hid (fun w => rlength_any (4) m w)
  rw [← r3, ← hnn] at HLN
  clear r1 r2 r3 hnn hwi
  obtain ⟨st, hste⟩ : ∃ s : Nat, a.st = (s : Int) := ⟨a.st.toNat, by omega⟩
  have hst12 : st ≤ 12 := by omega
  obtain ⟨W, hW⟩ : ∃ W, W = w.alloc (.cells a.cs TA) := ⟨_, rfl⟩
  have HBW := Lib.hid (show Below w.heap.size w W by rw [hW]; exact (Below.refl _ _).alloc (Nat.le_refl _) _)
  have HK := Lib.hid (show Blk W w.heap.size TA a.cs by rw [hW]; exact Blk.new _ _ _)
  obtain ⟨sn, hsn⟩ : ∃ n, n = a.sn := ⟨_, rfl⟩
  obtain ⟨en, hen⟩ : ∃ n, n = a.en := ⟨_, rfl⟩
  obtain ⟨sA, hsA⟩ : ∃ n, n = a.sA := ⟨_, rfl⟩
  obtain ⟨eA, heA⟩ : ∃ n, n = a.eA := ⟨_, rfl⟩
  have HRS : Hid (ERd elOS W (.slice sA sn a.sc) L) := Lib.hid (by rw [hsA, hsn]; exact h.seen.below HBW.out)
  have HRE : Hid (ERd elOE W (.slice eA en a.ec) M) := Lib.hid (by rw [heA, hen]; exact h.evs.below HBW.out)
  have HN1 : Hid (sn = L.length) := Lib.hid (hsn.trans h.sl.symm)
  have HN2 : Hid (en = M.length) := Lib.hid (hen.trans h.el.symm)
  have hq1 : sn ≤ 64 := by rw [HN1.out]; exact q6
  have hq2 : en ≤ 64 := by rw [HN2.out]; exact q7
  have e0 : a.cs[0]? = some (.int .i64 (st : Int)) := by rw [← hste]; rfl
  have e1 : a.cs[1]? = some (.int .u64 (a.sec : Int)) := rfl
  have e2 : a.cs[2]? = some (.int .i64 a.rid) := rfl
  have e3 : a.cs[3]? = some (.int .i64 a.rx) := rfl
  have e4 : a.cs[4]? = some (.int .i64 a.ry) := rfl
  have e5 : a.cs[5]? = some (.int .i64 a.lab) := rfl
  have e6 : a.cs[6]? = some (.int .i64 a.b0) := rfl
  have e7 : a.cs[7]? = some (.int .i64 a.b1) := rfl
  have e8 : a.cs[8]? = some (.int .i64 a.b2) := rfl
  have e9 : a.cs[9]? = some (.int .i64 a.b3) := rfl
  have e10 : a.cs[10]? = some (.slice sA sn a.sc) := by rw [hsA, hsn]; rfl
  have e11 : a.cs[11]? = some (.slice eA en a.ec) := by rw [heA, hen]; rfl
  have HSC := Lib.hid hs
  have HHE : Hid (headE 4 a = [UInt8.ofNat st, UInt8.ofNat 4, UInt8.ofNat (sn + en)]) := Lib.hid (by unfold headE; rw [hste, hsn, hen]; rfl)
  have HH3 : Hid ((headE 4 a).length = 3) := Lib.hid rfl
  have hst0 : st = 0 := by omega
  subst hst0
  have hz : a.sn = 0 ∧ a.en = 0 := by
    have hE : eachN (4 : Int).toNat = 0 := rfl
    rw [hE] at q5
    have := h.sl
    have := h.el
    omega
  have hz1 : sn = 0 := by rw [hsn]; exact hz.1
  have hz2 : en = 0 := by rw [hen]; exact hz.2
  have HLN0 : Hid (L = []) := Lib.hid (List.eq_nil_of_length_eq_zero (by rw [← HN1.out]; exact hz1))
  have HMN0 : Hid (M = []) := Lib.hid (List.eq_nil_of_length_eq_zero (by rw [← HN2.out]; exact hz2))
  clear hsn hen
  subst hz1
  subst hz2
  clear hz
  have HMW : Hid (midE 4 a = be 8 a.sec) := Lib.hid (by unfold midE; rw [if_neg (by simp; exact hst)]; rfl)
  have HRF : Hid (refE 4 a L M = headE 4 a ++ (midE 4 a ++ (L.flatMap seenE ++ M.flatMap evtE))) := Lib.hid rfl
  have hWs := hW.symm
  clear h hma hs hW hsA heA hste q5 q6 q7 hwi2
  clear hst
  have k0 := (HK.out.thru0 (Below.refl _ _)).cell 0; simp only [e0] at k0
  have k10 := (HK.out.thru0 (Below.refl _ _)).cell 10; simp only [e10] at k10
  have k11 := (HK.out.thru0 (Below.refl _ _)).cell 11; simp only [e11] at k11
  obtain ⟨W1, hW1⟩ : ∃ W1, W1 = W.alloc (.cells #[.int .u8 0, .int .u8 4, .int .u8 0] 5) := ⟨_, rfl⟩
  have HFa : Hid (FBy W (.slice (some ⟨W.heap.size, 0, none⟩) 3 3) (headE 4 a) W1) := Lib.hid (by rw [HHE.out, hW1]; exact head_own W 0 4 (0 + 0) _ _ _ (by first | rfl | omega) (by first | rfl | omega) (by first | rfl | omega) (by omega) (by omega) (by omega))
  have hWs1 := hW1.symm
  clear hW1 HHE
  generalize headE 4 a = R0 at *
  have y0 := (HK.out.thru0 HFa.out.bel).cell 0; simp only [e0] at y0
  have y1 := (HK.out.thru0 HFa.out.bel).cell 1; simp only [e1] at y1
  go_enter Try.func17, Try.ntmps17
  go_wp2_with fail
  refine (rput8 W _ _ R0 a.sec HSC.out HFa.out (by have := HH3.out; omega)).mono ?_
  rintro e w1 ⟨v1, rfl, ha1⟩
  have HFX := Lib.hid ha1.f
  clear k0 k10 k11 y0 y1 hWs hWs1
  have k0 := (HK.out.thru0 ha1.f.bel).cell 0; simp only [e0] at k0
  have k10 := (HK.out.thru0 ha1.f.bel).cell 10; simp only [e10] at k10
  have k11 := (HK.out.thru0 ha1.f.bel).cell 11; simp only [e11] at k11
  clear ha1
  have HRX : Hid (refE 4 a L M = R0 ++ be 8 a.sec) := Lib.hid (by rw [HRF.out, HMW.out, HLN0.out, HMN0.out]; simp)
  obtain ⟨A1, c1, hv1, hl1, hm1⟩ := HFX.out.own.slice
  generalize (R0 ++ be 8 a.sec).length = lj1 at hv1 hl1
  subst hv1
  clear hl1 hm1
  go_wp2_with fail
  refine wp_loop_rounds 1 ?_
  rw [rounds_succ]
  go_wp2_with fail
  refine wp_loop_rounds 1 ?_
  rw [rounds_succ]
  go_wp2_with fail
  have HFS := HFX
  go_loopw [7] (fun b wr => ∃ j : Nat, j ≤ nn - (R0 ++ be 8 a.sec).length ∧ Hid (FBy W b ((R0 ++ be 8 a.sec) ++ List.replicate j 0) wr)) (fun b _ => nn - lenOf b)
  case atStart => exact ⟨0, Nat.zero_le _, by simpa using HFS⟩
  case round =>
    rename World => wr
    obtain ⟨j, hj, HF⟩ := hrel
    have HLQ : Hid (((R0 ++ be 8 a.sec) ++ List.replicate j (0 : UInt8)).length = (R0 ++ be 8 a.sec).length + j) := Lib.hid (by rw [List.length_append, List.length_replicate])
    obtain ⟨A9, c9, hv9, hl9, hm9⟩ := HF.out.own.slice
    rw [HLQ.out] at hv9 hl9
    have HN8' := HN8.out
    generalize hrl : (R0 ++ be 8 a.sec).length = rl at *
    subst hv9
    have HJ := Lib.hid hj
    by_cases hlt : rl + j < nn
    · have HSU : Hid ((R0 ++ be 8 a.sec) ++ List.replicate (j + 1) (0 : UInt8) = (R0 ++ be 8 a.sec) ++ List.replicate j 0 ++ [0]) := Lib.hid (by rw [List.replicate_succ', ← List.append_assoc])
      have hlt2 : ((rl + j : Nat) : Int) < (nn : Int) := by omega
      go_wp2_with fail
      refine (HLN.out _).mono ?_
      rintro e wl ⟨rfl, hbl⟩
      have HG := Lib.hid (HF.out.below hbl)
      clear hbl
      have HOW := Lib.hid (HG.out.own.below ((Below.refl _ _).alloc (Nat.le_refl _) (.cells #[.int .u8 0] 5)))
      have HRM := Lib.hid (show Reads (wl.alloc (.cells #[.int .u8 0] 5)) (wl.alloc (.cells #[.int .u8 0] 5)).heap.size 1 (some ⟨wl.heap.size, 0, none⟩) 1 (elB.encs [0]) from one_new2 wl 0 5)
      generalize hQ : (R0 ++ be 8 a.sec) ++ List.replicate j (0 : UInt8) = Q at *
      go_wp2_with ((at_builtin; go_loud (refine wpList_eappr2 (e2 := 5) elB_ok rfl _ _ 24 24 rfl (by kernel_rfl) (by kernel_rfl) _ Q [0] (some ⟨wl.heap.size, 0, none⟩) 1 rfl rfl HOW.out HRM.out (by have h1 := HLQ.out; simp only [maxLen, List.length_cons, List.length_nil]; omega) (by have h2 := HLQ.out; have h1 : elB.by_ = 1 := rfl; rw [h1, List.length_cons, List.length_nil]; omega) ?_; intro v' w9 hA; have HF9 := Lib.hid (HG.out.app ((Below.refl _ _).alloc (Nat.le_refl _) _) hA); have HLV := Lib.hid hA.1.slice; clear hA)))
      go_roundw
      case rel => exact ⟨j + 1, by omega, Lib.hid (by rw [HSU.out]; exact HF9.out)⟩
      case measure =>
        obtain ⟨A8, c8, hv8, _, _⟩ := HLV.out
        have h1 := HLQ.out
        rw [hv8]
        simp only [lenOf, List.length_append, List.length_cons, List.length_nil]
        omega
    · have HJ2 : Hid (j = nn - rl) := Lib.hid (by have := HJ.out; omega)
      have HBY : Hid ((R0 ++ be 8 a.sec) ++ List.replicate j (0 : UInt8) = bytE (4) m a L M) := Lib.hid (by unfold bytE; rw [HRX.out, ← HNN.out, HJ2.out, hrl])
      have hge : ¬ (((rl + j : Nat) : Int) < (nn : Int)) := by omega
      go_wp2_with fail
      refine (HLN.out _).mono ?_
      rintro e wl ⟨rfl, hbl⟩
      have HG := Lib.hid (HF.out.below hbl)
      rw [HBY.out] at HG
      clear hbl
      go_wp2_with fail
      go_ret
      exact ⟨_, rfl, HG.out.up HBW.out⟩
set_option maxRecDepth 100000 in
set_option maxHeartbeats 8000000 in
theorem rbytes_att (w : World) (m : Int) (a : An) (L : List Snt) (M : List Evt) (h : AnR w a L M) (hma : mayB (5) m a L M = true) (hs : a.sec ≤ 18446744073709551615) (hst : a.st = 0) :
    Calls Try.prog 17 #[.int .i64 (5), .int .i64 m, .agg a.cs] w fun e w' => ∃ v, e = .returned v ∧ FBy w v (bytE (5) m a L M) w' := by
  obtain ⟨q1, q2, q3, q4, q5, q6, q7⟩ := may_few h hma
  have hwi : withinB a.st 0 12 = true := by unfold mayB at hma; simp only [Bool.and_eq_true] at hma; exact hma.2.2.1
  have hwi2 : 0 ≤ a.st ∧ a.st ≤ 12 := by simpa [withinB] using hwi
  obtain ⟨nn, hnn⟩ : ∃ n, n = (lenN (5) m).toNat := ⟨_, rfl⟩
  obtain ⟨r1, r2, r3⟩ := wr_fit h hma
  have HN8 : Hid (nn ≤ 800) := Lib.hid (by rw [hnn]; exact r2)
  have HNN := Lib.hid hnn
  have HLN := Lib.hid (fun w => rlength_any (5) m w)
  rw [← r3, ← hnn] at HLN
  clear r1 r2 r3 hnn hwi
  obtain ⟨st, hste⟩ : ∃ s : Nat, a.st = (s : Int) := ⟨a.st.toNat, by omega⟩
  have hst12 : st ≤ 12 := by omega
  obtain ⟨W, hW⟩ : ∃ W, W = w.alloc (.cells a.cs TA) := ⟨_, rfl⟩
  have HBW := Lib.hid (show Below w.heap.size w W by rw [hW]; exact (Below.refl _ _).alloc (Nat.le_refl _) _)
  have HK := Lib.hid (show Blk W w.heap.size TA a.cs by rw [hW]; exact Blk.new _ _ _)
  obtain ⟨sn, hsn⟩ : ∃ n, n = a.sn := ⟨_, rfl⟩
  obtain ⟨en, hen⟩ : ∃ n, n = a.en := ⟨_, rfl⟩
  obtain ⟨sA, hsA⟩ : ∃ n, n = a.sA := ⟨_, rfl⟩
  obtain ⟨eA, heA⟩ : ∃ n, n = a.eA := ⟨_, rfl⟩
  have HRS : Hid (ERd elOS W (.slice sA sn a.sc) L) := Lib.hid (by rw [hsA, hsn]; exact h.seen.below HBW.out)
  have HRE : Hid (ERd elOE W (.slice eA en a.ec) M) := Lib.hid (by rw [heA, hen]; exact h.evs.below HBW.out)
  have HN1 : Hid (sn = L.length) := Lib.hid (hsn.trans h.sl.symm)
  have HN2 : Hid (en = M.length) := Lib.hid (hen.trans h.el.symm)
  have hq1 : sn ≤ 64 := by rw [HN1.out]; exact q6
  have hq2 : en ≤ 64 := by rw [HN2.out]; exact q7
  have e0 : a.cs[0]? = some (.int .i64 (st : Int)) := by rw [← hste]; rfl
  have e1 : a.cs[1]? = some (.int .u64 (a.sec : Int)) := rfl
  have e2 : a.cs[2]? = some (.int .i64 a.rid) := rfl
  have e3 : a.cs[3]? = some (.int .i64 a.rx) := rfl
  have e4 : a.cs[4]? = some (.int .i64 a.ry) := rfl
  have e5 : a.cs[5]? = some (.int .i64 a.lab) := rfl
  have e6 : a.cs[6]? = some (.int .i64 a.b0) := rfl
  have e7 : a.cs[7]? = some (.int .i64 a.b1) := rfl
  have e8 : a.cs[8]? = some (.int .i64 a.b2) := rfl
  have e9 : a.cs[9]? = some (.int .i64 a.b3) := rfl
  have e10 : a.cs[10]? = some (.slice sA sn a.sc) := by rw [hsA, hsn]; rfl
  have e11 : a.cs[11]? = some (.slice eA en a.ec) := by rw [heA, hen]; rfl
  have HSC := Lib.hid hs
  have HHE : Hid (headE 5 a = [UInt8.ofNat st, UInt8.ofNat 5, UInt8.ofNat (sn + en)]) := Lib.hid (by unfold headE; rw [hste, hsn, hen]; rfl)
  have HH3 : Hid ((headE 5 a).length = 3) := Lib.hid rfl
  have hst0 : st = 0 := by omega
  subst hst0
  have hz : a.sn = 0 ∧ a.en = 0 := by
    have hE : eachN (5 : Int).toNat = 0 := rfl
    rw [hE] at q5
    have := h.sl
    have := h.el
    omega
  have hz1 : sn = 0 := by rw [hsn]; exact hz.1
  have hz2 : en = 0 := by rw [hen]; exact hz.2
  have HLN0 : Hid (L = []) := Lib.hid (List.eq_nil_of_length_eq_zero (by rw [← HN1.out]; exact hz1))
  have HMN0 : Hid (M = []) := Lib.hid (List.eq_nil_of_length_eq_zero (by rw [← HN2.out]; exact hz2))
  clear hsn hen
  subst hz1
  subst hz2
  clear hz
  have HMW : Hid (midE 5 a = be 8 a.sec) := Lib.hid (by unfold midE; rw [if_neg (by simp; exact hst)]; rfl)
  have HRF : Hid (refE 5 a L M = headE 5 a ++ (midE 5 a ++ (L.flatMap seenE ++ M.flatMap evtE))) := Lib.hid rfl
  have hWs := hW.symm
  clear h hma hs hW hsA heA hste q5 q6 q7 hwi2
  clear hst
  have k0 := (HK.out.thru0 (Below.refl _ _)).cell 0; simp only [e0] at k0
  have k10 := (HK.out.thru0 (Below.refl _ _)).cell 10; simp only [e10] at k10
  have k11 := (HK.out.thru0 (Below.refl _ _)).cell 11; simp only [e11] at k11
  obtain ⟨W1, hW1⟩ : ∃ W1, W1 = W.alloc (.cells #[.int .u8 0, .int .u8 5, .int .u8 0] 5) := ⟨_, rfl⟩
  have HFa : Hid (FBy W (.slice (some ⟨W.heap.size, 0, none⟩) 3 3) (headE 5 a) W1) := Lib.hid (by rw [HHE.out, hW1]; exact head_own W 0 5 (0 + 0) _ _ _ (by first | rfl | omega) (by first | rfl | omega) (by first | rfl | omega) (by omega) (by omega) (by omega))
  have hWs1 := hW1.symm
  clear hW1 HHE
  generalize headE 5 a = R0 at *
  have y0 := (HK.out.thru0 HFa.out.bel).cell 0; simp only [e0] at y0
  have y1 := (HK.out.thru0 HFa.out.bel).cell 1; simp only [e1] at y1
  go_enter Try.func17, Try.ntmps17
  go_wp2_with fail
  refine (rput8 W _ _ R0 a.sec HSC.out HFa.out (by have := HH3.out; omega)).mono ?_
  rintro e w1 ⟨v1, rfl, ha1⟩
  have HFX := Lib.hid ha1.f
  clear k0 k10 k11 y0 y1 hWs hWs1
  have k0 := (HK.out.thru0 ha1.f.bel).cell 0; simp only [e0] at k0
  have k10 := (HK.out.thru0 ha1.f.bel).cell 10; simp only [e10] at k10
  have k11 := (HK.out.thru0 ha1.f.bel).cell 11; simp only [e11] at k11
  clear ha1
  have HRX : Hid (refE 5 a L M = R0 ++ be 8 a.sec) := Lib.hid (by rw [HRF.out, HMW.out, HLN0.out, HMN0.out]; simp)
  obtain ⟨A1, c1, hv1, hl1, hm1⟩ := HFX.out.own.slice
  generalize (R0 ++ be 8 a.sec).length = lj1 at hv1 hl1
  subst hv1
  clear hl1 hm1
  go_wp2_with fail
  refine wp_loop_rounds 1 ?_
  rw [rounds_succ]
  go_wp2_with fail
  refine wp_loop_rounds 1 ?_
  rw [rounds_succ]
  go_wp2_with fail
  have HFS := HFX
  go_loopw [7] (fun b wr => ∃ j : Nat, j ≤ nn - (R0 ++ be 8 a.sec).length ∧ Hid (FBy W b ((R0 ++ be 8 a.sec) ++ List.replicate j 0) wr)) (fun b _ => nn - lenOf b)
  case atStart => exact ⟨0, Nat.zero_le _, by simpa using HFS⟩
  case round =>
    rename World => wr
    obtain ⟨j, hj, HF⟩ := hrel
    have HLQ : Hid (((R0 ++ be 8 a.sec) ++ List.replicate j (0 : UInt8)).length = (R0 ++ be 8 a.sec).length + j) := Lib.hid (by rw [List.length_append, List.length_replicate])
    obtain ⟨A9, c9, hv9, hl9, hm9⟩ := HF.out.own.slice
    rw [HLQ.out] at hv9 hl9
    have HN8' := HN8.out
    generalize hrl : (R0 ++ be 8 a.sec).length = rl at *
    subst hv9
    have HJ := Lib.hid hj
    by_cases hlt : rl + j < nn
    · have HSU : Hid ((R0 ++ be 8 a.sec) ++ List.replicate (j + 1) (0 : UInt8) = (R0 ++ be 8 a.sec) ++ List.replicate j 0 ++ [0]) := Lib.hid (by rw [List.replicate_succ', ← List.append_assoc])
      have hlt2 : ((rl + j : Nat) : Int) < (nn : Int) := by omega
      go_wp2_with fail
      refine (HLN.out _).mono ?_
      rintro e wl ⟨rfl, hbl⟩
      have HG := Lib.hid (HF.out.below hbl)
      clear hbl
      have HOW := Lib.hid (HG.out.own.below ((Below.refl _ _).alloc (Nat.le_refl _) (.cells #[.int .u8 0] 5)))
      have HRM := Lib.hid (show Reads (wl.alloc (.cells #[.int .u8 0] 5)) (wl.alloc (.cells #[.int .u8 0] 5)).heap.size 1 (some ⟨wl.heap.size, 0, none⟩) 1 (elB.encs [0]) from one_new2 wl 0 5)
      generalize hQ : (R0 ++ be 8 a.sec) ++ List.replicate j (0 : UInt8) = Q at *
      go_wp2_with ((at_builtin; go_loud (refine wpList_eappr2 (e2 := 5) elB_ok rfl _ _ 24 24 rfl (by kernel_rfl) (by kernel_rfl) _ Q [0] (some ⟨wl.heap.size, 0, none⟩) 1 rfl rfl HOW.out HRM.out (by have h1 := HLQ.out; simp only [maxLen, List.length_cons, List.length_nil]; omega) (by have h2 := HLQ.out; have h1 : elB.by_ = 1 := rfl; rw [h1, List.length_cons, List.length_nil]; omega) ?_; intro v' w9 hA; have HF9 := Lib.hid (HG.out.app ((Below.refl _ _).alloc (Nat.le_refl _) _) hA); have HLV := Lib.hid hA.1.slice; clear hA)))
      go_roundw
      case rel => exact ⟨j + 1, by omega, Lib.hid (by rw [HSU.out]; exact HF9.out)⟩
      case measure =>
        obtain ⟨A8, c8, hv8, _, _⟩ := HLV.out
        have h1 := HLQ.out
        rw [hv8]
        simp only [lenOf, List.length_append, List.length_cons, List.length_nil]
        omega
    · have HJ2 : Hid (j = nn - rl) := Lib.hid (by have := HJ.out; omega)
      have HBY : Hid ((R0 ++ be 8 a.sec) ++ List.replicate j (0 : UInt8) = bytE (5) m a L M) := Lib.hid (by unfold bytE; rw [HRX.out, ← HNN.out, HJ2.out, hrl])
      have hge : ¬ (((rl + j : Nat) : Int) < (nn : Int)) := by omega
      go_wp2_with fail
      refine (HLN.out _).mono ?_
      rintro e wl ⟨rfl, hbl⟩
      have HG := Lib.hid (HF.out.below hbl)
      rw [HBY.out] at HG
      clear hbl
      go_wp2_with fail
      go_ret
      exact ⟨_, rfl, HG.out.up HBW.out⟩
set_option maxRecDepth 100000 in
set_option maxHeartbeats 8000000 in
theorem rbytes_pub (w : World) (m : Int) (a : An) (L : List Snt) (M : List Evt) (h : AnR w a L M) (hma : mayB (10) m a L M = true) (hs : a.sec ≤ 18446744073709551615) (hst : a.st = 0) :
    Calls Try.prog 17 #[.int .i64 (10), .int .i64 m, .agg a.cs] w fun e w' => ∃ v, e = .returned v ∧ FBy w v (bytE (10) m a L M) w' := by
  obtain ⟨q1, q2, q3, q4, q5, q6, q7⟩ := may_few h hma
  have hwi : withinB a.st 0 12 = true := by unfold mayB at hma; simp only [Bool.and_eq_true] at hma; exact hma.2.2.1
  have hwi2 : 0 ≤ a.st ∧ a.st ≤ 12 := by simpa [withinB] using hwi
  obtain ⟨nn, hnn⟩ : ∃ n, n = (lenN (10) m).toNat := ⟨_, rfl⟩
  obtain ⟨r1, r2, r3⟩ := wr_fit h hma
  have HN8 : Hid (nn ≤ 800) := Lib.hid (by rw [hnn]; exact r2)
  have HNN := Lib.hid hnn
  have HLN := Lib.hid (fun w => rlength_any (10) m w)
  rw [← r3, ← hnn] at HLN
  clear r1 r2 r3 hnn hwi
  obtain ⟨st, hste⟩ : ∃ s : Nat, a.st = (s : Int) := ⟨a.st.toNat, by omega⟩
  have hst12 : st ≤ 12 := by omega
  obtain ⟨W, hW⟩ : ∃ W, W = w.alloc (.cells a.cs TA) := ⟨_, rfl⟩
  have HBW := Lib.hid (show Below w.heap.size w W by rw [hW]; exact (Below.refl _ _).alloc (Nat.le_refl _) _)
  have HK := Lib.hid (show Blk W w.heap.size TA a.cs by rw [hW]; exact Blk.new _ _ _)
  obtain ⟨sn, hsn⟩ : ∃ n, n = a.sn := ⟨_, rfl⟩
  obtain ⟨en, hen⟩ : ∃ n, n = a.en := ⟨_, rfl⟩
  obtain ⟨sA, hsA⟩ : ∃ n, n = a.sA := ⟨_, rfl⟩
  obtain ⟨eA, heA⟩ : ∃ n, n = a.eA := ⟨_, rfl⟩
  have HRS : Hid (ERd elOS W (.slice sA sn a.sc) L) := Lib.hid (by rw [hsA, hsn]; exact h.seen.below HBW.out)
  have HRE : Hid (ERd elOE W (.slice eA en a.ec) M) := Lib.hid (by rw [heA, hen]; exact h.evs.below HBW.out)
  have HN1 : Hid (sn = L.length) := Lib.hid (hsn.trans h.sl.symm)
  have HN2 : Hid (en = M.length) := Lib.hid (hen.trans h.el.symm)
  have hq1 : sn ≤ 64 := by rw [HN1.out]; exact q6
  have hq2 : en ≤ 64 := by rw [HN2.out]; exact q7
  have e0 : a.cs[0]? = some (.int .i64 (st : Int)) := by rw [← hste]; rfl
  have e1 : a.cs[1]? = some (.int .u64 (a.sec : Int)) := rfl
  have e2 : a.cs[2]? = some (.int .i64 a.rid) := rfl
  have e3 : a.cs[3]? = some (.int .i64 a.rx) := rfl
  have e4 : a.cs[4]? = some (.int .i64 a.ry) := rfl
  have e5 : a.cs[5]? = some (.int .i64 a.lab) := rfl
  have e6 : a.cs[6]? = some (.int .i64 a.b0) := rfl
  have e7 : a.cs[7]? = some (.int .i64 a.b1) := rfl
  have e8 : a.cs[8]? = some (.int .i64 a.b2) := rfl
  have e9 : a.cs[9]? = some (.int .i64 a.b3) := rfl
  have e10 : a.cs[10]? = some (.slice sA sn a.sc) := by rw [hsA, hsn]; rfl
  have e11 : a.cs[11]? = some (.slice eA en a.ec) := by rw [heA, hen]; rfl
  have HSC := Lib.hid hs
  have HHE : Hid (headE 10 a = [UInt8.ofNat st, UInt8.ofNat 10, UInt8.ofNat (sn + en)]) := Lib.hid (by unfold headE; rw [hste, hsn, hen]; rfl)
  have HH3 : Hid ((headE 10 a).length = 3) := Lib.hid rfl
  have hst0 : st = 0 := by omega
  subst hst0
  have hz : a.sn = 0 ∧ a.en = 0 := by
    have hE : eachN (10 : Int).toNat = 0 := rfl
    rw [hE] at q5
    have := h.sl
    have := h.el
    omega
  have hz1 : sn = 0 := by rw [hsn]; exact hz.1
  have hz2 : en = 0 := by rw [hen]; exact hz.2
  have HLN0 : Hid (L = []) := Lib.hid (List.eq_nil_of_length_eq_zero (by rw [← HN1.out]; exact hz1))
  have HMN0 : Hid (M = []) := Lib.hid (List.eq_nil_of_length_eq_zero (by rw [← HN2.out]; exact hz2))
  clear hsn hen
  subst hz1
  subst hz2
  clear hz
  have HMW : Hid (midE 10 a = rectE a.b0 a.b1 a.b2 a.b3) := Lib.hid (by unfold midE; rw [if_neg (by simp; exact hst)]; rfl)
  have HRF : Hid (refE 10 a L M = headE 10 a ++ (midE 10 a ++ (L.flatMap seenE ++ M.flatMap evtE))) := Lib.hid rfl
  have hWs := hW.symm
  clear h hma hs hW hsA heA hste q5 q6 q7 hwi2
  clear hst
  have k0 := (HK.out.thru0 (Below.refl _ _)).cell 0; simp only [e0] at k0
  have k10 := (HK.out.thru0 (Below.refl _ _)).cell 10; simp only [e10] at k10
  have k11 := (HK.out.thru0 (Below.refl _ _)).cell 11; simp only [e11] at k11
  obtain ⟨W1, hW1⟩ : ∃ W1, W1 = W.alloc (.cells #[.int .u8 0, .int .u8 10, .int .u8 0] 5) := ⟨_, rfl⟩
  have HFa : Hid (FBy W (.slice (some ⟨W.heap.size, 0, none⟩) 3 3) (headE 10 a) W1) := Lib.hid (by rw [HHE.out, hW1]; exact head_own W 0 10 (0 + 0) _ _ _ (by first | rfl | omega) (by first | rfl | omega) (by first | rfl | omega) (by omega) (by omega) (by omega))
  have hWs1 := hW1.symm
  clear hW1 HHE
  generalize headE 10 a = R0 at *
  have y0 := (HK.out.thru0 HFa.out.bel).cell 0; simp only [e0] at y0
  have y6 := (HK.out.thru0 HFa.out.bel).cell 6; simp only [e6] at y6
  have y7 := (HK.out.thru0 HFa.out.bel).cell 7; simp only [e7] at y7
  have y8 := (HK.out.thru0 HFa.out.bel).cell 8; simp only [e8] at y8
  have y9 := (HK.out.thru0 HFa.out.bel).cell 9; simp only [e9] at y9
  go_enter Try.func17, Try.ntmps17
  go_wp2_with fail
  refine (rrect_any W _ _ R0 a.b0 a.b1 a.b2 a.b3 HFa.out (by have := HH3.out; omega)).mono ?_
  rintro e w1 ⟨v1, rfl, ha1⟩
  have HFX := Lib.hid ha1.f
  clear k0 k10 k11 y0 y6 y7 y8 y9 hWs hWs1
  have k0 := (HK.out.thru0 ha1.f.bel).cell 0; simp only [e0] at k0
  have k10 := (HK.out.thru0 ha1.f.bel).cell 10; simp only [e10] at k10
  have k11 := (HK.out.thru0 ha1.f.bel).cell 11; simp only [e11] at k11
  clear ha1
  have HRX : Hid (refE 10 a L M = R0 ++ rectE a.b0 a.b1 a.b2 a.b3) := Lib.hid (by rw [HRF.out, HMW.out, HLN0.out, HMN0.out]; simp)
  obtain ⟨A1, c1, hv1, hl1, hm1⟩ := HFX.out.own.slice
  generalize (R0 ++ rectE a.b0 a.b1 a.b2 a.b3).length = lj1 at hv1 hl1
  subst hv1
  clear hl1 hm1
  go_wp2_with fail
  refine wp_loop_rounds 1 ?_
  rw [rounds_succ]
  go_wp2_with fail
  refine wp_loop_rounds 1 ?_
  rw [rounds_succ]
  go_wp2_with fail
  have HFS := HFX
  go_loopw [7] (fun b wr => ∃ j : Nat, j ≤ nn - (R0 ++ rectE a.b0 a.b1 a.b2 a.b3).length ∧ Hid (FBy W b ((R0 ++ rectE a.b0 a.b1 a.b2 a.b3) ++ List.replicate j 0) wr)) (fun b _ => nn - lenOf b)
  case atStart => exact ⟨0, Nat.zero_le _, by simpa using HFS⟩
  case round =>
    rename World => wr
    obtain ⟨j, hj, HF⟩ := hrel
    have HLQ : Hid (((R0 ++ rectE a.b0 a.b1 a.b2 a.b3) ++ List.replicate j (0 : UInt8)).length = (R0 ++ rectE a.b0 a.b1 a.b2 a.b3).length + j) := Lib.hid (by rw [List.length_append, List.length_replicate])
    obtain ⟨A9, c9, hv9, hl9, hm9⟩ := HF.out.own.slice
    rw [HLQ.out] at hv9 hl9
    have HN8' := HN8.out
    generalize hrl : (R0 ++ rectE a.b0 a.b1 a.b2 a.b3).length = rl at *
    subst hv9
    have HJ := Lib.hid hj
    by_cases hlt : rl + j < nn
    · have HSU : Hid ((R0 ++ rectE a.b0 a.b1 a.b2 a.b3) ++ List.replicate (j + 1) (0 : UInt8) = (R0 ++ rectE a.b0 a.b1 a.b2 a.b3) ++ List.replicate j 0 ++ [0]) := Lib.hid (by rw [List.replicate_succ', ← List.append_assoc])
      have hlt2 : ((rl + j : Nat) : Int) < (nn : Int) := by omega
      go_wp2_with fail
      refine (HLN.out _).mono ?_
      rintro e wl ⟨rfl, hbl⟩
      have HG := Lib.hid (HF.out.below hbl)
      clear hbl
      have HOW := Lib.hid (HG.out.own.below ((Below.refl _ _).alloc (Nat.le_refl _) (.cells #[.int .u8 0] 5)))
      have HRM := Lib.hid (show Reads (wl.alloc (.cells #[.int .u8 0] 5)) (wl.alloc (.cells #[.int .u8 0] 5)).heap.size 1 (some ⟨wl.heap.size, 0, none⟩) 1 (elB.encs [0]) from one_new2 wl 0 5)
      generalize hQ : (R0 ++ rectE a.b0 a.b1 a.b2 a.b3) ++ List.replicate j (0 : UInt8) = Q at *
      go_wp2_with ((at_builtin; go_loud (refine wpList_eappr2 (e2 := 5) elB_ok rfl _ _ 24 24 rfl (by kernel_rfl) (by kernel_rfl) _ Q [0] (some ⟨wl.heap.size, 0, none⟩) 1 rfl rfl HOW.out HRM.out (by have h1 := HLQ.out; simp only [maxLen, List.length_cons, List.length_nil]; omega) (by have h2 := HLQ.out; have h1 : elB.by_ = 1 := rfl; rw [h1, List.length_cons, List.length_nil]; omega) ?_; intro v' w9 hA; have HF9 := Lib.hid (HG.out.app ((Below.refl _ _).alloc (Nat.le_refl _) _) hA); have HLV := Lib.hid hA.1.slice; clear hA)))
      go_roundw
      case rel => exact ⟨j + 1, by omega, Lib.hid (by rw [HSU.out]; exact HF9.out)⟩
      case measure =>
        obtain ⟨A8, c8, hv8, _, _⟩ := HLV.out
        have h1 := HLQ.out
        rw [hv8]
        simp only [lenOf, List.length_append, List.length_cons, List.length_nil]
        omega
    · have HJ2 : Hid (j = nn - rl) := Lib.hid (by have := HJ.out; omega)
      have HBY : Hid ((R0 ++ rectE a.b0 a.b1 a.b2 a.b3) ++ List.replicate j (0 : UInt8) = bytE (10) m a L M) := Lib.hid (by unfold bytE; rw [HRX.out, ← HNN.out, HJ2.out, hrl])
      have hge : ¬ (((rl + j : Nat) : Int) < (nn : Int)) := by omega
      go_wp2_with fail
      refine (HLN.out _).mono ?_
      rintro e wl ⟨rfl, hbl⟩
      have HG := Lib.hid (HF.out.below hbl)
      rw [HBY.out] at HG
      clear hbl
      go_wp2_with fail
      go_ret
      exact ⟨_, rfl, HG.out.up HBW.out⟩
set_option maxRecDepth 100000 in
set_option maxHeartbeats 8000000 in
theorem rbytes_where (w : World) (m : Int) (a : An) (L : List Snt) (M : List Evt) (h : AnR w a L M) (hma : mayB (12) m a L M = true) (hs : a.sec ≤ 18446744073709551615) (hst : a.st = 0) :
    Calls Try.prog 17 #[.int .i64 (12), .int .i64 m, .agg a.cs] w fun e w' => ∃ v, e = .returned v ∧ FBy w v (bytE (12) m a L M) w' := by
  obtain ⟨q1, q2, q3, q4, q5, q6, q7⟩ := may_few h hma
  have hwi : withinB a.st 0 12 = true := by unfold mayB at hma; simp only [Bool.and_eq_true] at hma; exact hma.2.2.1
  have hwi2 : 0 ≤ a.st ∧ a.st ≤ 12 := by simpa [withinB] using hwi
  obtain ⟨nn, hnn⟩ : ∃ n, n = (lenN (12) m).toNat := ⟨_, rfl⟩
  obtain ⟨r1, r2, r3⟩ := wr_fit h hma
  have HN8 : Hid (nn ≤ 800) := Lib.hid (by rw [hnn]; exact r2)
  have HNN := Lib.hid hnn
  have HLN := Lib.hid (fun w => rlength_any (12) m w)
  rw [← r3, ← hnn] at HLN
  clear r1 r2 r3 hnn hwi
  obtain ⟨st, hste⟩ : ∃ s : Nat, a.st = (s : Int) := ⟨a.st.toNat, by omega⟩
  have hst12 : st ≤ 12 := by omega
  obtain ⟨W, hW⟩ : ∃ W, W = w.alloc (.cells a.cs TA) := ⟨_, rfl⟩
  have HBW := Lib.hid (show Below w.heap.size w W by rw [hW]; exact (Below.refl _ _).alloc (Nat.le_refl _) _)
  have HK := Lib.hid (show Blk W w.heap.size TA a.cs by rw [hW]; exact Blk.new _ _ _)
  obtain ⟨sn, hsn⟩ : ∃ n, n = a.sn := ⟨_, rfl⟩
  obtain ⟨en, hen⟩ : ∃ n, n = a.en := ⟨_, rfl⟩
  obtain ⟨sA, hsA⟩ : ∃ n, n = a.sA := ⟨_, rfl⟩
  obtain ⟨eA, heA⟩ : ∃ n, n = a.eA := ⟨_, rfl⟩
  have HRS : Hid (ERd elOS W (.slice sA sn a.sc) L) := Lib.hid (by rw [hsA, hsn]; exact h.seen.below HBW.out)
  have HRE : Hid (ERd elOE W (.slice eA en a.ec) M) := Lib.hid (by rw [heA, hen]; exact h.evs.below HBW.out)
  have HN1 : Hid (sn = L.length) := Lib.hid (hsn.trans h.sl.symm)
  have HN2 : Hid (en = M.length) := Lib.hid (hen.trans h.el.symm)
  have hq1 : sn ≤ 64 := by rw [HN1.out]; exact q6
  have hq2 : en ≤ 64 := by rw [HN2.out]; exact q7
  have e0 : a.cs[0]? = some (.int .i64 (st : Int)) := by rw [← hste]; rfl
  have e1 : a.cs[1]? = some (.int .u64 (a.sec : Int)) := rfl
  have e2 : a.cs[2]? = some (.int .i64 a.rid) := rfl
  have e3 : a.cs[3]? = some (.int .i64 a.rx) := rfl
  have e4 : a.cs[4]? = some (.int .i64 a.ry) := rfl
  have e5 : a.cs[5]? = some (.int .i64 a.lab) := rfl
  have e6 : a.cs[6]? = some (.int .i64 a.b0) := rfl
  have e7 : a.cs[7]? = some (.int .i64 a.b1) := rfl
  have e8 : a.cs[8]? = some (.int .i64 a.b2) := rfl
  have e9 : a.cs[9]? = some (.int .i64 a.b3) := rfl
  have e10 : a.cs[10]? = some (.slice sA sn a.sc) := by rw [hsA, hsn]; rfl
  have e11 : a.cs[11]? = some (.slice eA en a.ec) := by rw [heA, hen]; rfl
  have HSC := Lib.hid hs
  have HHE : Hid (headE 12 a = [UInt8.ofNat st, UInt8.ofNat 12, UInt8.ofNat (sn + en)]) := Lib.hid (by unfold headE; rw [hste, hsn, hen]; rfl)
  have HH3 : Hid ((headE 12 a).length = 3) := Lib.hid rfl
  have hst0 : st = 0 := by omega
  subst hst0
  have hz : a.sn = 0 ∧ a.en = 0 := by
    have hE : eachN (12 : Int).toNat = 0 := rfl
    rw [hE] at q5
    have := h.sl
    have := h.el
    omega
  have hz1 : sn = 0 := by rw [hsn]; exact hz.1
  have hz2 : en = 0 := by rw [hen]; exact hz.2
  have HLN0 : Hid (L = []) := Lib.hid (List.eq_nil_of_length_eq_zero (by rw [← HN1.out]; exact hz1))
  have HMN0 : Hid (M = []) := Lib.hid (List.eq_nil_of_length_eq_zero (by rw [← HN2.out]; exact hz2))
  clear hsn hen
  subst hz1
  subst hz2
  clear hz
  have HMW : Hid (midE 12 a = be 2 (toU a.rx) ++ (be 2 (toU a.ry) ++ be 1 (toU a.lab))) := Lib.hid (by unfold midE; rw [if_neg (by simp; exact hst)]; rfl)
  have HRF : Hid (refE 12 a L M = headE 12 a ++ (midE 12 a ++ (L.flatMap seenE ++ M.flatMap evtE))) := Lib.hid rfl
  have hWs := hW.symm
  clear h hma hs hW hsA heA hste q5 q6 q7 hwi2
  clear hst
  have k0 := (HK.out.thru0 (Below.refl _ _)).cell 0; simp only [e0] at k0
  have k10 := (HK.out.thru0 (Below.refl _ _)).cell 10; simp only [e10] at k10
  have k11 := (HK.out.thru0 (Below.refl _ _)).cell 11; simp only [e11] at k11
  obtain ⟨W1, hW1⟩ : ∃ W1, W1 = W.alloc (.cells #[.int .u8 0, .int .u8 12, .int .u8 0] 5) := ⟨_, rfl⟩
  have HFa : Hid (FBy W (.slice (some ⟨W.heap.size, 0, none⟩) 3 3) (headE 12 a) W1) := Lib.hid (by rw [HHE.out, hW1]; exact head_own W 0 12 (0 + 0) _ _ _ (by first | rfl | omega) (by first | rfl | omega) (by first | rfl | omega) (by omega) (by omega) (by omega))
  have hWs1 := hW1.symm
  clear hW1 HHE
  generalize headE 12 a = R0 at *
  have wu1 := wrapU a.rx
  have wu2 := wrapU a.ry
  have wu3 := wrapU a.lab
  have HU1 := Lib.hid (toU_le a.rx)
  have HU2 := Lib.hid (toU_le a.ry)
  have HU3 := Lib.hid (toU_le a.lab)
  generalize toU a.rx = n1 at *
  generalize toU a.ry = n2 at *
  generalize toU a.lab = n3 at *
  have y0 := (HK.out.thru0 HFa.out.bel).cell 0; simp only [e0] at y0
  have y3 := (HK.out.thru0 HFa.out.bel).cell 3; simp only [e3] at y3
  have y4 := (HK.out.thru0 HFa.out.bel).cell 4; simp only [e4] at y4
  have y5 := (HK.out.thru0 HFa.out.bel).cell 5; simp only [e5] at y5
  have HAq := Lib.hid (Ap.refl HFa.out)
  have HLEN : Hid (R0.length ≤ 3) := Lib.hid (by have := HH3.out; omega)
  have HS := Lib.hid (fun w' R' v' (h : Ap W W1 (.slice (some ⟨W.heap.size, 0, none⟩) 3 3) R' v' w') => And.intro (show w'.cell? ⟨w.heap.size, 3, none⟩ = some (.int .i64 a.rx) by have k3 := (HK.out.thru0 h.f.bel).cell 3; simp only [e3] at k3; exact k3) (And.intro (show w'.cell? ⟨w.heap.size, 4, none⟩ = some (.int .i64 a.ry) by have k3 := (HK.out.thru0 h.f.bel).cell 4; simp only [e4] at k3; exact k3) (And.intro (show w'.cell? ⟨w.heap.size, 5, none⟩ = some (.int .i64 a.lab) by have k3 := (HK.out.thru0 h.f.bel).cell 5; simp only [e5] at k3; exact k3) h.f.bel)))
  go_enter Try.func17, Try.ntmps17
  go_upto_region 5 with fail
  go_region_held3 (fun w' => w'.cell? ⟨w.heap.size, 3, none⟩ = some (.int .i64 a.rx) ∧ w'.cell? ⟨w.heap.size, 4, none⟩ = some (.int .i64 a.ry) ∧ w'.cell? ⟨w.heap.size, 5, none⟩ = some (.int .i64 a.lab) ∧ Below W.heap.size W w') (first | (exact HS.out _ _ _ (by first | assumption | (with_reducible exact HAq.out) | exact HAq.out.below (by first | exact Below.refl _ _ | (go_grown; done) | exact below_drawn (Below.refl _ _) _)))) (first | (go_at_call 36; refine (rput1 W _ _ (R0 ++ be 2 n1 ++ be 2 n2) n3 HU3.out (HAS2.out.f) (by have h1 := HLEN.out; (try simp only [List.length_append, be_length]); omega)).mono ?_; rintro e w93 ⟨v93, rfl, ha93⟩; have haS3 := HAS2.out.step ha93; have HAS3 := Lib.hid haS3) | (go_at_call 36; refine (rput2 W _ _ (R0 ++ be 2 n1) n2 HU2.out (HAS1.out.f) (by have h1 := HLEN.out; (try simp only [List.length_append, be_length]); omega)).mono ?_; rintro e w92 ⟨v92, rfl, ha92⟩; have haS2 := HAS1.out.step ha92; have HAS2 := Lib.hid haS2) | (go_at_call 36; refine (rput2 W _ _ (R0) n1 HU1.out (HAq.out.f.below (by first | exact Below.refl _ _ | (go_grown; done) | exact below_drawn (Below.refl _ _) _)) (by have h1 := HLEN.out; (try simp only [List.length_append, be_length]); omega)).mono ?_; rintro e w91 ⟨v91, rfl, ha91⟩; have haS1 := Ap.pre (w := W1) (by first | exact Below.refl _ _ | (go_grown; done) | exact below_drawn (Below.refl _ _) _) ha91; have HAS1 := Lib.hid haS1))
  have HFX := Lib.hid HAS3.out.f
  have HRX : Hid (refE 12 a L M = R0 ++ be 2 n1 ++ be 2 n2 ++ be 1 n3) := Lib.hid (by rw [HRF.out, HMW.out, HLN0.out, HMN0.out]; simp)
  clear k0 k10 k11 y0 y3 y4 y5 hWs hWs1
  have k0 := (HK.out.thru0 HFX.out.bel).cell 0; simp only [e0] at k0
  have k10 := (HK.out.thru0 HFX.out.bel).cell 10; simp only [e10] at k10
  have k11 := (HK.out.thru0 HFX.out.bel).cell 11; simp only [e11] at k11
  obtain ⟨A1, c1, hv1, hl1, hm1⟩ := HFX.out.own.slice
  generalize (R0 ++ be 2 n1 ++ be 2 n2 ++ be 1 n3).length = lj1 at hv1 hl1
  subst hv1
  clear hl1 hm1
  go_wp2_with fail
  refine wp_loop_rounds 1 ?_
  rw [rounds_succ]
  go_wp2_with fail
  refine wp_loop_rounds 1 ?_
  rw [rounds_succ]
  go_wp2_with fail
  have HFS := HFX
  go_loopw [7] (fun b wr => ∃ j : Nat, j ≤ nn - (R0 ++ be 2 n1 ++ be 2 n2 ++ be 1 n3).length ∧ Hid (FBy W b ((R0 ++ be 2 n1 ++ be 2 n2 ++ be 1 n3) ++ List.replicate j 0) wr)) (fun b _ => nn - lenOf b)
  case atStart => exact ⟨0, Nat.zero_le _, by simpa using HFS⟩
  case round =>
    rename World => wr
    obtain ⟨j, hj, HF⟩ := hrel
    have HLQ : Hid (((R0 ++ be 2 n1 ++ be 2 n2 ++ be 1 n3) ++ List.replicate j (0 : UInt8)).length = (R0 ++ be 2 n1 ++ be 2 n2 ++ be 1 n3).length + j) := Lib.hid (by rw [List.length_append, List.length_replicate])
    obtain ⟨A9, c9, hv9, hl9, hm9⟩ := HF.out.own.slice
    rw [HLQ.out] at hv9 hl9
    have HN8' := HN8.out
    generalize hrl : (R0 ++ be 2 n1 ++ be 2 n2 ++ be 1 n3).length = rl at *
    subst hv9
    have HJ := Lib.hid hj
    by_cases hlt : rl + j < nn
    · have HSU : Hid ((R0 ++ be 2 n1 ++ be 2 n2 ++ be 1 n3) ++ List.replicate (j + 1) (0 : UInt8) = (R0 ++ be 2 n1 ++ be 2 n2 ++ be 1 n3) ++ List.replicate j 0 ++ [0]) := Lib.hid (by rw [List.replicate_succ', ← List.append_assoc])
      have hlt2 : ((rl + j : Nat) : Int) < (nn : Int) := by omega
      go_wp2_with fail
      refine (HLN.out _).mono ?_
      rintro e wl ⟨rfl, hbl⟩
      have HG := Lib.hid (HF.out.below hbl)
      clear hbl
      have HOW := Lib.hid (HG.out.own.below ((Below.refl _ _).alloc (Nat.le_refl _) (.cells #[.int .u8 0] 5)))
      have HRM := Lib.hid (show Reads (wl.alloc (.cells #[.int .u8 0] 5)) (wl.alloc (.cells #[.int .u8 0] 5)).heap.size 1 (some ⟨wl.heap.size, 0, none⟩) 1 (elB.encs [0]) from one_new2 wl 0 5)
      generalize hQ : (R0 ++ be 2 n1 ++ be 2 n2 ++ be 1 n3) ++ List.replicate j (0 : UInt8) = Q at *
      go_wp2_with ((at_builtin; go_loud (refine wpList_eappr2 (e2 := 5) elB_ok rfl _ _ 24 24 rfl (by kernel_rfl) (by kernel_rfl) _ Q [0] (some ⟨wl.heap.size, 0, none⟩) 1 rfl rfl HOW.out HRM.out (by have h1 := HLQ.out; simp only [maxLen, List.length_cons, List.length_nil]; omega) (by have h2 := HLQ.out; have h1 : elB.by_ = 1 := rfl; rw [h1, List.length_cons, List.length_nil]; omega) ?_; intro v' w9 hA; have HF9 := Lib.hid (HG.out.app ((Below.refl _ _).alloc (Nat.le_refl _) _) hA); have HLV := Lib.hid hA.1.slice; clear hA)))
      go_roundw
      case rel => exact ⟨j + 1, by omega, Lib.hid (by rw [HSU.out]; exact HF9.out)⟩
      case measure =>
        obtain ⟨A8, c8, hv8, _, _⟩ := HLV.out
        have h1 := HLQ.out
        rw [hv8]
        simp only [lenOf, List.length_append, List.length_cons, List.length_nil]
        omega
    · have HJ2 : Hid (j = nn - rl) := Lib.hid (by have := HJ.out; omega)
      have HBY : Hid ((R0 ++ be 2 n1 ++ be 2 n2 ++ be 1 n3) ++ List.replicate j (0 : UInt8) = bytE (12) m a L M) := Lib.hid (by unfold bytE; rw [HRX.out, ← HNN.out, HJ2.out, hrl])
      have hge : ¬ (((rl + j : Nat) : Int) < (nn : Int)) := by omega
      go_wp2_with fail
      refine (HLN.out _).mono ?_
      rintro e wl ⟨rfl, hbl⟩
      have HG := Lib.hid (HF.out.below hbl)
      rw [HBY.out] at HG
      clear hbl
      go_wp2_with fail
      go_ret
      exact ⟨_, rfl, HG.out.up HBW.out⟩
set_option maxRecDepth 100000 in
set_option maxHeartbeats 8000000 in
theorem rbytes_else (w : World) (m : Int) (a : An) (L : List Snt) (M : List Evt) (op : Int) (h4 : op ≠ 4) (h5 : op ≠ 5) (h10 : op ≠ 10) (h12 : op ≠ 12) (h : AnR w a L M) (hma : mayB (op) m a L M = true) (hs : a.sec ≤ 18446744073709551615) (hst : a.st = 0) :
    Calls Try.prog 17 #[.int .i64 (op), .int .i64 m, .agg a.cs] w fun e w' => ∃ v, e = .returned v ∧ FBy w v (bytE (op) m a L M) w' := by
  obtain ⟨q1, q2, q3, q4, q5, q6, q7⟩ := may_few h hma
  have hwi : withinB a.st 0 12 = true := by unfold mayB at hma; simp only [Bool.and_eq_true] at hma; exact hma.2.2.1
  have hwi2 : 0 ≤ a.st ∧ a.st ≤ 12 := by simpa [withinB] using hwi
  obtain ⟨nn, hnn⟩ : ∃ n, n = (lenN (op) m).toNat := ⟨_, rfl⟩
  obtain ⟨r1, r2, r3⟩ := wr_fit h hma
  have HN8 : Hid (nn ≤ 800) := Lib.hid (by rw [hnn]; exact r2)
  have HNN := Lib.hid hnn
  have HLN := Lib.hid (fun w => rlength_any (op) m w)
  rw [← r3, ← hnn] at HLN
  clear r1 r2 r3 hnn hwi
  obtain ⟨st, hste⟩ : ∃ s : Nat, a.st = (s : Int) := ⟨a.st.toNat, by omega⟩
  have hst12 : st ≤ 12 := by omega
  obtain ⟨W, hW⟩ : ∃ W, W = w.alloc (.cells a.cs TA) := ⟨_, rfl⟩
  have HBW := Lib.hid (show Below w.heap.size w W by rw [hW]; exact (Below.refl _ _).alloc (Nat.le_refl _) _)
  have HK := Lib.hid (show Blk W w.heap.size TA a.cs by rw [hW]; exact Blk.new _ _ _)
  obtain ⟨sn, hsn⟩ : ∃ n, n = a.sn := ⟨_, rfl⟩
  obtain ⟨en, hen⟩ : ∃ n, n = a.en := ⟨_, rfl⟩
  obtain ⟨sA, hsA⟩ : ∃ n, n = a.sA := ⟨_, rfl⟩
  obtain ⟨eA, heA⟩ : ∃ n, n = a.eA := ⟨_, rfl⟩
  have HRS : Hid (ERd elOS W (.slice sA sn a.sc) L) := Lib.hid (by rw [hsA, hsn]; exact h.seen.below HBW.out)
  have HRE : Hid (ERd elOE W (.slice eA en a.ec) M) := Lib.hid (by rw [heA, hen]; exact h.evs.below HBW.out)
  have HN1 : Hid (sn = L.length) := Lib.hid (hsn.trans h.sl.symm)
  have HN2 : Hid (en = M.length) := Lib.hid (hen.trans h.el.symm)
  have hq1 : sn ≤ 64 := by rw [HN1.out]; exact q6
  have hq2 : en ≤ 64 := by rw [HN2.out]; exact q7
  have e0 : a.cs[0]? = some (.int .i64 (st : Int)) := by rw [← hste]; rfl
  have e1 : a.cs[1]? = some (.int .u64 (a.sec : Int)) := rfl
  have e2 : a.cs[2]? = some (.int .i64 a.rid) := rfl
  have e3 : a.cs[3]? = some (.int .i64 a.rx) := rfl
  have e4 : a.cs[4]? = some (.int .i64 a.ry) := rfl
  have e5 : a.cs[5]? = some (.int .i64 a.lab) := rfl
  have e6 : a.cs[6]? = some (.int .i64 a.b0) := rfl
  have e7 : a.cs[7]? = some (.int .i64 a.b1) := rfl
  have e8 : a.cs[8]? = some (.int .i64 a.b2) := rfl
  have e9 : a.cs[9]? = some (.int .i64 a.b3) := rfl
  have e10 : a.cs[10]? = some (.slice sA sn a.sc) := by rw [hsA, hsn]; rfl
  have e11 : a.cs[11]? = some (.slice eA en a.ec) := by rw [heA, hen]; rfl
  obtain ⟨kk, hkk⟩ : ∃ kk : Nat, op = (kk : Int) := ⟨op.toNat, by omega⟩
  subst hkk
  have HSC := Lib.hid hs
  have HHE : Hid (headE (kk : Int) a = [UInt8.ofNat st, UInt8.ofNat kk, UInt8.ofNat (sn + en)]) := Lib.hid (by unfold headE; rw [hste, hsn, hen]; rfl)
  have HH3 : Hid ((headE (kk : Int) a).length = 3) := Lib.hid rfl
  have hst0 : st = 0 := by omega
  subst hst0
  have HMW : Hid (midE (kk : Int) a = []) := Lib.hid (by unfold midE; rw [if_neg (by simp; exact hst), if_neg (by omega), if_neg h12, if_neg h10])
  have HRF : Hid (refE (kk : Int) a L M = headE (kk : Int) a ++ (midE (kk : Int) a ++ (L.flatMap seenE ++ M.flatMap evtE))) := Lib.hid rfl
  have hWs := hW.symm
  have b4 : ((kk : Int) == 4) = false := beq_eq_false_iff_ne.2 h4
  have b5 : ((kk : Int) == 5) = false := beq_eq_false_iff_ne.2 h5
  have b10 : ((kk : Int) == 10) = false := beq_eq_false_iff_ne.2 h10
  have b12 : ((kk : Int) == 12) = false := beq_eq_false_iff_ne.2 h12
  clear h hma hs hW hsA heA hste q5 q6 q7 hwi2
  clear hsn hen
  clear hst
  have k0 := (HK.out.thru0 (Below.refl _ _)).cell 0; simp only [e0] at k0
  have k10 := (HK.out.thru0 (Below.refl _ _)).cell 10; simp only [e10] at k10
  have k11 := (HK.out.thru0 (Below.refl _ _)).cell 11; simp only [e11] at k11
  obtain ⟨W1, hW1⟩ : ∃ W1, W1 = W.alloc (.cells #[.int .u8 0, .int .u8 (kk : Int), .int .u8 ((sn : Int) + (en : Int))] 5) := ⟨_, rfl⟩
  have HFa : Hid (FBy W (.slice (some ⟨W.heap.size, 0, none⟩) 3 3) (headE (kk : Int) a) W1) := Lib.hid (by rw [HHE.out, hW1]; exact head_own W 0 kk (sn + en) _ _ _ (by first | rfl | omega) (by first | rfl | omega) (by first | rfl | omega) (by omega) (by omega) (by omega))
  have hWs1 := hW1.symm
  clear hW1 HHE
  generalize headE (kk : Int) a = R0 at *
  have y0 := (HK.out.thru0 HFa.out.bel).cell 0; simp only [e0] at y0
  have hkB : (kk : Int) ≤ 19 := by omega
  go_enter Try.func17, Try.ntmps17
  go_wp2_with fail
  clear k0 k10 k11 y0 hWs hWs1
  have HFS := HFa
  have kW10 := HK.out.cell 10
  have kW11 := HK.out.cell 11
  simp only [e10] at kW10
  simp only [e11] at kW11
  have HKW10 := Lib.hid kW10
  have HKW11 := Lib.hid kW11
  clear kW10 kW11
  go_loopw [7, 8] (fun b i wr => ∃ k : Nat, k ≤ sn ∧ i = .int .i64 k ∧ Hid (FBy W b (R0 ++ (L.take k).flatMap seenE) wr)) (fun _ i _ => sn - (intOf i).toNat)
  case atStart => exact ⟨0, Nat.zero_le _, rfl, by simpa using HFS⟩
  case round =>
    rename World => wr
    obtain ⟨k, hk, rfl, HF⟩ := hrel
    have HLR : Hid ((R0 ++ (L.take k).flatMap seenE).length ≤ 800) := Lib.hid (by
      have h1 := seenE_len (L.take k)
      have h2 : (L.take k).length ≤ 64 := by rw [List.length_take]; have := HN1.out; omega
      have h3 := HH3.out
      rw [List.length_append]; omega)
    by_cases hlt : k < sn
    · have hkl : k < L.length := by rw [← HN1.out]; exact hlt
      have hx : L[k]? = some L[k] := List.getElem?_eq_getElem hkl
      have HTK := Lib.hid (tk_seenE L k hkl)
      obtain ⟨g, o, hg, a0, a1, a2, a3, a4, a5⟩ := elOS_at HRS.out hx
      subst hg
      have hlt2 : (k : Int) < sn := by omega
      generalize L[k] = x at *
      clear hx
      have wu1 := wrapU x.id
      have wu2 := wrapU x.lev
      have HU1 := Lib.hid (toU_le x.id)
      have HU2 := Lib.hid (toU_le x.lev)
      generalize toU x.id = n1 at *
      generalize toU x.lev = n2 at *
      have HTK2 : Hid (R0 ++ (L.take (k + 1)).flatMap seenE = R0 ++ (L.take k).flatMap seenE ++ be 2 n1 ++ be 1 n2 ++ rectE x.b0 x.b1 x.b2 x.b3) := Lib.hid (by rw [HTK.out]; simp only [List.append_assoc])
      have HLEN : Hid ((R0 ++ (L.take k).flatMap seenE).length ≤ 800) := HLR
      generalize R0 ++ (L.take k).flatMap seenE = Q at *
      clear HTK
      obtain ⟨A1, c1, hv1, hl1, hm1⟩ := HF.out.own.slice
      generalize (Q).length = lj1 at hv1 hl1
      subst hv1
      clear hl1 hm1
      have HAq := Lib.hid (Ap.refl HF.out)
      have HKA := Lib.hid (And.intro HKW10.out (And.intro a0 (And.intro a1 (And.intro a2 (And.intro a3 (And.intro a4 a5))))))
      have HS9 : ∀ (w' : World) (R' : Bs) (v' : Value), Ap W wr (.slice A1 lj1 c1) R' v' w' → (w'.cell? ⟨w.heap.size, 10, none⟩ = some (.slice (some ⟨g, o, none⟩) sn a.sc) ∧ w'.cell? ⟨g, o + k * 6, none⟩ = some (.int .i64 x.id) ∧ w'.cell? ⟨g, o + k * 6 + 1, none⟩ = some (.int .i64 x.lev) ∧ w'.cell? ⟨g, o + k * 6 + 2, none⟩ = some (.int .i64 x.b0) ∧ w'.cell? ⟨g, o + k * 6 + 3, none⟩ = some (.int .i64 x.b1) ∧ w'.cell? ⟨g, o + k * 6 + 4, none⟩ = some (.int .i64 x.b2) ∧ w'.cell? ⟨g, o + k * 6 + 5, none⟩ = some (.int .i64 x.b3) ∧ Below W.heap.size W w') := fun w' R' v' h => by
        obtain ⟨z0, z1, z2, z3, z4, z5, z6⟩ := HKA.out
        exact ⟨cell_later h.f.bel z0, cell_later h.f.bel z1, cell_later h.f.bel z2, cell_later h.f.bel z3, cell_later h.f.bel z4, cell_later h.f.bel z5, cell_later h.f.bel z6, h.f.bel⟩
      have HS := Lib.hid HS9
      clear HS9 a0 a1 a2 a3 a4 a5
      obtain ⟨z0, z1, z2, z3, z4, z5, z6, zb⟩ := HS.out _ _ _ HAq.out
      go_upto_region 11 with fail
      go_region_held3 (fun w' => w'.cell? ⟨w.heap.size, 10, none⟩ = some (.slice (some ⟨g, o, none⟩) sn a.sc) ∧ w'.cell? ⟨g, o + k * 6, none⟩ = some (.int .i64 x.id) ∧ w'.cell? ⟨g, o + k * 6 + 1, none⟩ = some (.int .i64 x.lev) ∧ w'.cell? ⟨g, o + k * 6 + 2, none⟩ = some (.int .i64 x.b0) ∧ w'.cell? ⟨g, o + k * 6 + 3, none⟩ = some (.int .i64 x.b1) ∧ w'.cell? ⟨g, o + k * 6 + 4, none⟩ = some (.int .i64 x.b2) ∧ w'.cell? ⟨g, o + k * 6 + 5, none⟩ = some (.int .i64 x.b3) ∧ Below W.heap.size W w') (first | (exact HS.out _ _ _ (by first | assumption | (with_reducible exact HAq.out) | exact HAq.out.below (by first | exact Below.refl _ _ | (go_grown; done) | exact below_drawn (Below.refl _ _) _)))) (first | (go_at_call 37; refine (rrect_any W _ _ (Q ++ be 2 n1 ++ be 1 n2) x.b0 x.b1 x.b2 x.b3 (HAS2.out.f) (by have h1 := HLEN.out; (try simp only [List.length_append, be_length]); omega)).mono ?_; rintro e w93 ⟨v93, rfl, ha93⟩; have haS3 := HAS2.out.step ha93; have HAS3 := Lib.hid haS3) | (go_at_call 36; refine (rput1 W _ _ (Q ++ be 2 n1) n2 HU2.out (HAS1.out.f) (by have h1 := HLEN.out; (try simp only [List.length_append, be_length]); omega)).mono ?_; rintro e w92 ⟨v92, rfl, ha92⟩; have haS2 := HAS1.out.step ha92; have HAS2 := Lib.hid haS2) | (go_at_call 36; refine (rput2 W _ _ (Q) n1 HU1.out (HAq.out.f.below (by first | exact Below.refl _ _ | (go_grown; done) | exact below_drawn (Below.refl _ _) _)) (by have h1 := HLEN.out; (try simp only [List.length_append, be_length]); omega)).mono ?_; rintro e w91 ⟨v91, rfl, ha91⟩; have haS1 := Ap.pre (w := wr) (by first | exact Below.refl _ _ | (go_grown; done) | exact below_drawn (Below.refl _ _) _) ha91; have HAS1 := Lib.hid haS1))
      go_wp2_with fail
      go_roundw
      case rel => exact ⟨k + 1, by omega, by go_num, Lib.hid (by rw [HTK2.out]; exact HAS3.out.f)⟩
      case measure => simp [intOf]; omega
    · obtain rfl : k = sn := by omega
      have HT2 : Hid (L.take k = L) := Lib.hid (by rw [HN1.out, List.take_length])
      rw [HT2.out] at HF HLR
      have z0 := cell_later HF.out.bel HKW10.out
      have z1 := cell_later HF.out.bel HKW11.out
      generalize hRR : R0 ++ L.flatMap seenE = RR at *
      have HRR := Lib.hid hRR
      clear hRR
      obtain ⟨A2, c2, hv2, hl2, hm2⟩ := HF.out.own.slice
      generalize (RR).length = lj2 at hv2 hl2
      subst hv2
      clear hl2 hm2
      go_wp2_with fail
      have HFT := HF
      clear z0 z1
      go_loopw [7, 9] (fun b i wr2 => ∃ j : Nat, j ≤ en ∧ i = .int .i64 j ∧ Hid (FBy W b (RR ++ (M.take j).flatMap evtE) wr2)) (fun _ i _ => en - (intOf i).toNat)
      case atStart => exact ⟨0, Nat.zero_le _, rfl, by simpa using HFT⟩
      case round =>
        rename World => wr2
        obtain ⟨j, hj, rfl, HF2⟩ := hrel
        have HLR2 : Hid ((RR ++ (M.take j).flatMap evtE).length ≤ 1600) := Lib.hid (by
          have h1 := evtE_len (M.take j)
          have h2 : (M.take j).length ≤ 64 := by rw [List.length_take]; have := HN2.out; omega
          have h3 := HLR.out
          rw [List.length_append]; omega)
        have z1 := cell_later HF2.out.bel HKW11.out
        by_cases hlt3 : j < en
        · have hkl : j < M.length := by rw [← HN2.out]; exact hlt3
          have hx : M[j]? = some M[j] := List.getElem?_eq_getElem hkl
          have HTK := Lib.hid (tk_evtE M j hkl)
          obtain ⟨g, o, hg, a0, a1, a2, a3⟩ := elOE_at (HRE.out.below HF2.out.bel) hx
          subst hg
          have hlt4 : (j : Int) < en := by omega
          generalize M[j] = x at *
          clear hx
          have wu1 := wrapU x.usr
          have wu2 := wrapU x.op
          have wu3 := wrapU x.st
          have wu4 := wrapU x.tick
          have HU1 := Lib.hid (toU_le x.usr)
          have HU2 := Lib.hid (toU_le x.op)
          have HU3 := Lib.hid (toU_le x.st)
          have HU4 := Lib.hid (toU_le x.tick)
          generalize toU x.usr = n1 at *
          generalize toU x.op = n2 at *
          generalize toU x.st = n3 at *
          generalize toU x.tick = n4 at *
          have HTK2 : Hid (RR ++ (M.take (j + 1)).flatMap evtE = RR ++ (M.take j).flatMap evtE ++ be 2 n1 ++ be 1 n2 ++ be 1 n3 ++ be 4 n4) := Lib.hid (by rw [HTK.out]; simp only [List.append_assoc])
          have HLEN : Hid ((RR ++ (M.take j).flatMap evtE).length ≤ 1600) := HLR2
          generalize RR ++ (M.take j).flatMap evtE = Q at *
          clear HTK
          obtain ⟨A3, c3, hv3, hl3, hm3⟩ := HF2.out.own.slice
          generalize (Q).length = lj3 at hv3 hl3
          subst hv3
          clear hl3 hm3
          have HNQ : Hid ((Value.slice A3 lj3 c3).ownBlock ≠ some wr2.heap.size) := Lib.hid (fun e => by have := HF2.out.own.lt e; omega)
          have HAq := Lib.hid (Ap.refl (HF2.out.below ((Below.refl _ _).alloc (Nat.le_refl _) (.cells #[.int .i64 x.usr, .int .i64 x.op, .int .i64 x.st, .int .i64 x.tick] 62))))
          have HEB := Lib.hid (Blk.new wr2 62 #[.int .i64 x.usr, .int .i64 x.op, .int .i64 x.st, .int .i64 x.tick])
          go_upto_region 16 with fail
          generalize wr2.alloc (.cells #[.int .i64 x.usr, .int .i64 x.op, .int .i64 x.st, .int .i64 x.tick] 62) = wq at *
          have HS9 : ∀ (w' : World) (R' : Bs) (v' : Value), Ap W wq (.slice A3 lj3 c3) R' v' w' → (w'.cell? ⟨wr2.heap.size, 0, none⟩ = some (.int .i64 x.usr) ∧ w'.cell? ⟨wr2.heap.size, 1, none⟩ = some (.int .i64 x.op) ∧ w'.cell? ⟨wr2.heap.size, 2, none⟩ = some (.int .i64 x.st) ∧ w'.cell? ⟨wr2.heap.size, 3, none⟩ = some (.int .i64 x.tick) ∧ Below W.heap.size W w') := fun w' R' v' h => by
            have hb := h.blk HEB.out HNQ.out
            exact ⟨hb.cell 0, hb.cell 1, hb.cell 2, hb.cell 3, h.f.bel⟩
          have HS := Lib.hid HS9
          clear HS9 a0 a1 a2 a3 z1
          obtain ⟨z0, z1, z2, z3, zb⟩ := HS.out _ _ _ HAq.out
          go_region_held3 (fun w' => w'.cell? ⟨wr2.heap.size, 0, none⟩ = some (.int .i64 x.usr) ∧ w'.cell? ⟨wr2.heap.size, 1, none⟩ = some (.int .i64 x.op) ∧ w'.cell? ⟨wr2.heap.size, 2, none⟩ = some (.int .i64 x.st) ∧ w'.cell? ⟨wr2.heap.size, 3, none⟩ = some (.int .i64 x.tick) ∧ Below W.heap.size W w') (first | (exact HS.out _ _ _ (by first | assumption | (with_reducible exact HAq.out) | exact HAq.out.below (by first | exact Below.refl _ _ | (go_grown; done) | exact below_drawn (Below.refl _ _) _)))) (first | (go_at_call 36; refine (rput4 W _ _ (Q ++ be 2 n1 ++ be 1 n2 ++ be 1 n3) n4 HU4.out (HAS3.out.f) (by have h1 := HLEN.out; (try simp only [List.length_append, be_length]); omega)).mono ?_; rintro e w94 ⟨v94, rfl, ha94⟩; have haS4 := HAS3.out.step ha94; have HAS4 := Lib.hid haS4) | (go_at_call 36; refine (rput1 W _ _ (Q ++ be 2 n1 ++ be 1 n2) n3 HU3.out (HAS2.out.f) (by have h1 := HLEN.out; (try simp only [List.length_append, be_length]); omega)).mono ?_; rintro e w93 ⟨v93, rfl, ha93⟩; have haS3 := HAS2.out.step ha93; have HAS3 := Lib.hid haS3) | (go_at_call 36; refine (rput1 W _ _ (Q ++ be 2 n1) n2 HU2.out (HAS1.out.f) (by have h1 := HLEN.out; (try simp only [List.length_append, be_length]); omega)).mono ?_; rintro e w92 ⟨v92, rfl, ha92⟩; have haS2 := HAS1.out.step ha92; have HAS2 := Lib.hid haS2) | (go_at_call 36; refine (rput2 W _ _ (Q) n1 HU1.out (HAq.out.f.below (by first | exact Below.refl _ _ | (go_grown; done) | exact below_drawn (Below.refl _ _) _)) (by have h1 := HLEN.out; (try simp only [List.length_append, be_length]); omega)).mono ?_; rintro e w91 ⟨v91, rfl, ha91⟩; have haS1 := Ap.pre (w := wq) (by first | exact Below.refl _ _ | (go_grown; done) | exact below_drawn (Below.refl _ _) _) ha91; have HAS1 := Lib.hid haS1))
          go_wp2_with fail
          go_roundw
          case rel => exact ⟨j + 1, by omega, by go_num, Lib.hid (by rw [HTK2.out]; exact HAS4.out.f)⟩
          case measure => simp [intOf]; omega
        · obtain rfl : j = en := by omega
          have HT3 : Hid (M.take j = M) := Lib.hid (by rw [HN2.out, List.take_length])
          rw [HT3.out] at HF2 HLR2
          have HRX : Hid (refE (kk : Int) a L M = RR ++ M.flatMap evtE) := Lib.hid (by rw [HRF.out, HMW.out, ← HRR.out]; simp only [List.append_assoc, List.nil_append])
          obtain ⟨A4, c4, hv4, hl4, hm4⟩ := HF2.out.own.slice
          generalize (RR ++ M.flatMap evtE).length = lj4 at hv4 hl4
          subst hv4
          clear hl4 hm4
          go_wp2_with fail
          have HFX := HF2
          generalize RR ++ M.flatMap evtE = RZ at *
          have HFS := HFX
          go_loopw [7] (fun b wr => ∃ j : Nat, j ≤ nn - (RZ).length ∧ Hid (FBy W b ((RZ) ++ List.replicate j 0) wr)) (fun b _ => nn - lenOf b)
          case atStart => exact ⟨0, Nat.zero_le _, by simpa using HFS⟩
          case round =>
            rename World => wr
            obtain ⟨j, hj, HF⟩ := hrel
            have HLQ : Hid (((RZ) ++ List.replicate j (0 : UInt8)).length = (RZ).length + j) := Lib.hid (by rw [List.length_append, List.length_replicate])
            obtain ⟨A9, c9, hv9, hl9, hm9⟩ := HF.out.own.slice
            rw [HLQ.out] at hv9 hl9
            have HN8' := HN8.out
            generalize hrl : (RZ).length = rl at *
            subst hv9
            have HJ := Lib.hid hj
            by_cases hlt : rl + j < nn
            · have HSU : Hid ((RZ) ++ List.replicate (j + 1) (0 : UInt8) = (RZ) ++ List.replicate j 0 ++ [0]) := Lib.hid (by rw [List.replicate_succ', ← List.append_assoc])
              have hlt2 : ((rl + j : Nat) : Int) < (nn : Int) := by omega
              go_wp2_with fail
              refine (HLN.out _).mono ?_
              rintro e wl ⟨rfl, hbl⟩
              have HG := Lib.hid (HF.out.below hbl)
              clear hbl
              have HOW := Lib.hid (HG.out.own.below ((Below.refl _ _).alloc (Nat.le_refl _) (.cells #[.int .u8 0] 5)))
              have HRM := Lib.hid (show Reads (wl.alloc (.cells #[.int .u8 0] 5)) (wl.alloc (.cells #[.int .u8 0] 5)).heap.size 1 (some ⟨wl.heap.size, 0, none⟩) 1 (elB.encs [0]) from one_new2 wl 0 5)
              generalize hQ : (RZ) ++ List.replicate j (0 : UInt8) = Q at *
              go_wp2_with ((at_builtin; go_loud (refine wpList_eappr2 (e2 := 5) elB_ok rfl _ _ 24 24 rfl (by kernel_rfl) (by kernel_rfl) _ Q [0] (some ⟨wl.heap.size, 0, none⟩) 1 rfl rfl HOW.out HRM.out (by have h1 := HLQ.out; simp only [maxLen, List.length_cons, List.length_nil]; omega) (by have h2 := HLQ.out; have h1 : elB.by_ = 1 := rfl; rw [h1, List.length_cons, List.length_nil]; omega) ?_; intro v' w9 hA; have HF9 := Lib.hid (HG.out.app ((Below.refl _ _).alloc (Nat.le_refl _) _) hA); have HLV := Lib.hid hA.1.slice; clear hA)))
              go_roundw
              case rel => exact ⟨j + 1, by omega, Lib.hid (by rw [HSU.out]; exact HF9.out)⟩
              case measure =>
                obtain ⟨A8, c8, hv8, _, _⟩ := HLV.out
                have h1 := HLQ.out
                rw [hv8]
                simp only [lenOf, List.length_append, List.length_cons, List.length_nil]
                omega
            · have HJ2 : Hid (j = nn - rl) := Lib.hid (by have := HJ.out; omega)
              have HBY : Hid ((RZ) ++ List.replicate j (0 : UInt8) = bytE ((kk : Int)) m a L M) := Lib.hid (by unfold bytE; rw [HRX.out, ← HNN.out, HJ2.out, hrl])
              have hge : ¬ (((rl + j : Nat) : Int) < (nn : Int)) := by omega
              go_wp2_with fail
              refine (HLN.out _).mono ?_
              rintro e wl ⟨rfl, hbl⟩
              have HG := Lib.hid (HF.out.below hbl)
              rw [HBY.out] at HG
              clear hbl
              go_wp2_with fail
              go_ret
              exact ⟨_, rfl, HG.out.up HBW.out⟩
theorem rbytes_any (w : World) (op m : Int) (a : An) (L : List Snt) (M : List Evt) (h : AnR w a L M) (hma : mayB op m a L M = true) (hs : a.sec ≤ 18446744073709551615) :
    Calls Try.prog 17 #[.int .i64 op, .int .i64 m, .agg a.cs] w fun e w' => ∃ v, e = .returned v ∧ FBy w v (bytE op m a L M) w' := by
  by_cases hst : a.st = 0
  · by_cases h4 : op = 4
    · subst h4; exact rbytes_mint w m a L M h hma hs hst
    · by_cases h5 : op = 5
      · subst h5; exact rbytes_att w m a L M h hma hs hst
      · by_cases h10 : op = 10
        · subst h10; exact rbytes_pub w m a L M h hma hs hst
        · by_cases h12 : op = 12
          · subst h12; exact rbytes_where w m a L M h hma hs hst
          · exact rbytes_else w m a L M op h4 h5 h10 h12 h hma hs hst
  · exact rbytes_bare w m a L M op h hma hs hst
end Go.Proofs.Ytmapcdmegkfheaa
