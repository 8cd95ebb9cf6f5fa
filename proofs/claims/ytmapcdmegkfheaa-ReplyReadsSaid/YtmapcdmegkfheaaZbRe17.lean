/- reply: the document's put and rect, by contract. -/
import Derived.Test.YtmapcdmegkfheaaZbRe13
import Derived.Test.YtmapcdmegkfheaaZbRefPut
namespace Go.Proofs.Ytmapcdmegkfheaa
set_option linter.unusedVariables false
set_option linter.unusedSimpArgs false
open Go.RowKit
/-- Bytes are put behind a row: its own block may turn, all else is kept. -/
structure Ap (w0 w : World) (v : Value) (R : Bs) (v' : Value) (w' : World) : Prop where
  f : FBy w0 v' R w'
  size : w.heap.size ≤ w'.heap.size
  keep : ∀ i, i < w.heap.size → v.ownBlock ≠ some i → w'.heap[i]? = w.heap[i]?
  own : ∀ i, v'.ownBlock = some i → v.ownBlock = some i ∨ w.heap.size ≤ i
theorem Ap.refl {w0 w : World} {v : Value} {R : Bs} (h : FBy w0 v R w) : Ap w0 w v R v w := ⟨h, Nat.le_refl _, fun _ _ _ => rfl, fun _ h => .inl h⟩
theorem Ap.step {w0 w w1 w2 : World} {v v1 v2 : Value} {R R2 : Bs} (h : Ap w0 w v R v1 w1) (k : Ap w0 w1 v1 R2 v2 w2) : Ap w0 w v R2 v2 w2 := by
  refine ⟨k.f, Nat.le_trans h.size k.size, fun i hi hn => ?_, fun i hi => ?_⟩
  · rw [k.keep i (Nat.lt_of_lt_of_le hi h.size) (fun e => ?_), h.keep i hi hn]
    rcases h.own i e with h1 | h1
    · exact hn h1
    · omega
  · rcases k.own i hi with h1 | h1
    · exact h.own i h1
    · exact .inr (Nat.le_trans h.size h1)
theorem Ap.below {w0 w w1 w2 : World} {v v1 : Value} {R : Bs} (h : Ap w0 w v R v1 w1) (hb : Below w1.heap.size w1 w2) : Ap w0 w v R v1 w2 :=
  ⟨h.f.below hb, Nat.le_trans h.size hb.size, fun i hi hn => (hb.block i (Nat.lt_of_lt_of_le hi h.size)).trans (h.keep i hi hn), h.own⟩
theorem Ap.pre {w0 w w1 w2 : World} {v v2 : Value} {R : Bs} (hb : Below w.heap.size w w1) (h : Ap w0 w1 v R v2 w2) : Ap w0 w v R v2 w2 :=
  ⟨h.f, Nat.le_trans hb.size h.size, fun i hi hn => (h.keep i (Nat.lt_of_lt_of_le hi hb.size) hn).trans (hb.block i hi), fun i hi => (h.own i hi).imp id (Nat.le_trans hb.size)⟩
theorem Ap.app {w0 w w1 w2 w3 : World} {v v1 v2 : Value} {R M : Bs} (h : Ap w0 w v R v1 w1) (hb : Below w1.heap.size w1 w2) (ha : EApp elB v1 (R ++ M) w2 v2 w3) : Ap w0 w v (R ++ M) v2 w3 := by
  refine (h.below hb).step ⟨(h.below hb).f.app (Below.refl _ _) ha, ha.2.1.size, fun i hi hn => ha.2.1.block i hi (fun e => hn e.symm), fun i hi => ?_⟩
  rcases ha.2.2 i hi with h1 | h1
  · exact .inl h1
  · exact .inr (by omega)
theorem Ap.blk {w0 w w' : World} {v v' : Value} {R : Bs} {q : Nat} {t : TypeId} {cs : Array Value} (h : Ap w0 w v R v' w') (hb : Blk w q t cs) (hn : v.ownBlock ≠ some q) : Blk w' q t cs := (h.keep q hb.lt hn).trans hb
theorem own_cells {w : World} {base k : Nat} {l : Value} {xs : Bs} (h : w.ownsRow base 5 1 l k (bv xs)) (hk : 0 < k) : ∃ g cap cur, l = .slice (some ⟨g, 0, none⟩) k cap ∧ base ≤ g ∧ Blk w g 5 cur ∧ ∀ (j : Nat) (x : UInt8), xs[j]? = some x → cur[j]? = some (.int .u8 (x.toNat : Int)) := by
  rcases h.2 with ⟨_, h0⟩ | ⟨g, cap, cur, hv, hbs, hb, _, _, hs, ht⟩
  · exfalso; omega
  · refine ⟨g, cap, cur, hv, hbs, hb, fun j x hx => ?_⟩
    have h1 : (bv xs)[j]? = some (.int .u8 (x.toNat : Int)) := by simp [bv, hx]
    rw [← ht, List.getElem?_take] at h1
    split at h1
    · simpa using h1
    · cases h1
theorem one_new2 (w : World) (x : UInt8) (t : TypeId) : Reads (w.alloc (.cells #[.int .u8 (x.toNat : Int)] t)) (w.alloc (.cells #[.int .u8 (x.toNat : Int)] t)).heap.size 1 (some ⟨w.heap.size, 0, none⟩) 1 (elB.encs [x]) := by
  have h := one_new w (.int .u8 (x.toNat : Int)) t
  have hs : (w.alloc (.cells #[.int .u8 (x.toNat : Int)] t)).heap.size = w.heap.size + 1 := by simp
  rw [hs]
  exact h
set_option maxRecDepth 100000 in
set_option maxHeartbeats 4000000 in
theorem rput_any (w0 w : World) (v : Value) (R : Bs) (n k : Nat) (h1 : 1 ≤ k) (h8 : k ≤ 8) (hn : n ≤ 18446744073709551615) (h : FBy w0 v R w) (hl : R.length ≤ 2000) :
    Calls Try.prog 36 #[v, .int .u64 (n : Int), .int .i64 (k : Int)] w fun e w' => ∃ v', e = .returned v' ∧ Ap w0 w v (R ++ be k n) v' w' := by
  have HP := Lib.hid (refput_any k n h1 h8 hn w)
  unfold RPost at HP
  have HF := Lib.hid h
  have HL := Lib.hid hl
  have HVL := Lib.hid (fun i hi => h.own.lt (i := i) hi)
  have H1 := Lib.hid h1
  have H8 := Lib.hid h8
  have HBL := Lib.hid (be_length k n)
  generalize be k n = P at *
  generalize decide (n < 256 ^ k) = okb at *
  clear h1 h hl
  go_enter Try.func36, Try.ntmps36
  go_wp2_with fail
  refine HP.out.mono ?_
  rintro e w1 ⟨l, rfl, hown, hb⟩
  obtain ⟨g, cap, cur, rfl, hgb, hbl, hce⟩ := own_cells hown H1.out
  have HB1 := Lib.hid hb
  have HGB := Lib.hid hgb
  have HBK := Lib.hid hbl
  have HCE := Lib.hid hce
  have HVG : Hid (v.ownBlock ≠ some g) := Lib.hid (fun e => by have := HVL.out g e; have := HGB.out; omega)
  have HA0 := Lib.hid (Ap.refl (HF.out.below hb))
  clear hown hb hgb hbl hce
  go_wp2_with fail
  go_loopw [0, 9] (fun b i wr => ∃ j : Nat, j ≤ k ∧ i = .int .i64 j ∧ Hid (Ap w0 w1 v (R ++ P.take j) b wr)) (fun _ i _ => k - (intOf i).toNat)
  case atStart => exact ⟨0, Nat.zero_le _, rfl, by simpa using HA0⟩
  case round =>
    rename World => wr
    obtain ⟨j, hj, rfl, HA⟩ := hrel
    obtain ⟨A2, c2, hv, hl2, hm2⟩ := HA.out.f.own.slice
    by_cases hlt : j < k
    · have hjl : j < P.length := by rw [HBL.out]; exact hlt
      have HTK : Hid (R ++ P.take (j + 1) = (R ++ P.take j) ++ [P[j]]) := Lib.hid (by rw [List.take_succ_eq_append_getElem hjl, List.append_assoc])
      have kc := (HA.out.blk HBK.out HVG.out).cell j
      rw [HCE.out j P[j] (List.getElem?_eq_getElem hjl)] at kc
      generalize P[j] = x at *
      have HLQ : Hid ((R ++ P.take j).length ≤ 2010) := Lib.hid (by have h1 := HL.out; have h2 := HBL.out; have h3 := H8.out; rw [List.length_append, List.length_take]; omega)
      generalize R ++ P.take j = Q at *
      generalize Q.length = lj at hv hl2
      subst hv
      clear hl2 hm2 hjl
      have HOW := Lib.hid (HA.out.f.own.below ((Below.refl _ _).alloc (Nat.le_refl _) (.cells #[.int .u8 (x.toNat : Int)] 5)))
      have HRM := Lib.hid (one_new2 wr x 5)
      go_wp2_with ((at_builtin; go_loud (refine wpList_eappr2 (e2 := 5) elB_ok rfl _ _ 24 24 rfl (by kernel_rfl) (by kernel_rfl) _ Q [x] (some ⟨wr.heap.size, 0, none⟩) 1 rfl rfl HOW.out HRM.out (by have := HLQ.out; simp only [maxLen, List.length_cons, List.length_nil]; omega) (by have := HLQ.out; have h1 : elB.by_ = 1 := rfl; rw [h1, List.length_cons, List.length_nil]; omega) ?_; intro v' w9 hA; have HA9 := Lib.hid (HA.out.app ((Below.refl _ _).alloc (Nat.le_refl _) _) hA); clear hA)))
      go_roundw
      case rel => exact ⟨j + 1, by omega, by go_num, Lib.hid (by rw [HTK.out]; exact HA9.out)⟩
      case measure => simp [intOf]; omega
    · obtain rfl : j = k := by omega
      have HT2 : Hid (P.take j = P) := Lib.hid (by rw [← HBL.out, List.take_length])
      rw [HT2.out] at HA hv
      generalize (R ++ P).length = lj at hv hl2
      subst hv
      go_wp2_with fail
      go_ret
      exact ⟨_, rfl, HA.out.pre HB1.out⟩
def rectE (a b c d : Int) : Bs := be 2 (toU a) ++ (be 2 (toU b) ++ (be 2 (toU c) ++ be 2 (toU d)))
set_option maxRecDepth 100000 in
set_option maxHeartbeats 4000000 in
theorem rrect_any (w0 w : World) (v : Value) (R : Bs) (x0 x1 x2 x3 : Int) (h : FBy w0 v R w) (hl : R.length ≤ 1900) :
    Calls Try.prog 37 #[v, .agg #[.int .i64 x0, .int .i64 x1, .int .i64 x2, .int .i64 x3]] w fun e w' => ∃ v', e = .returned v' ∧ Ap w0 w v (R ++ rectE x0 x1 x2 x3) v' w' := by
  obtain ⟨W, hW⟩ : ∃ W, W = (w.alloc (.cells #[.int .i64 x0, .int .i64 x1, .int .i64 x2, .int .i64 x3] 34)).alloc (.cells #[.int .i64 x0, .int .i64 x1, .int .i64 x2, .int .i64 x3] 3) := ⟨_, rfl⟩
  have HBW := Lib.hid (show Below w.heap.size w W by rw [hW]; exact ((Below.refl _ _).alloc (Nat.le_refl _) _).alloc (by simp) _)
  have HK := Lib.hid (show Blk W (w.heap.size + 1) 3 #[.int .i64 x0, .int .i64 x1, .int .i64 x2, .int .i64 x3] by rw [hW]; exact Blk.newAt (by simp))
  have HVG : Hid (v.ownBlock ≠ some (w.heap.size + 1)) := Lib.hid (fun e => by have := h.own.lt e; omega)
  have HA0 := Lib.hid (Ap.refl (h.below HBW.out))
  have HL := Lib.hid hl
  have wu0 := wrapU x0
  have wu1 := wrapU x1
  have wu2 := wrapU x2
  have wu3 := wrapU x3
  have hu0 := Lib.hid (toU_le x0)
  have hu1 := Lib.hid (toU_le x1)
  have hu2 := Lib.hid (toU_le x2)
  have hu3 := Lib.hid (toU_le x3)
  have HRE : Hid (rectE x0 x1 x2 x3 = be 2 (toU x0) ++ (be 2 (toU x1) ++ (be 2 (toU x2) ++ be 2 (toU x3)))) := Lib.hid rfl
  have b0 := be_length 2 (toU x0)
  have b1 := be_length 2 (toU x1)
  have b2 := be_length 2 (toU x2)
  have b3 := be_length 2 (toU x3)
  generalize toU x0 = n0 at *
  generalize toU x1 = n1 at *
  generalize toU x2 = n2 at *
  generalize toU x3 = n3 at *
  have HPP := Lib.hid (fun (w : World) (v : Value) (R : Bs) (n : Nat) (hn : n ≤ 18446744073709551615) (h : FBy w0 v R w) (hl : R.length ≤ 2000) => rput_any w0 w v R n 2 (by decide) (by decide) hn h hl)
  have HBE := Lib.hid (And.intro b0 (And.intro b1 (And.intro b2 b3)))
  have hWs := hW.symm
  clear hW h hl b0 b1 b2 b3
  go_enter Try.func37, Try.ntmps37
  have k0 := HK.out.cell 0
  simp only [List.getElem?_toArray, List.getElem?_cons_zero, List.getElem?_cons_succ] at k0
  go_wp2_with fail
  refine wp_loop_rounds 5 ?_
  rw [rounds_succ]
  go_wp2_with fail
  refine (HPP.out _ _ (R) n0 hu0.out HA0.out.f (by have h1 := HL.out; have h2 := HBE.out; (try simp only [List.length_append]); omega)).mono ?_
  rintro e w1 ⟨v1, rfl, ha1⟩
  have HA1 := Lib.hid (HA0.out.step ha1)
  clear ha1 k0 hWs
  go_wp2_with fail
  rw [rounds_succ]
  have k1 := (HA1.out.blk HK.out HVG.out).cell 1
  simp only [List.getElem?_toArray, List.getElem?_cons_zero, List.getElem?_cons_succ] at k1
  go_wp2_with fail
  refine (HPP.out _ _ (R ++ be 2 n0) n1 hu1.out HA1.out.f (by have h1 := HL.out; have h2 := HBE.out; (try simp only [List.length_append]); omega)).mono ?_
  rintro e w2 ⟨v2, rfl, ha2⟩
  have HA2 := Lib.hid (HA1.out.step ha2)
  clear ha2 k1 
  go_wp2_with fail
  rw [rounds_succ]
  have k2 := (HA2.out.blk HK.out HVG.out).cell 2
  simp only [List.getElem?_toArray, List.getElem?_cons_zero, List.getElem?_cons_succ] at k2
  go_wp2_with fail
  refine (HPP.out _ _ (R ++ be 2 n0 ++ be 2 n1) n2 hu2.out HA2.out.f (by have h1 := HL.out; have h2 := HBE.out; (try simp only [List.length_append]); omega)).mono ?_
  rintro e w3 ⟨v3, rfl, ha3⟩
  have HA3 := Lib.hid (HA2.out.step ha3)
  clear ha3 k2 
  go_wp2_with fail
  rw [rounds_succ]
  have k3 := (HA3.out.blk HK.out HVG.out).cell 3
  simp only [List.getElem?_toArray, List.getElem?_cons_zero, List.getElem?_cons_succ] at k3
  go_wp2_with fail
  refine (HPP.out _ _ (R ++ be 2 n0 ++ be 2 n1 ++ be 2 n2) n3 hu3.out HA3.out.f (by have h1 := HL.out; have h2 := HBE.out; (try simp only [List.length_append]); omega)).mono ?_
  rintro e w4 ⟨v4, rfl, ha4⟩
  have HA4 := Lib.hid (HA3.out.step ha4)
  clear ha4 k3 
  go_wp2_with fail
  rw [rounds_succ]
  go_wp2_with fail
  go_ret
  have HZ : Hid (R ++ be 2 n0 ++ be 2 n1 ++ be 2 n2 ++ be 2 n3 = R ++ rectE x0 x1 x2 x3) := Lib.hid (by rw [HRE.out]; simp only [List.append_assoc])
  rw [HZ.out] at HA4
  exact ⟨_, rfl, HA4.out.pre HBW.out⟩
end Go.Proofs.Ytmapcdmegkfheaa
